import Derived.Test.YtgmlkfgfjjggnaaGreatDoorSPAB
set_option linter.all false
set_option maxHeartbeats 40000000
set_option maxRecDepth 100000
namespace Go.Proofs.YtgmlkfgfjjggnaaGreatDoor
open Go.Proofs.Tryz
open Go.RowKit
attribute [local go_sem] Am Aj
variable {s i n j g Z k a b o lo hi B m x p c n' b0 e q id:Nat}{f f':Nat->A3}{w1 w w':Y}{v u v' v0 v1 v2 u0 u1 u2:V9}{key:ByteArray}{d:Dc}{α:Type}{X I:Nat->Int}{hf:Vl->Nat}{L:Nat->Pr}{P O':Nat->Prop}{t:Tb}{K:Vl->Prop}{M:Nat->Option Nat}{A:Ad}{xs ys:List Value}{l rest:List Oper}{Bk' Bk:Nat->Nat}{A':Nat->Ad}{s':AK}{T:Nat->Tb}{Q:Exit->Act->World->Prop}{S:World->Prop}{md:Region.Mode}{ops:Array Oper}
theorem YM(s:ByteArray)(w:Y):
  C9 130 #[.string s] w (R9 (V 4 0 0 s 0) w):=by
 go_enter func130,ntmps130
 go_wp2;exact E1 (v:=V 4 0 0 s 0) (by simp[results,results130,go_sem]) rfl ⟨rfl,n9⟩
theorem N6(s:ByteArray)(w:Y):
  C9 211 #[.string s] w (R9 (V 4 0 0 s 0) w):=by
 go_enter func211,ntmps211
 go_wp2;exact E1 (v:=V 4 0 0 s 0) (by simp[results,results211,go_sem]) rfl ⟨rfl,n9⟩
def FQ(s:AK)(j:Nat)(t:Tb)(i:Nat):Pr:=⟨⟨4,0,0,Dr s.F j i,0⟩,t.V i,(i:Int)+1⟩
theorem Io(s:AK)(b0:Nat)(B Z:Nat->Nat)(M:Nat->Option Nat)(A:Ad)(t:Tb)(j:Nat)(w:Y)(hN:Cn w s.F b0 s.nf B Z M)(hid:∀i,i<s.nf->Z i=i)(h0:Ax s.nf s.F=0)(hj:j<s.nf)(hV:I4 w A.va t.nv t.V)(H:t.nv=nf s.F j):
  C9 157 #[CA (B j) A t] w fun e w'=>(∃v,e=.returned v/\Ck w' w.heap.size v (nf s.F j) (FQ s j t))/\B9 w w':=by
 obtain⟨h1,h2,h3,h4,h5⟩:=AB h0;have I:nf s.F j<=12:=by have:=(Ba (k:=s.nf) h2 (fun q h1 h2=>h3 q h1 h2) j hj).2;unfold nf;omega
 obtain⟨i0,hi,T,U,X⟩:=P9 FB;obtain⟨W,E⟩:∃W,W=w.alloc (.cells #[.slice A.va t.nv A.vc,.slice A.la t.d.n A.lc,.slice A.ia t.d.m A.ic,.slice A.xa t.d.x A.xc,J t.d.used,J t.d.live,J t.d.turns,Q9 (B j)] 236):=⟨_,rfl⟩;have l:B9 w W:=by rw[E];exact(Cs _ _).alloc (Be _) _
 have lw:w.heap.size<W.heap.size:=by rw[E];simp
 obtain⟨x0,x7⟩:W.cell? (y w 0)=some (.slice A.va t.nv A.vc)/\W.cell? (y w 7)=some (Q9 (B j)):=by rw[E];simp[go_sem]
 have r:=O (And.intro (hN.below l) hid);have K:=O (hV.below l rfl);have L:=O l;have H2:=O h2;have H3:=O h3;have u:=O H;clear l hV hN hid h0 h1 h2 h3 h4 h5 H;obtain⟨n,hn⟩:∃n,n=nf s.F j:=⟨_,rfl⟩;rw[<-hn]at I u ⊢;have bb:=O hn
 go_enter func157,ntmps157
 go_wp2_with fail
 rw[<-E];clear E;refine(TP _ s.F b0 s.nf B Z M r.1 r.2 H2 H3 j hj).mono ?_;rintro e w1 ⟨⟨m,rfl,hm,c⟩,f⟩;rw[<-hn]at c ⊢;clear hn;have y0:=ol f lw x0;have ae:w.heap.size<w1.heap.size:=At lw f.size;have af:=Ok c;have ag:=O (K.below f rfl);have C:=O (oo L f);have ah:=O c;clear f x0 x7 c K r;go_wp2;go_loopw [3,10] (fun v i wr=>∃(k:Nat),k<=n/\i=J k/\Ck wr w1.heap.size v k (FQ s j t)/\B9 w1 wr) (fun _ i _=>n-(intOf i).toNat)
 case atStart=>exact⟨0,oa,rfl,IF _ _ _ _,Cs _ _⟩
 case round=>
  obtain⟨k,hk,rfl,P,hb⟩:=hrel;by_cases Q:k<n
  case neg=>
   have ai:k=n:=oa;have D:=O (oo C hb);have HO:=O P;clear hb P Q;subst ai;go_wp2;go_ret;exact⟨⟨_,rfl,EW HO C.size⟩,D⟩
  obtain⟨b,off,R,aj,hcs⟩:=ag.resolve_left (oj (z u));have ak:k<t.nv:=oj (z u);obtain⟨e0,e1,e2,e3,e4⟩:=(hcs k ak).keep (fun q=>hb.cell (p:=(G b q)) aj);have p0:wr.cell? (y w 0)=some (.slice (some (G b off)) t.nv A.vc):=by rw[<-R];exact ol hb ae y0
  have q0:wr.cell? (G m k)=some (.string (Dr s.F j k)):=ol hb af (World.rowIs.cell ah Q);have bc:=hb.size;have ao:w.heap.size<wr.heap.size:=oa;have g:b<wr.heap.size:=oa;have D:=O hb;have aq:Hid (Ck wr.drew w1.heap.size u3 k (FQ s j t)):=O P.drew;have S:=O P.lt;clear hb P hcs R;go_wp2_with fail;have bd:IntKind.i64.wrap ((k:Int)+1)=(k:Int)+1:=by rw[Hi];omega
  go_region_law (first
   |(go_simp;go_at_call 211;refine m9 (N6 (Dr s.F j k) _) fun w2 a=>?_;have bf:wr.heap.size<=w2.heap.size:=a.size;have ar:=ol a ao p0;have au:=ol a g e0;have av:=ol a g e1;have aw:=ol a g e2;have ax:=ol a g e3;have ay:=ol a g e4;have l2:w.heap.size<w2.heap.size:=oa;have bg:b<w2.heap.size:=oa;have az:=O (Uq aq a);have aM:=O (D.trans (show Below w1.heap.size wr w2 from⟨a.os,a.tape,a.output,a.size,fun k hk=>a.block k (by show k<wr.heap.size;omega)⟩));clear a)
   |(refine Aaa _ rfl (.tmp 15) (.tmp 27) 85 rfl w1.heap.size 96 i0 PZ 11 104 underlying85 hi T U X rfl oc u3 k (pL (FQ s j t) k) (by simp[Act.eval]) (az.alloc _) (y w2 0) 1 1 (Db (FQ s j t k)) (by simp[Act.eval]) rfl (H8 (BE _ _)) (Fh _) oc (by unfold maxLen;omega) oa oe _ rfl ?_;intro g3 bh w3 h o ad a8;have a6:=O ((aM.alloc oa _).trans (FT o (fun q e=>(S q e).1) oe));have a7:=O h;clear h o))
  all_goals
   clear e0 e1 e2 e3 e4 p0 q0 au av aw ax ay ar;go_wp2;go_roundw
   case rel=>exact⟨k+1,oa,oh,a7,a6⟩
   case measure=>simp[intOf];omega
theorem Ue(c m fc:Nat)(ta:T9)(tc:Nat)(s:AK)(A:Nat->Ad)(i j:Nat)(w:Y)(I:w.cell? (G c 0)=some (S9 m s.nf fc))(U:w.cell? (G c 1)=some (.slice ta s.nt tc))(V:c<w.heap.size)(X:Cl w m s.nf s.F)(hT:aJ w ta s.nt s.T A)(h0:Ax s.nf s.F=0)(hi:i<s.nt)(br:s.nt<=1048576)(K:(s.T i).shape=j)(hj:j<s.nf)(u:(s.T i).nv=nf s.F j):
  C9 106 #[Q9 c,J (i:Int)] w fun e w'=>(∃v,e=.returned v/\Ck w' w.heap.size v (nf s.F j) (FQ s j (s.T i)))/\B9 w w':=by
 obtain⟨h1,h2,h3,h4,h5⟩:=AB h0;have L:nf s.F j<=12:=by have:=(Ba (k:=s.nf) h2 (fun q h1 h2=>h3 q h1 h2) j hj).2;unfold nf;omega
 obtain⟨b1,bn,rfl,bp,hcs⟩:=hT.resolve_left oa;obtain⟨a0,a1,a2,a3,a4,a5,a6,a7⟩:=(hcs i hi).1;have S:=(hcs i hi).2.1;rw[K]at a0;have Z:=X.lt;obtain⟨t,ht⟩:∃t,t=s.T i:=⟨_,rfl⟩;obtain⟨D,hD⟩:∃D,D=A i:=⟨_,rfl⟩;rw[<-ht]at a1 a2 a3 a4 a5 a6 a7 S u ⊢;rw[<-hD]at a1 a2 a3 a4 S;obtain⟨i0,ae,af,ag,ah⟩:=P9 FB;obtain⟨W,H⟩:∃W,W=w.alloc (.cells #[J (j:Int),.slice D.va t.nv D.vc,.slice D.la t.d.n D.lc,.slice D.ia t.d.m D.ic,.slice D.xa t.d.x D.xc,J t.d.used,J t.d.live,J t.d.turns] 94):=⟨_,rfl⟩;have h:B9 w W:=by rw[H];exact(Cs _ _).alloc (Be _) _
 have lw:w.heap.size<W.heap.size:=by rw[H];simp
 obtain⟨x0,x1⟩:W.cell? (y w 0)=some (J (j:Int))/\W.cell? (y w 1)=some (.slice D.va t.nv D.vc):=by rw[H];simp[go_sem]
 have z0:=ol h V I;have lc:c<W.heap.size:=oa;have lm:m<W.heap.size:=oa;have ai:=O (X.below h Z);have aj:=O (S.below h rfl);have ak:=O h;have H1:=O h1;have H2:=O h2;have H3:=O h3;have B:=O u;clear h S h0 h1 h2 h3 h4 h5 u X hcs ht hD K hT;obtain⟨n,hn⟩:∃n,n=nf s.F j:=⟨_,rfl⟩;rw[<-hn]at L B ⊢;have ao:=O hn
 go_enter func106,ntmps106
 go_wp2_with fail
 rw[<-H];clear H a0 a1 a2 a3 a4 a5 a6 a7 I U
 go_region_law (go_simp;go_at_call 171;refine(GK m s.nf fc j s.F _ (ai.below (Cs _ _).drew lm) H1 H2 H3 hj).mono ?_;rintro e w1 ⟨⟨m',rfl,hm,g⟩,f⟩;rw[<-hn]at g;have y1:=ol f lw x1;have aq:w.heap.size<w1.heap.size:=At lw f.size;have ar:=Ok g;have au:=O ((aj.below (Cs _ _).drew rfl).below f rfl);have C:=O (ak.trans (show Below w.heap.size W w1 from⟨f.os,f.tape,f.output,f.size,fun k hk=>f.block k (by show k<W.heap.size;omega)⟩));have av:=O g;clear f g)
 all_goals
 clear hn x0 x1 z0;go_wp2;simp only[Act.put,AaM,AaC,AaB,Aad,AaX,AaW];rw[<-z ao];go_loopw [6,30] (fun v i wr=>∃(k:Nat),k<=n/\i=J k/\Ck wr w1.heap.size v k (FQ s j t)/\B9 w1 wr) (fun _ i _=>n-(intOf i).toNat)
 case atStart=>exact⟨0,oa,rfl,IF _ _ _ _,Cs _ _⟩
 case round=>
  obtain⟨k,hk,rfl,M,hb⟩:=hrel;by_cases P:k<n
  case neg=>
   have aw:k=n:=oa;have E:=O (oo C hb);have HO:=O M;clear hb M P;subst aw;go_wp2;go_ret;exact⟨⟨_,rfl,EW HO C.size⟩,E⟩
  obtain⟨b,off,Q,ax,hcs⟩:=au.resolve_left (oj (z B));have ay:k<t.nv:=oj (z B);obtain⟨e0,e1,e2,e3,e4⟩:=(hcs k ay).keep (fun q=>hb.cell (p:=(G b q)) ax);have p0:wr.cell? (y w 1)=some (.slice (some (G b off)) t.nv D.vc):=by rw[<-Q];exact ol hb aq y1
  have q0:wr.cell? (G m' k)=some (.string (Dr s.F j k)):=ol hb ar (World.rowIs.cell av P);have bt:=hb.size;have az:w.heap.size<wr.heap.size:=oa;have l:b<wr.heap.size:=oa;have E:=O hb;have aM:Hid (Ck wr.drew w1.heap.size u6 k (FQ s j t)):=O M.drew;have R:=O M.lt;clear hb M hcs Q;go_wp2_with fail;have bu:IntKind.i64.wrap ((k:Int)+1)=(k:Int)+1:=by rw[Hi];omega
  go_region_law (first
   |(go_simp;go_at_call 130;refine m9 (YM (Dr s.F j k) _) fun w2 a=>?_;have bw:wr.heap.size<=w2.heap.size:=a.size;have a8:=ol a az p0;have bb:=ol a l e0;have bc:=ol a l e1;have bd:=ol a l e2;have bf:=ol a l e3;have bg:=ol a l e4;have l2:w.heap.size<w2.heap.size:=oa;have bx:b<w2.heap.size:=oa;have bh:=O (Uq aM a);have bj:=O (E.trans (show Below w1.heap.size wr w2 from⟨a.os,a.tape,a.output,a.size,fun k hk=>a.block k (by show k<wr.heap.size;omega)⟩));clear a)
   |(refine Aaa _ rfl (.tmp 35) (.tmp 46) 85 rfl w1.heap.size 96 i0 PZ 11 104 underlying85 ae af ag ah rfl oc u6 k (pL (FQ s j t) k) (by simp[Act.eval]) (bh.alloc _) (y w2 0) 1 1 (Db (FQ s j t k)) (by simp[Act.eval]) rfl (H8 (BE _ _)) (Fh _) oc (by unfold maxLen;omega) oa oe _ rfl ?_;intro g3 bz w3 o r ad bq;have bk:=O ((bj.alloc oa _).trans (FT r (fun q e=>(R q e).1) oe));have bm:=O o;clear o r))
  all_goals
   clear e0 e1 e2 e3 e4 p0 q0 bb bc bd bf bg a8;go_wp2;go_roundw
   case rel=>exact⟨k+1,oa,oh,bm,bk⟩
   case measure=>simp[intOf];omega
noncomputable def Dz(s:AK)(i:Nat):Int:=C6 (s.T i).d (hD (s.T i).d)
open Classical in
noncomputable def aD(s:AK)(t:Tb):Nat:=if t.shape=-1 then IP t.d else nf s.F t.shape.toNat
open Classical in
noncomputable def iJ(s:AK)(t:Tb):Nat->Pr:=if t.shape=-1 then Ea t.d else FQ s t.shape.toNat t
theorem WT{s:AK}(h:lO s (Dz s i) (s.T i)):((s.T i).shape=-1/\C6 (s.T i).d (hD (s.T i).d)=0)\/∃j:Nat,(s.T i).shape=j/\j<s.nf/\(s.T i).nv=nf s.F j:=by
 rcases h with h|h
 ·exact .inl ⟨h.1,h.2.2⟩
 ·refine .inr ⟨(s.T i).shape.toNat,oa,oa,?_⟩;have:=h.2.2.1;unfold nf;omega
theorem QM(c:Nat)(j:T9)(tc:Nat)(s:AK)(A:Nat->Ad)(i:Nat)(w:Y)(q:w.cell? (G c 1)=some (.slice j s.nt tc))(r:c<w.heap.size)(k:aJ w j s.nt s.T A)(hi:i<s.nt)(t:s.nt<=1048576)(a:(s.T i).shape=-1)(l:Small (s.T i).d)(h2:D2 (s.T i).d):
  C9 106 #[Q9 c,J (i:Int)] w fun e w'=>(∃v,e=.returned v/\Ck w' w.heap.size v (IP (s.T i).d) (Ea (s.T i).d))/\B9 w w':=by
 obtain⟨b1,m,rfl,n,hcs⟩:=k.resolve_left oa;obtain⟨a0,a1,a2,a3,a4,a5,D,E⟩:=(hcs i hi).1;have u:=O (hcs i hi).2.2.log;rw[a]at a0;have x:=O l;have B:=O h2;have b:∀o,B9 w (w.alloc o):=fun o=>n9;have g:=O b;clear hcs k l h2 a b
 go_enter func106,ntmps106
 go_wp2_with fail
 refine(Sm _ _ _ _ _ _ (s.T i).d _ (u.below (g _) rfl) x B).mono ?_;rintro e w1 ⟨⟨v,rfl,p⟩,f⟩;have h:=O (oo (g _) f);have C:=O (EW p (g _).size);clear f p;go_wp2;go_ret;exact⟨⟨v,rfl,C⟩,h⟩
theorem Sp(c m l:Nat)(f:T9)(tc:Nat)(s:AK)(A:Nat->Ad)(i:Nat)(w:Y)(g:w.cell? (G c 0)=some (S9 m s.nf l))(b:w.cell? (G c 1)=some (.slice f s.nt tc))(d:c<w.heap.size)(o:Cl w m s.nf s.F)(n:aJ w f s.nt s.T A)(hs:TA s)(p:I0 s (Dz s)=0)(hi:i<s.nt):
  C9 106 #[Q9 c,J (i:Int)] w fun e w'=>(∃v,e=.returned v/\Ck w' w.heap.size v (aD s (s.T i)) (iJ s (s.T i)))/\B9 w w':=by
 obtain⟨h1,h2,h3,h4⟩:=Q8 p;rcases WT (h3 i hi)with⟨a,q⟩|⟨j,a,hj,k⟩
 ·have h:=QM c f tc s A i w b d n hi hs.nt a (hs.MX hi) (Kp q).d2;unfold aD iJ;rw[DD a,DD a];exact h
 ·have h:=Ue c m l f tc s A i j w g b d o n h1 hi hs.nt a hj k;unfold aD iJ;rw[C3 oa,C3 oa,a,NO];exact h
theorem nF(v:V9)(W:Y):Sem.run prog (Instr.typeAssert (.iface 236 v) 162 236 true) W=.ok (.tuple #[v,.bool true]) W:=by
 kernel_rfl
theorem lU(v:V9)(W:Y):Sem.run prog (Instr.typeAssert (.iface 239 v) 162 239 true) W=.ok (.tuple #[v,.bool true]) W:=by
 kernel_rfl
theorem nT(v:V9)(W:Y):Sem.run prog (Instr.typeAssert (.iface 239 v) 162 236 true) W=.ok (.tuple #[.agg #[N9,N9,N9,N9,J 0,J 0,J 0,.pointer none],.bool false]) W:=by
 kernel_rfl
def SZ(f:Nat->A3)(n:Nat):List Value:=(List.range (n*3)).map (cellOf f)
theorem Ms(h:j<n*3):(SZ f n)[j]?=some (cellOf f j):=by simp[SZ,h]
theorem NY(f:Nat->A3)(n:Nat)(s:A3)(hs:f n=s):SZ f n++[J s.parent,.string s.key,J s.count]=SZ f (n+1):=by
 subst hs;unfold SZ;rw[show(n+1)*3=n*3+1+1+1 by omega,List.range_succ,List.range_succ,List.range_succ];simp only[Aaq,List.map_cons,List.map_nil,List.append_assoc,Aar,W9];rw[Qn,Qo,Qp]
theorem Xi{g:Nat->A3}(h:∀i,i<n->f i=g i):SZ f n=SZ g n:=by
 unfold SZ;refine List.map_congr_left fun j hj=>?_;have hj:j<n*3:=List.mem_range.1 hj;unfold cellOf;rw[h (j/3) oa]
abbrev Ev(w:Y)(base:Nat)(v:V9)(n:Nat)(f:Nat->A3):Prop:=w.ownsRow base 205 3 v n (SZ f n)
theorem jY(w:Y)(o:Obj)(x Z X:V9):∀j u,[x,Z,X][j]?=some u->((w.alloc o).alloc (.cells #[x,Z,X] 205)).cell? (((Y9 w 0):Addr).add j)=some u:=fun j u h=>by
 have hb:=BE (w.alloc o) (.cells #[x,Z,X] 205);rw[Deep.nblk_alloc]at hb;exact H8 hb j u h
theorem Qg{wr:Y}{o1 o2:Obj}(a:∀q,v.ownBlock=some q->Z+3<=q/\q<wr.heap.size)(b:((wr.alloc o1).alloc o2).grownBy w1 v.ownBlock)(hz:Z+2<wr.heap.size)
  (x0:wr.cell? (G (Z+2) 0)=some u) (f0:wr.frozen? (G (Z+2) 0)=false):w1.cell? (G (Z+1+1) 0)=some u/\w1.frozen? (G (Z+1+1) 0)=false/\Hid (wr.grownBy w1 v.ownBlock/\∀q,q<Z+3->w1.heap[q]?=wr.heap[q]?):=by
 have c:wr.grownBy w1 v.ownBlock:=((AaS wr o1 _).trans (AaS _ o2 _)).trans b;have hq:∀q,q<Z+3->w1.heap[q]?=wr.heap[q]?:=fun q hq=>c.block q oa (fun e=>oj (a q e.symm).1);exact⟨(As (hq _ (by show Z+1+1<Z+3;omega))).trans x0,(GW (hq _ (by show Z+1+1<Z+3;omega))).trans f0,O ⟨c,hq⟩⟩
theorem Ud(b n cap:Nat)(f:Nat->A3)(w:Y)(hA:Cl w b n f)(hn:n<=200):
  C9 98 #[.agg #[S9 b n cap]] w fun e w'=>(∃v,e=.returned (.agg #[v])/\Ev w' w.heap.size v n f)/\B9 w w':=by
 have hl:=hA.lt;obtain⟨i0,hi,r,c,s⟩:=P9 KT;have t:=O hA;clear hA
 go_enter func98,ntmps98
 go_wp2;go_loopw [9] (fun i wr=>∃(k:Nat) (v:V9),k<=n/\i=J k/\wr.cell? (G (w.heap.size+2) 0)=some v/\wr.frozen? (G (w.heap.size+2) 0)=false/\wr.cell? (Y9 w 0)=some (N9)/\wr.frozen? (Y9 w 0)=false/\w.heap.size+2<wr.heap.size/\Ev wr (w.heap.size+3) v k f/\B9 w wr) (fun i _=>n-(intOf i).toNat)
 case atStart=>
  refine⟨0,N9,oa,rfl,by simp[go_sem],by simp[go_sem],by simp[go_sem],by simp[go_sem],od,?_,((n9).alloc od _).alloc oe _⟩;exact IF _ _ _ _
 case round=>
  obtain⟨k,v,hk,rfl,x0,f0,x1,f1,hz,u,hb⟩:=hrel;have c0:k<n->wr.cell? (G b (k*3))=some (J (f k).parent):=fun h=>((t.below hb hl).cells h).1;have c1:k<n->wr.cell? (G b (k*3+1))=some (.string (f k).key):=fun h=>((t.below hb hl).cells h).2.1;have c2:k<n->wr.cell? (G b (k*3+2))=some (J (f k).count):=fun h=>((t.below hb hl).cells h).2.2;have x:=O hb;have A:=O u;have B:=u.lt;clear hb u;by_cases d:k<n
  case neg=>
   have j:k=n:=oa;subst j;have I:wr.cell? (Y9 w 0)=some (N9):=x1;rcases A.2 with⟨C,D⟩|⟨g,l,cur,C,K,_⟩
   ·subst C;go_wp2;refine E1 (v:=.agg #[N9]) (by simp[results,results98,go_sem,x1]) rfl ⟨⟨_,rfl,?_⟩,x.setCell (by show _<=w.heap.size+1;omega) _⟩;subst D;exact IF _ _ _ _
   ·subst C;go_wp2;refine E1 (v:=.agg #[S9 g k l]) (by simp[results,results98,go_sem,x1]) rfl ⟨⟨_,rfl,?_⟩,x.setCell (by show _<=w.heap.size+1;omega) _⟩;have hk:Ev (wr.setCell (Y9 w 0) (S9 g k l)) (w.heap.size+3) (S9 g k l) k f:=A.kept (DN wr _ _) (.inr (by simp[Value.ownBlock];omega));exact EW hk oa
  have d0:=c0 d;have d1:=c1 d;have d2:=c2 d;clear c0 c1 c2;go_wp2_with (first|(at_builtin;refine Aab _ rfl _ _ 36 rfl (w.heap.size+3) 205 i0 (Sh 0 ⟨#[]⟩ 0) 3 32 underlying36 hi r c s rfl oc v k (SZ f k) rfl ((A.alloc _).alloc _) (Y9 wr 0) 1 1 [J (f k).parent,.string (f k).key,J (f k).count] rfl rfl (jY wr _ _ _ _) (by simp[Value.oneCell']) oc (by unfold maxLen;omega) oa oe _ rfl ?_;intro g l w1 a m F H;obtain⟨L,e0,M⟩:=Qg B m hz x0 f0;have E:=O a;clear a m)|go_in);obtain⟨o,hq⟩:=z M;have a:=z E;rw[NY f k (f k) rfl]at a;have P:=(a.lt g rfl).1;have p:B9 w w1:=x.trans ⟨o.os,o.tape,o.output,o.size,fun q Q=>hq q oa⟩;have c:w.heap.size+2<w1.heap.size:=At hz o.size;go_roundw
  case rel=>
   refine⟨k+1,S9 g (k+1) l,oa,oh,?_,?_,?_,?_,by simpa using c,a.kept (DN w1 _ _) (.inr (by simp[Value.ownBlock];omega)),p.setCell (by show _<=w.heap.size+1+1;omega) _⟩
   ·show(w1.setCell (Z9 w 0) _).cell? (Z9 w 0)=_;simp[go_sem,L]
   ·rw[TC];exact e0
   ·exact(As ((A0 _ _ _ _ (by show w.heap.size+1≠w.heap.size+1+1;omega)).trans (hq _ (by show w.heap.size+1<w.heap.size+3;omega)))).trans x1
   ·rw[TC];exact(GW (hq _ (by show w.heap.size+1<w.heap.size+3;omega))).trans f1
  case measure=>simp[intOf];omega
def Oh(n:Nat)(f:Nat->A3)(i:Nat)(key:ByteArray)(j:Nat):Prop:=0<j/\j<n/\(f j).parent=i/\(f j).key.toList=key.toList
theorem Oh.unique(h4:Gi n f)(hj:Oh n f i key j)(hk:Oh n f i key k):j=k:=by
 obtain⟨a1,a2,a3,a4⟩:=hj;obtain⟨b1,b2,b3,b4⟩:=hk;rcases Nat.lt_trichotomy j k with h|h|h
 ·exact absurd ⟨a3.trans b3.symm,a4.trans b4.symm⟩ (h4 k j a1 h b2)
 ·exact h
 ·exact absurd ⟨b3.trans a3.symm,b4.trans a4.symm⟩ (h4 j k b1 h a2)
def grown(f:Nat->A3)(n i:Nat)(key:ByteArray)(j:Nat):A3:=if j=n then⟨i,key,(f i).count+1⟩else f j
def Tw(n:Nat)(f:Nat->A3)(i:Nat)(key:ByteArray)(n':Nat)(f':Nat->A3)(r:Int):Prop:=
 (∃j,Oh n f i key j/\r=j/\n'=n/\f'=f)\/
 ((∀j,¬Oh n f i key j)/\((f i).count=12\/n=200)/\r=-1/\n'=n/\f'=f)\/
 ((∀j,¬Oh n f i key j)/\(f i).count≠12/\n≠200/\r=n/\n'=n+1/\f'=grown f n i key)
theorem Tw.unique{f1 f2:Nat->A3}{r1 r2:Int}(h4:Gi n f)(h:Tw n f i key a f1 r1)(h':Tw n f i key b f2 r2):a=b/\f1=f2/\r1=r2:=by
 rcases h with⟨j,a1,a2,a3,a4⟩|⟨a1,a2,a3,a4,a5⟩|⟨a1,a2,a3,a4,a5,c⟩
 ·rcases h' with⟨k,b1,b2,b3,b4⟩|⟨b1,_⟩|⟨b1,_⟩
  ·have:=a1.unique h4 b1;subst this;exact⟨a3.trans b3.symm,a4.trans b4.symm,a2.trans b2.symm⟩
  ·exact absurd a1 (b1 j)
  ·exact absurd a1 (b1 j)
 ·rcases h' with⟨k,b1,b2,b3,b4⟩|⟨b1,b2,b3,b4,b5⟩|⟨b1,b2,b3,b4,b5,b6⟩
  ·exact absurd b1 (a1 k)
  ·exact⟨a4.trans b4.symm,a5.trans b5.symm,a3.trans b3.symm⟩
  ·rcases a2 with h|h
   ·exact absurd h b2
   ·exact absurd h b3
 ·rcases h' with⟨k,b1,b2,b3,b4⟩|⟨b1,b2,b3,b4,b5⟩|⟨b1,b2,b3,b4,b5,b6⟩
  ·exact absurd b1 (a1 k)
  ·rcases b2 with h|h
   ·exact absurd h a2
   ·exact absurd h a3
  ·exact⟨a5.trans b5.symm,c.trans b6.symm,a4.trans b4.symm⟩
theorem Xj(f:Nat->A3)(n i:Nat)(key:ByteArray):SZ f n++[J (i:Int),.string key,J ((f i).count+1)]=SZ (grown f n i key) (n+1):=by
 rw[<-NY (grown f n i key) n ⟨i,key,(f i).count+1⟩ (by simp[grown])];rw[Xi (f:=f) (g:=grown f n i key) (fun j hj=>by unfold grown;rw[C3 oa])]
theorem Ev.cells{base:Nat}(h:Ev w base (S9 b n a) n f){i:Nat}(hi:i<n):
  w.cell? (G b (i*3))=some (J (f i).parent)/\w.cell? (G b (i*3+1))=some (.string (f i).key)/\w.cell? (G b (i*3+2))=some (J (f i).count):=
 ⟨by rw[IH h _ oa,Ms oa,Qn],by rw[IH h _ oa,Ms oa,Qo],by rw[IH h _ oa,Ms oa,Qp]⟩
theorem Jo{o:Obj}{a:Addr}(h:w.cell? a=some v):(w.alloc o).cell? a=some v:=by rw[GP _ _ _ (ID w a h)];exact h
structure VM (ob b:Nat) (w w':Y):Prop where
 os:w'.os=w.os
 tape:w'.tape=w.tape
 output:w'.output=w.output
 size:w.heap.size<=w'.heap.size
 block:∀k,k<w.heap.size->k≠ob->k≠b->w'.heap[k]?=w.heap[k]?
 box:w'.heap[ob]?=w.heap[ob]?\/∃u,∀cs ty,w.heap[ob]?=some (.cells cs ty (0,0))->w'.heap[ob]?=some (.cells (cs.setIfInBounds 0 u) ty (0,0))
theorem VM.of{ob:Nat}(h:B9 w w')(a:ob<w.heap.size):VM ob b w w':=⟨h.os,h.tape,h.output,h.size,fun k hk _ _=>h.block k hk,.inl (h.block ob a)⟩
theorem Sn(ob b n l i base:Nat)(key:ByteArray)(f:Nat->A3)(w:Y)(Q:w.cell? (G ob 0)=some (S9 b n l))(ah:w.frozen? (G ob 0)=false)(hO:Ev w base (S9 b n l) n f)(B:ob≠b)(m:ob<w.heap.size)(ag:base<=w.heap.size)
  (h1:D8 n) (h2:BD f) (h3:BK n f) (hi:i<n):
  C9 164 #[Q9 ob,J i,.string key] w fun e w'=>(∃r n' f',e=.returned (J r)/\Tw n f i key n' f' r/\∃b' R,ob≠b'/\(b'=b\/w.heap.size<=b')/\w'.frozen? (G ob 0)=false/\w'.cell? (G ob 0)=some (S9 b' n' R)/\Ev w' base (S9 b' n' R) n' f')/\VM ob b w w':=by
 have a7:n<=200:=h1.2;obtain⟨i0,ai,aj,ak,ao⟩:=P9 KT;obtain⟨a8,bb⟩:=Ba (k:=n) h2 (fun j h1 h2=>h3 j h1 h2) i hi;have bc:=(hO.lt b rfl).1;have bd:=(hO.lt b rfl).2;have HO:=O hO;clear hO h1 h2 h3
 go_enter func164,ntmps164
 go_wp2;go_loopw [14] (fun v wr=>∃k:Nat,k<=n/\v=J k/\B9 w wr/\∀j,j<k->¬Oh n f i key j) (fun v _=>n-(intOf v).toNat)
 case atStart=>exact⟨0,oa,rfl,Cs _ _,fun j hj=>oa⟩
 case round=>
  obtain⟨k,hk,rfl,hb,D⟩:=hrel;have hOr:Ev wr base (S9 b n l) n f:=HO.kept ⟨hb.os,hb.tape,hb.output,hb.size,fun q hq _=>hb.block q hq⟩ (.inr (by simp[Value.ownBlock])) (row:=none);have xb:wr.cell? (G ob 0)=some (S9 b n l):=(hb.cell (by show ob<w.heap.size;omega)).trans Q;have xf:wr.frozen? (G ob 0)=false:=(GW (hb.block ob oa)).trans ah;have hz:w.heap.size<=wr.heap.size:=hb.size;have I:=O hb;have d:=O hOr;have o:=O D;clear hb D hOr;by_cases S:k<n
  ·obtain⟨d0,d1,d2⟩:=d.cells S;by_cases aq:k=0
   ·subst aq;go_wp2;go_roundw
    case rel=>exact⟨1,oa,oh,I.alloc oa _,fun j hj hK=>oj hK.1⟩
    case measure=>simp[intOf];omega
   have bf:decide ((0:Int)<k)=true:=oe;have DI:0<k:=oa;by_cases E:(f k).parent=i
   ·by_cases hK:(f k).key.toList=key.toList
    ·have e1:((f k).parent==(i:Int))=true:=by simp[E]
     have e2:((f k).key.toList==key.toList)=true:=by simp[hK]
     have ar:Hid (Oh n f i key k):=O ⟨DI,S,E,hK⟩;clear E hK;go_wp2;go_ret;exact⟨⟨k,n,f,rfl,.inl ⟨k,ar,rfl,rfl,rfl⟩,b,l,B,.inl rfl,(GW (w:=wr) (DO _ _ _ (by show ob<wr.heap.size;omega))).trans xf,Jo xb,d.alloc _⟩,.of (I.alloc oa _) m⟩
    ·have e1:((f k).parent==(i:Int))=true:=by simp[E]
     have e2:((f k).key.toList==key.toList)=false:=by simp[hK]
     have K:Hid (¬Oh n f i key k):=O (fun h=>hK h.2.2.2);clear E hK;go_wp2;go_roundw
     case rel=>
      refine⟨k+1,oa,oh,I.alloc oa _,fun j hj=>?_⟩;by_cases e:j=k
      ·rw[e];exact K
      ·exact o j oa
     case measure=>simp[intOf];omega
   ·have e1:((f k).parent==(i:Int))=false:=by simp[E]
    have K:Hid (¬Oh n f i key k):=O (fun h=>E h.2.2.1);clear E;go_wp2;go_roundw
    case rel=>
     refine⟨k+1,oa,oh,I.alloc oa _,fun j hj=>?_⟩;by_cases e:j=k
     ·rw[e];exact K
     ·exact o j oa
    case measure=>simp[intOf];omega
  ·have L:Hid (∀j,¬Oh n f i key j):=O (fun j hK=>o j (oj hK.2.1) hK);obtain⟨d0,d1,d2⟩:=d.cells hi;by_cases g:(f i).count=12
   ·have e1:((f i).count==12)=true:=by simp[g]
    have au:=O g;clear g;go_wp2;go_ret;exact⟨⟨-1,n,f,rfl,.inr (.inl ⟨L,.inl au,rfl,rfl,rfl⟩),b,l,B,.inl rfl,xf,xb,d⟩,.of I m⟩
   ·have e1:((f i).count==12)=false:=by simp[g]
    by_cases a:n=200
    ·have e2:((n:Int)==200)=true:=by simp[a]
     have T:=O a;clear a;go_wp2;go_ret;exact⟨⟨-1,n,f,rfl,.inr (.inl ⟨L,.inr T,rfl,rfl,rfl⟩),b,l,B,.inl rfl,xf,xb,d⟩,.of I m⟩
    ·have e2:((n:Int)==200)=false:=oe;have HX:=O (And.intro g a);have hw:IntKind.i64.wrap ((f i).count+1)=(f i).count+1:=by rw[Hi];omega
     have bg:n+1<=200:=oa;clear g d0 d1;go_wp2;have U:ob<wr.heap.size:=oa;have bh:b<wr.heap.size:=oa;obtain⟨ns,p⟩:∃ns:List Value,ns=[J (i:Int),.string key,J ((f i).count+1)]:=⟨_,rfl⟩;have V:Hid ((wr.alloc (.cells #[J (i:Int),.string key,J ((f i).count+1)] 205)).drew.ownsRow base 205 3 (S9 b n l) n (SZ f n)):=O (d.alloc _).drew;have W:Hid (∀j u,ns[j]?=some u->(wr.alloc (.cells #[J (i:Int),.string key,J ((f i).count+1)] 205)).drew.cell? (((y wr 0):Addr).add j)=some u):=O (by rw[p];exact H8 (BE wr (.cells #[J (i:Int),.string key,J ((f i).count+1)] 205)));have X:ns.length=1*3:=by rw[p];rfl
     have F:∀u∈ns,u.oneCell'=true:=by rw[p];simp[Value.oneCell']
     have Z:base<=(wr.alloc (.cells #[J (i:Int),.string key,J ((f i).count+1)] 205)).drew.heap.size:=oe;have av:=O p;have M:Hid ((wr.alloc (.cells #[J (i:Int),.string key,J ((f i).count+1)] 205)).drew.cell? (G ob 0)=some (S9 b n l)/\(wr.alloc (.cells #[J (i:Int),.string key,J ((f i).count+1)] 205)).drew.frozen? (G ob 0)=false):=O ⟨Jo xb,(GW (w:=wr) (DO _ _ _ U)).trans xf⟩;have s:some ob≠(Value.slice (some (G b 0)) n l).ownBlock:=by simpa[Value.ownBlock]using B
     clear p
     go_region_law (refine Aaa _ rfl (.tmp 56) (.tmp 69) 36 rfl base 205 i0 (Sh 0 ⟨#[]⟩ 0) 3 32 underlying36 ai aj ak ao rfl oc (S9 b n l) n (SZ f n) (by simp[Act.eval]) V (y wr 0) 1 1 ns (by simp[Act.eval]) X W F oc (by unfold maxLen;omega) oa Z _ rfl ?_;intro g3 C w3 t c x a6;have y3:w3.cell? (G ob 0)=some (S9 b n l):=c.cell M.1 s;have e3:w3.frozen? (G ob 0)=false:=(GW (c.block ob oe s)).trans M.2;have ad:=O t;have ae:=O c;clear t c)
     all_goals
      have af:Ev w3 base (S9 g3 (n+1) C) (n+1) (grown f n i key):=by
       have h:=z ad;rw[z av,Xj]at h;exact h
      have aw:g3≠ob:=by
       rcases x with h|h
       ·simp[Value.ownBlock]at h;omega
       ·simp at h;omega
      have H:VM ob b w (w3.setCell (G ob 0) (S9 g3 (n+1) C)):=by
       have P:=z ae;have A:=z I;have bj:wr.heap.size+1<=w3.heap.size:=by have:=P.size;simpa using this
       refine⟨P.os.trans A.os,P.tape.trans A.tape,P.output.trans A.output,oe,fun q hq ax bk=>?_,.inr ⟨S9 g3 (n+1) C,fun cs ty e=>?_⟩⟩
       ·rw[A0 _ _ _ _ ax,P.block q oe (by simp[Value.ownBlock];omega)];exact(DO wr _ q oa).trans (A.block q oa)
       ·have e':w3.heap[ob]?=some (.cells cs ty (0,0)):=((P.block ob oe s).trans ((DO wr _ ob oa).trans (A.block ob oa))).trans e;simp[World.setCell,Array.getElem?_modify,e']
      have ay:g3=b\/w.heap.size<=g3:=by
       rcases x with h|h
       ·simp[Value.ownBlock]at h;omega
       ·simp at h;omega
      have az:=O af;have aM:=O H;clear af H ae ad V W M X F Z;go_wp2;go_ret;refine⟨⟨n,n+1,grown f n i key,by first|rfl|simp,.inr (.inr ⟨L,HX.1,HX.2,rfl,rfl,rfl⟩),g3,C,fun e=>aw e.symm,ay,by rw[TC];exact e3,?_,az.kept (DN w3 _ _) (.inr (by simp[Value.ownBlock];omega))⟩,aM⟩;simp[go_sem,y3]
abbrev P8(w:Y)(b n:Nat)(f:Nat->A3):Prop:=Cl w b n f
theorem P8.lt(h:P8 w b n f):b<w.heap.size:=Cl.lt h
theorem P8.cells(h:P8 w b n f){i:Nat}(hi:i<n):
  w.cell? (G b (i*3))=some (J (f i).parent)/\w.cell? (G b (i*3+1))=some (.string (f i).key)/\w.cell? (G b (i*3+2))=some (J (f i).count):=Cl.cells h hi
theorem P8.of_block(h:P8 w b n f)(e:w'.heap[b]?=w.heap[b]?):P8 w' b n f:=Cl.of_block h e
theorem Ev.in{base d:Nat}(h:Ev w base (S9 b n d) n f):base<=b/\P8 w b n f:=by
 obtain⟨hl,⟨c,_⟩|⟨g',cap,cur,c,hb,a,h1,h2,h3,h4⟩⟩:=h
 ·cases c
 ·cases c;refine⟨hb,d*3,fun j=>(cur[j]?).getD undef,oa,⟨cur,a,h3,fun i hi=>by simp[Aag (show i<cur.size by omega)]⟩,fun j hj=>?_⟩;have h5:=Ms (f:=f) hj;rw[<-h4,AaG,DD hj]at h5;show(cur[j]?).getD undef=_;rw[<-Array.getElem?_toList,h5];rfl
def GV(f:Nat->A3)(n:Nat)(w:Y)(v:V9)(lo hi:Nat):Prop:=
 (n=0/\v=N9)\/(0<n/\∃b a,v=S9 b n a/\lo<=b/\b<hi/\P8 w b n f)
theorem GV.keep(h:GV f n w v lo hi)(hk:∀b,lo<=b->b<hi->w'.heap[b]?=w.heap[b]?):GV f n w' v lo hi:=by
 rcases h with h|⟨a,b,c,h1,h2,h3,h4⟩
 ·exact .inl h
 ·exact .inr ⟨a,b,c,h1,h2,h3,h4.of_block (hk b h2 h3)⟩
theorem GV.below(h:GV f n w v lo hi)(hb:Below B w w')(a:hi<=B):GV f n w' v lo hi:=h.keep fun b _ h2=>hb.block b oa
theorem GV.form(h:GV f n w v lo hi):∃a c,v=.slice a n c:=by
 rcases h with⟨rfl,rfl⟩|⟨_,b,c,rfl,_⟩
 ·exact⟨_,_,rfl⟩
 ·exact⟨_,_,rfl⟩
theorem U1(h2:BD f)(h3:BK n f){i:Nat}(hi:i<n):∀t,DG f i t<n:=by
 intro t
 induction t with
 |zero=>exact hi
 |succ t ih=>
  show(f (DG f i t)).parent.toNat<n;rcases W0 (DG f i t)with e|e
  ·rw[e,h2.1];exact Aao (Re _) hi
  ·have:=(h3 _ e ih).2.1;omega
theorem VR{g:Nat->A3}(h2:BD f)(h3:BK n f)(a:∀j,j<n->g j=f j){i:Nat}(hi:i<n):∀t,DG g i t=DG f i t:=by
 intro t
 induction t with
 |zero=>rfl
 |succ t ih=>
  show(g (DG g i t)).parent.toNat=(f (DG f i t)).parent.toNat;rw[ih,a _ (U1 h2 h3 hi t)]
theorem JC{g:Nat->A3}(h2:BD f)(h3:BK n f)(h:∀j,j<n->g j=f j){i:Nat}(hi:i<n)(key:ByteArray):BO g i key=BO f i key:=by
 refine UX.eq ?_;have e:=VR h2 h3 h hi;have hf:∀t,g (DG g i t)=f (DG f i t):=fun t=>by rw[e t,h _ (U1 h2 h3 hi t)]
 rcases IW f i key with⟨t,a,b,c,d⟩|⟨a,b⟩
 ·exact .inl ⟨t,fun s hs=>by rw[e s];exact a s hs,by rw[hf t];exact b,fun s hs=>by rw[hf s];exact c s hs,by rw[hf t];exact d⟩
 ·exact .inr ⟨a,fun t k=>by rw[hf t];exact b t (fun s hs=>by rw[<-e s];exact k s hs)⟩
theorem Dd:∀j,j<n->grown f n k key j=f j:=fun j hj=>by unfold grown;rw[C3 oa]
theorem Fk:grown f n k key n=⟨k,key,(f k).count+1⟩:=by simp[grown]
theorem TY(h:Ax n f=0){k:Nat}(hk:k<n){key:ByteArray}(hs:key.size<=4000)(E:BO f k key<0)(r:∀j,¬Oh n f k key j)(hc:(f k).count≠12)(hn:n≠200):Ax (n+1) (grown f n k key)=0:=by
 obtain⟨h1,h2,h3,h4,h5⟩:=AB h;have B:=Ba (k:=n) h2 (fun j a b=>h3 j a b) k hk;have s:0<n:=oa;have C:D8 (n+1):=⟨oa,oj h1.2⟩;have x:BD (grown f n k key):=by
  unfold BD;rw[Dd 0 s];exact h2
 have A:BK (n+1) (grown f n k key):=by
  intro i t hi;unfold Z4;by_cases e:i=n
  ·subst e;rw[Fk];refine⟨by show(0:Int)<=k;omega,by show(k:Int)<i;omega,?_,by show(f k).count+1<=12;omega,hs⟩;show(f k).count+1=(grown f i k key ((k:Int).toNat)).count+1;rw[NO,Dd k hk]
  ·have g:i<n:=oa;obtain⟨a,b,c,d,e⟩:=h3 i t g;rw[Dd i g,Dd _ oa];exact⟨a,b,c,d,e⟩
 have D:Gi (n+1) (grown f n k key):=by
  intro i j u m hi p;unfold Twin at p;by_cases e:i=n
  ·subst e;rw[Dd j m,Fk]at p;exact r j ⟨oa,m,p.1,p.2⟩
  ·rw[Dd i oa,Dd j oa]at p;exact h4 i j u m oa p
 refine KR C x A D (AaJ fun v=>?_);obtain⟨i,q,hi,l⟩:=(EY x A).2 v;by_cases e:i=n
 ·subst e;have o:Az (grown f i k key) i=k:=by unfold Az;rw[Fk];rfl
  rw[o,JC h2 h3 (fun j hj=>Dd j hj) hk,Fk]at l;have l:0<=BO f k key:=l;omega
 ·have g:i<n:=oa;have o:Az (grown f n k key) i=Az f i:=by unfold Az;rw[Dd i g]
  have w:Az f i<n:=by have:=(h3 i q g).2.1;unfold Az;omega
  rw[o,JC h2 h3 (fun j hj=>Dd j hj) w,Dd i g]at l;exact(EY h2 h3).1 ⟨i,q,g,l⟩ h5
theorem gJ(h2:BD f)(h3:BK n f){k r:Nat}{key:ByteArray}(hK:Oh n f k key r):nf f r=nf f k+1:=by
 obtain⟨a,b,c,d⟩:=hK;have h:=(h3 r a b).2.2.1;have e:=(h3 r a b).2.1;rw[c]at h e;have hk:k<n:=oa;have:=(Ba (k:=n) h2 (fun j a b=>h3 j a b) k hk).1;unfold nf;rw[h];show((f k).count+1).toNat=_;omega
theorem Y1{g:Nat->A3}(a:∀j,j<n->g j=f j){i:Nat}(hi:i<n):nf g i=nf f i:=by unfold nf;rw[a i hi]
def Dm(n:Int):Vl:=⟨2,n,0,⟨#[]⟩,0⟩
def AP{α:Type}(f:Nat->α)(i:Nat)(v:α):Nat->α:=fun j=>if j=i then v else f j
theorem Ao{α:Type}(f:Nat->α)(i:Nat)(v:α):AP f i v i=v:=DD rfl
theorem Af{α:Type}(f:Nat->α){i j:Nat}(v:α)(h:j≠i):AP f i v j=f j:=C3 h
structure KeyLaw (K:Vl->Prop) (hf:Vl->Nat):Prop where
 refl:∀a,K a->AE a a=true
 symm:∀a b,K a->K b->AE a b=true->AE b a=true
 trans:∀a b c,K a->K b->K c->AE a b=true->AE b c=true->AE a c=true
 hash:∀a b,K a->K b->AE a b=true->hf a=hf b
 int:∀a b,K a->K b->a.kind=2->b.kind=2->a.num=b.num->AE a b=true
 own:∀n:Int,K (Dm n)
 none:Gr (default:Vl)=true
theorem EC{a b:Vl}(h:AE a b=true):a.kind=b.kind:=by
 unfold AE at h;simp only[To,beq_iff_eq]at h;exact h.1
theorem FD{a b:Vl}(h:AE a b=true):a.num=b.num:=by
 unfold AE at h;simp only[To,beq_iff_eq]at h;exact h.2.1
theorem Ns{a b:Vl}(h:AE a b=true):AA m a↔AA m b:=by
 unfold AA;rw[EC h,FD h]
def Reach(x:Nat)(X:Nat->Int)(a s:Nat):Prop:=∃t,t<x/\s=(a+t)%x/\∀j,j<t->X ((a+j)%x)≠0
theorem Reach.mono{Z:Nat->Int}(h:Reach x X a s)(e:∀j,j<x->X j≠0->Z j≠0):Reach x Z a s:=by
 obtain⟨t,h1,h2,h3⟩:=h;exact⟨t,h1,h2,fun j hj=>e _ (TO _ oa) (h3 j hj)⟩
structure Idx (hf:Vl->Nat) (L:Nat->Pr) (x:Nat) (X:Nat->Int) (P:Nat->Prop):Prop where
 range:∀s,s<x->X s=0\/X s=-1\/(0<X s/\P (X s-1).toNat)
 has:∀i,P i->∃s,s<x/\X s=i+1/\Reach x X (hf (L i).key%x) s
 uniq:∀s s',s<x->s'<x->0<X s->X s=X s'->s=s'
theorem Idx.congr{L':Nat->Pr}{b:Nat->Prop}(h:Idx hf L x X P)(a:∀i,b i↔P i)(c:∀i,P i->(L' i).key=(L i).key):Idx hf L' x X b:=
 ⟨fun s hs=>(h.range s hs).imp id (Or.imp id (fun e=>⟨e.1,(a _).2 e.2⟩)),fun i hi=>by rw[c i ((a i).1 hi)];exact h.has i ((a i).1 hi),h.uniq⟩
theorem Idx.empty(hf:Vl->Nat)(L:Nat->Pr)(x:Nat)(P:Nat->Prop)(a:∀i,¬P i):Idx hf L x (fun _=>0) P:=
 ⟨fun s _=>.inl rfl,fun i hi=>absurd hi (a i),fun s s' _ _ h=>absurd h od⟩
theorem Idx.put(h:Idx hf L x X P){p s:Nat}(f:¬P p)(hs:s<x)(k:X s<=0)(g:Reach x X (hf (L p).key%x) s):Idx hf L x (AP X s ((p:Int)+1)) (fun i=>P i\/i=p):=by
 have b:∀j,j<x->X j≠0->AP X s ((p:Int)+1) j≠0:=by
  intro j _ hj;by_cases e:j=s
  ·subst e;rw[Ao];omega
  ·rw[Af _ _ e];exact hj
 have c:∀t,t<x->X t≠(p:Int)+1:=by
  intro t a e;rcases h.range t a with h1|h1|h1
  ·omega
  ·omega
  ·rw[e]at h1;exact f (by simpa using h1.2)
 refine⟨fun t a=>?_,fun i hi=>?_,fun t t' a d h1 h2=>?_⟩
 ·by_cases e:t=s
  ·subst e;rw[Ao];exact .inr (.inr ⟨oa,.inr oa⟩)
  ·rw[Af _ _ e];exact(h.range t a).imp id (Or.imp id (fun e=>⟨e.1,.inl e.2⟩))
 ·by_cases e:i=p
  ·subst e;exact⟨s,hs,Ao _ _ _,g.mono b⟩
  ·obtain⟨t,h1,h2,h3⟩:=h.has i (hi.resolve_right e);exact⟨t,h1,by rw[Af _ _ (fun e'=>by subst e';omega)];exact h2,h3.mono b⟩
 ·by_cases e:t=s
  ·by_cases e':t'=s
   ·rw[e,e']
   ·subst e;rw[Ao,Af _ _ e']at h2;exact absurd h2.symm (c t' d)
  ·by_cases e':t'=s
   ·subst e';rw[Ao,Af _ _ e]at h2;exact absurd h2 (c t a)
   ·rw[Af _ _ e,Af _ _ e']at h2;rw[Af _ _ e]at h1;exact h.uniq t t' a d h1 h2
theorem Idx.leave(h:Idx hf L x X P){s:Nat}(hs:s<x)(d:0<X s):Idx hf L x (AP X s (-1)) (fun i=>P i/\(i:Int)+1≠X s):=by
 have b:∀j,j<x->X j≠0->AP X s (-1) j≠0:=by
  intro j _ hj;by_cases e:j=s
  ·subst e;rw[Ao];omega
  ·rw[Af _ _ e];exact hj
 refine⟨fun t a=>?_,fun i hi=>?_,fun t t' a c h1 h2=>?_⟩
 ·by_cases e:t=s
  ·subst e;rw[Ao];exact .inr (.inl rfl)
  ·rw[Af _ _ e];refine(h.range t a).imp id (Or.imp id (fun e'=>⟨e'.1,e'.2,fun e''=>e (h.uniq t s a hs e'.1 oa)⟩))
 ·obtain⟨t,h1,h2,h3⟩:=h.has i hi.1;refine⟨t,h1,?_,h3.mono b⟩;rw[Af _ _ (fun e'=>by subst e';exact hi.2 h2.symm)];exact h2
 ·by_cases e:t=s
  ·subst e;rw[Ao]at h1;omega
  ·by_cases e':t'=s
   ·subst e';rw[Ao,Af _ _ e]at h2;rw[Af _ _ e]at h1;omega
   ·rw[Af _ _ e,Af _ _ e']at h2;rw[Af _ _ e]at h1;exact h.uniq t t' a c h1 h2
def B5(X:Nat->Int):Nat->Nat
 |0=>0
 |k+1=>if X k=0 then B5 X k else B5 X k+1
theorem Ef(d:Dc)(k:Nat):Ep d k=B5 d.X k:=by
 induction k with
 |zero=>rfl
 |succ k ih=>show(if _ then _ else _)=(if _ then _ else _);rw[ih]
theorem VL(X:Nat->Int)(k:Nat):B5 X k<=k:=by
 induction k with
 |zero=>exact Be _
 |succ k ih=>
  show(if X k=0 then B5 X k else B5 X k+1)<=k+1;by_cases e:X k=0
  ·rw[DD e];omega
  ·rw[C3 e];omega
theorem FO{X':Nat->Int}(h:∀j,j<k->(X j=0↔X' j=0)):B5 X k=B5 X' k:=by
 induction k with
 |zero=>rfl
 |succ k ih=>
  show(if _ then _ else _)=(if _ then _ else _);rw[ih (fun j hj=>h j oa)];by_cases e:X k=0
  ·rw[DD e,DD ((h k oa).1 e)]
  ·rw[C3 e,C3 (fun e'=>e ((h k oa).2 e'))]
theorem I1(k:Nat):B5 (fun _=>0) k=0:=by
 induction k with
 |zero=>rfl
 |succ k ih=>show(if _ then _ else _)=_;rw[DD rfl];exact ih
theorem N8{v:Int}(a:v≠0)(b:X s=0):∀k,B5 (AP X s v) k=B5 X k+(if s<k then 1 else 0):=by
 intro k
 induction k with
 |zero=>rfl
 |succ k ih=>
  show(if _ then _ else _)=(if _ then _ else _)+_;rw[ih];by_cases e:k=s
  ·subst e;rw[Ao,C3 a,DD b,C3 oa,DD oa]
  ·rw[Af _ _ e];by_cases e1:X k=0
   focus
    rw[DD e1,DD e1]
   rotate_left
   focus
    rw[C3 e1,C3 e1]
   rotate_left;all_goals
    by_cases e2:s<k
    ·rw[DD e2,DD oa]
    ·rw[C3 e2,C3 oa]
theorem XA(h:B5 X k<k):∃j,j<k/\X j=0:=by
 induction k with
 |zero=>omega
 |succ k ih=>
  by_cases e:X k=0
  ·exact⟨k,oa,e⟩
  ·have h':(if X k=0 then B5 X k else B5 X k+1)<k+1:=h;rw[C3 e]at h';obtain⟨j,h1,h2⟩:=ih oa;exact⟨j,oa,h2⟩
theorem Xf(b:a<x)(hs:s<x):∃t,t<x/\s=(a+t)%x:=by
 by_cases h:a<=s
 ·exact⟨s-a,oa,by rw[show a+(s-a)=s by omega,So hs]⟩
 ·refine⟨s+x-a,oa,?_⟩;rw[show a+(s+x-a)=s+x by omega,Nat.add_mod_right,So hs]
def CS(x:Nat)(X:Nat->Int)(a:Nat):Option Nat:=(Et x a x).find? (fun s=>decide (X s<=0))
theorem UA{f t:Nat}(h:t<f):Et x a f=Et x a t++((a+t)%x)::(List.range' (t+1) (f-t-1)).map (fun j=>(a+j)%x):=by
 unfold Et;have:List.range f=List.range t++t::List.range' (t+1) (f-t-1):=by
  rw[List.range_eq_range',List.range_eq_range',show f=t+(f-t) by omega,<-List.range'_append_1,show t+(f-t)-t-1=f-t-1 by omega]
  congr 1
  obtain⟨g,b⟩:∃g,f-t=g+1:=⟨f-t-1,oa⟩;rw[b,List.range'_succ];simp
 rw[this];simp
theorem Ly{t:Nat}(b:t<x)(h:∀j,j<t->0<X ((a+j)%x))(c:X ((a+t)%x)<=0):CS x X a=some ((a+t)%x):=by
 unfold CS;rw[UA b,List.find?_append];have:(Et x a t).find? (fun s=>decide (X s<=0))=none:=by
  rw[List.find?_eq_none];intro s hs;unfold Et at hs;obtain⟨j,hj,rfl⟩:=List.mem_map.1 hs;have:=h j (List.mem_range.1 hj);simp;omega
 rw[this];simp[c]
theorem least:∀n,(∃t,t<n/\P t)->∃t,t<n/\P t/\∀j,j<t->¬P j:=by
 intro n
 induction n with
 |zero=>rintro⟨t,h,_⟩;omega
 |succ n ih=>
  rintro⟨t,h,b⟩;by_cases e:∃t,t<n/\P t
  ·obtain⟨t,h1,h2,h3⟩:=ih e;exact⟨t,oa,h2,h3⟩
  ·exact⟨t,h,b,fun j hj a=>e ⟨j,oa,a⟩⟩
theorem EI(c:a<x)(hu:B5 X x<x):∃t,t<x/\CS x X a=some ((a+t)%x)/\X ((a+t)%x)<=0/\∀j,j<t->0<X ((a+j)%x):=by
 obtain⟨s,hs,f⟩:=XA hu;obtain⟨t,d,e⟩:=Xf c hs;obtain⟨t,h1,h2,h3⟩:=least (P:=fun t=>X ((a+t)%x)<=0) x ⟨t,d,by rw[<-e];omega⟩;have b:∀j,j<t->0<X ((a+j)%x):=fun j hj=>oj (h3 j hj);exact⟨t,h1,Ly h1 b h2,h2,b⟩
def AL(hf:Vl->Nat)(d:Dc)(k:Vl)(p:Nat):Dc:=
 match CS d.x d.X (hf k%d.x)with
 |none=>d
 |some a=>{d with X:=AP d.X a ((p:Int)+1),used:=if d.X a=0 then d.used+1 else d.used}
theorem EO{k:Vl}(h:CS d.x d.X (hf k%d.x)=some a):AL hf d k p={d with X:=AP d.X a ((p:Int)+1),used:=if d.X a=0 then d.used+1 else d.used}:=by
 unfold AL;rw[h]
theorem MZ{k:Vl}(h:Idx hf L d.x d.X P)(c:¬P p)(hk:hf (L p).key=hf k)(hx:B5 d.X d.x<d.x)(hu:(B5 d.X d.x:Int)=d.used):
  Idx hf L (AL hf d k p).x (AL hf d k p).X (fun i=>P i\/i=p)/\(B5 (AL hf d k p).X (AL hf d k p).x:Int)=(AL hf d k p).used/\(AL hf d k p).x=d.x/\(AL hf d k p).n=d.n/\(AL hf d k p).L=d.L/\(AL hf d k p).m=d.m/\(AL hf d k p).I=d.I/\(AL hf d k p).live=d.live/\(AL hf d k p).turns=d.turns/\B5 (AL hf d k p).X d.x<=B5 d.X d.x+1:=by
 have b:0<d.x:=oa;obtain⟨t,h1,h2,h3,h4⟩:=EI (a:=hf k%d.x) (TO _ b) hx;rw[EO h2];have hs:(hf k%d.x+t)%d.x<d.x:=TO _ b;refine⟨h.put c hs h3 ⟨t,h1,by rw[hk],fun j hj=>by rw[hk];have:=h4 j hj;omega⟩,?_,rfl,rfl,rfl,rfl,rfl,rfl,rfl,?_⟩
 ·show(B5 (AP d.X ((hf k%d.x+t)%d.x) ((p:Int)+1)) d.x:Int)=if d.X ((hf k%d.x+t)%d.x)=0 then d.used+1 else d.used
  by_cases e:d.X ((hf k%d.x+t)%d.x)=0
  ·rw[DD e,N8 oa e,DD hs];omega
  ·rw[C3 e,<-hu,FO (X:=AP d.X _ _) (X':=d.X) (fun j hj=>?_)];by_cases e':j=(hf k%d.x+t)%d.x
   ·subst e';rw[Ao];constructor<;>intro h<;>omega
   ·rw[Af _ _ e']
 ·show B5 (AP d.X ((hf k%d.x+t)%d.x) ((p:Int)+1)) d.x<=_;by_cases e:d.X ((hf k%d.x+t)%d.x)=0
  ·rw[N8 oa e,DD hs];omega
  ·rw[FO (X:=AP d.X _ _) (X':=d.X) (fun j hj=>?_)]
   ·omega
   ·by_cases e':j=(hf k%d.x+t)%d.x
    ·subst e';rw[Ao];constructor<;>intro h<;>omega
    ·rw[Af _ _ e']
structure Ln (d:Dc):Prop where
 Cr:∀i,i<d.n->Entry d i
 ord:∀i j,i<j->j<d.n->(d.L i).turn≠0->(d.L j).turn≠0->(d.L i).turn<(d.L j).turn
 EH:(IP d:Int)=d.live
theorem Ln.d2(h:Ln d):D2 d:=by
 have main:∀k,k<=d.n->∃last,DF d k=some (((AM d k).length:Int),last)/\(last=0\/∃i,i<k/\(d.L i).turn≠0/\(d.L i).turn=last):=by
  intro k
  induction k with
  |zero=>intro _;exact⟨0,rfl,.inl rfl⟩
  |succ k ih=>
   intro hk;obtain⟨last,e,hl⟩:=ih oa;rcases h.Cr k oa with⟨b,c,f⟩|⟨b,h1,h2,h3,h4⟩
   ·refine⟨last,?_,?_⟩
    ·rw[Jz e b,c,f,Ce b];rfl
    ·rcases hl with hl|⟨i,h1,h2⟩
     ·exact .inl hl
     ·exact .inr ⟨i,oa,h2⟩
   ·have a:(d.L k).turn≠0:=oa;have g:last<(d.L k).turn:=by
     rcases hl with hl|⟨i,g1,g2,g3⟩
     ·omega
     ·have:=h.ord i k g1 oa g2 a;omega
    refine⟨(d.L k).turn,?_,.inr ⟨k,oa,a,rfl⟩⟩;have j:PJ d.turns last (d.L k)=true:=by unfold PJ;simp[g,h1,h2,h3,h4]
    rw[JA e a,DD j,Bf a,ON,Aai]
    congr 1
 obtain⟨last,e,_⟩:=main d.n (Be _);exact⟨last,by rw[e];congr 1;rw[<-h.EH];rfl⟩
def Tt(d:Dc)(i:Nat):Prop:=i<d.n/\(d.L i).turn≠0/\¬AA d.m (d.L i).key
structure Cj (K:Vl->Prop) (hf:Vl->Nat) (d:Dc):Prop where
 log:Ln d
 keys:∀i,i<d.n->(d.L i).turn≠0->K (d.L i).key
 JW:∀i j,i<d.n->j<d.n->(d.L i).turn≠0->(d.L j).turn≠0->AE (d.L i).key (d.L j).key=true->i=j
 ints:∀j,j<d.m->Ic d j
 last:d.m=0\/0<d.I (d.m-1)
 small:∀i,i<d.n->(d.L i).turn≠0->AA d.m (d.L i).key->d.I ((d.L i).key.num-1).toNat=i+1
 sz:Lr d.x
 idx:Idx hf d.L d.x d.X (Tt d)
 used:(B5 d.X d.x:Int)=d.used
 half:2*B5 d.X d.x<=d.x
 turns:0<=d.turns/\d.turns<=1000000000000
 le:d.live<=500
def Next(d:Dc):Prop:=∀i,i<d.n->(d.L i).turn≠0->¬((d.L i).key.kind=2/\(d.L i).key.num=(d.m:Int)+1)
def XZ(d:Dc):Prop:=(d.n:Int)<=8\/(d.n:Int)<=2*d.live
structure Inv (K:Vl->Prop) (hf:Vl->Nat) (d:Dc):Prop where
 i0:Cj K hf d
 next:Next d
 tight:XZ d
theorem Cj.d3(h:Cj K hf d):D3 d:=⟨h.ints,h.last⟩
theorem Cj.d4(h:Cj K hf d):D4 d:=by
 refine⟨h.sz,fun j hj=>?_,by rw[Ef];exact h.used,by rw[Ef];exact h.half⟩;rcases h.idx.range j hj with e|e|⟨e,h1,h2,h3⟩
 ·exact .inl e
 ·exact .inr (.inl e)
 ·exact .inr (.inr ⟨e,oa,h2,h3⟩)
theorem Inv.d1(h:Inv K hf d):D1 d:=⟨oj h.i0.log.EH,h.i0.le,h.i0.turns.1,h.i0.turns.2,h.tight⟩
theorem Ux{v:Vl}(hx:0<d.x):∀(f a s:Nat),a<d.x->f<=d.x->probe d v a f=some s->0<d.X s/\AE (d.at (d.X s)).key v=true/\∃t,t<f/\s=(a+t)%d.x/\∀j,j<t->d.X ((a+j)%d.x)≠0:=by
 intro f
 induction f with
 |zero=>intro a s _ _ h;cases h
 |succ f ih=>
  intro a s c hf h;by_cases b:d.X a=0
  ·rw[GX b]at h;cases h
  ·by_cases hl:0<d.X a/\AE (d.at (d.X a)).key v=true
   ·rw[IX hl.1 hl.2]at h;cases h;exact⟨hl.1,hl.2,0,oa,by rw[W4,So c],fun j hj=>oa⟩
   ·rw[ED b hl]at h;obtain⟨h1,h2,t,h3,h4,h5⟩:=ih _ _ (TO _ hx) oa h;refine⟨h1,h2,t+1,oa,?_,fun j hj=>?_⟩
    ·rw[h4,Nat.mod_add_mod];congr 1;omega
    ·cases j with
     |zero=>rw[W4,So c];exact b
     |succ j=>
      have:=h5 j oa;rw[Nat.mod_add_mod]at this
      rwa [show a+(j+1)=a+1+j by omega]
theorem Zg{v:Vl}(hx:0<d.x):∀(t a f:Nat),a<d.x->t<f->(∀j,j<t->d.X ((a+j)%d.x)≠0/\¬(0<d.X ((a+j)%d.x)/\AE (d.at (d.X ((a+j)%d.x))).key v=true))->0<d.X ((a+t)%d.x)->AE (d.at (d.X ((a+t)%d.x))).key v=true->probe d v a f=some ((a+t)%d.x):=by
 intro t
 induction t with
 |zero=>
  intro a f b hf _ h1 h2;obtain⟨g,rfl⟩:∃g,f=g+1:=⟨f-1,oa⟩;have e:(a+0)%d.x=a:=So b;rw[e]at h1 h2 ⊢;exact IX h1 h2
 |succ t ih=>
  intro a f b hf h h1 h2;obtain⟨g,rfl⟩:∃g,f=g+1:=⟨f-1,oa⟩;have c:=h 0 oa;rw[W4,So b]at c;rw[ED c.1 c.2];have e:∀j,((a+1)%d.x+j)%d.x=(a+(j+1))%d.x:=fun j=>by rw[Nat.mod_add_mod];congr 1;omega
  have:=ih ((a+1)%d.x) g (TO _ hx) oa (fun j hj=>by rw[e];exact h (j+1) oa) (by rw[e];exact h1) (by rw[e];exact h2);rw[this,e]
theorem Uw{v:Vl}(hx:0<d.x)(h:∀s,s<d.x->¬(0<d.X s/\AE (d.at (d.X s)).key v=true)):∀(f a:Nat),a<d.x->probe d v a f=none:=by
 intro f
 induction f with
 |zero=>intro a _;rfl
 |succ f ih=>
  intro a c;by_cases b:d.X a=0
  ·exact GX b
  ·rw[ED b (h a c)];exact ih _ (TO _ hx)
section
variable {K:Vl->Prop} {hf:Vl->Nat} {d:Dc}
theorem Cj.found(h:Cj K hf d)(l:KeyLaw K hf){v:Vl}(m:K v){i:Nat}(hi:Tt d i)(hl:AE (d.L i).key v=true):∃s,s<d.x/\d.X s=i+1/\AQ d v (hf v)=some s:=by
 obtain⟨s,hs,f,t,u,rfl,a⟩:=h.idx.has i hi;have b:=h.keys i hi.1 hi.2.1;have hx:0<d.x:=oa;rw[l.hash _ _ b m hl]at hs f a;refine⟨_,hs,f,?_⟩;unfold AQ;rw[C3 oa];have n:(d.at ((i:Int)+1))=d.L i:=by unfold Dc.at;congr 1;omega
 refine Zg hx t _ _ (TO _ hx) u (fun j hj=>⟨a j hj,fun hc=>?_⟩) (by rw[f];omega) (by rw[f,n];exact hl);have g:(hf v%d.x+j)%d.x<d.x:=TO _ hx;rcases h.idx.range _ g with e|e|⟨e,k⟩
 ·exact a j hj e
 ·omega
 ·have o:=h.keys _ k.1 k.2.1;have p:AE (d.L (d.X ((hf v%d.x+j)%d.x)-1).toNat).key (d.L i).key=true:=l.trans _ _ _ o m b hc.2 (l.symm _ _ b m hl);have:=h.JW _ _ k.1 hi.1 k.2.1 hi.2.1 p;have r:d.X ((hf v%d.x+j)%d.x)=d.X ((hf v%d.x+t)%d.x):=by rw[f];omega
  have c:=h.idx.uniq _ _ g hs e r;have:j=t:=by
   have h1:(hf v%d.x)<d.x:=TO _ hx;have e1:∀q,q<d.x->(hf v%d.x+q)%d.x=if hf v%d.x+q<d.x then hf v%d.x+q else hf v%d.x+q-d.x:=by
    intro q hq;by_cases e:hf v%d.x+q<d.x
    ·rw[DD e,So e]
    ·rw[C3 e,Nat.mod_eq_sub_mod oa,So oa]
   rw[e1 j oa,e1 t u]at c
   split at c<;>split at c<;>omega
  omega
theorem Cj.lost(h:Cj K hf d){v:Vl}{a:Nat}(b:∀i,Tt d i->AE (d.L i).key v=false):AQ d v a=none:=by
 unfold AQ;by_cases hx:d.x=0
 ·rw[DD hx]
 ·rw[C3 hx];refine Uw oa (fun s hs hc=>?_) _ _ (TO _ oa);rcases h.idx.range s hs with e|e|⟨e,c⟩
  ·omega
  ·omega
  ·have:=b _ c;rw[hc.2]at this;cases this
theorem S8{v:Vl}(e:AQ d v a=some s):s<d.x/\0<d.X s/\AE (d.at (d.X s)).key v=true/\Reach d.x d.X (a%d.x) s:=by
 unfold AQ at e
 split at e
 ·cases e
 ·next hx=>
  obtain⟨h1,h2,t,h3,h4,h5⟩:=Ux oa _ _ _ (TO _ oa) (Be _) e;exact⟨by rw[h4];exact TO _ oa,h1,h2,t,h3,h4,h5⟩
theorem Cj.place(h:Cj K hf d)(b:KeyLaw K hf){v:Vl}(c:K v):
  (∃i,i<d.n/\(d.L i).turn≠0/\AE (d.L i).key v=true/\Aw d v (hf v)=i)\/((∀i,i<d.n->(d.L i).turn≠0->AE (d.L i).key v=false)/\Aw d v (hf v)=-1):=by
 unfold Aw;by_cases hs:AA d.m v
 ·rw[DD hs];obtain⟨k1,k2,k3⟩:=hs;have hq:(v.num-1).toNat<d.m:=oa;rcases h.ints _ hq with e|⟨e1,e2,e3,f,g⟩
  ·right;refine⟨fun i hi j=>?_,oa⟩;cases hl:AE (d.L i).key v
   ·rfl
   ·have:=h.small i hi j ((Ns hl).2 ⟨k1,k2,k3⟩);rw[FD hl]at this;omega
  ·left;refine⟨(d.I (v.num-1).toNat-1).toNat,oa,e3,?_,oa⟩;exact b.int _ _ (h.keys _ oa e3) c f k1 (by rw[g];omega)
 ·rw[C3 hs];by_cases hex:∃i,i<d.n/\(d.L i).turn≠0/\AE (d.L i).key v=true
  ·obtain⟨i,h1,h2,h3⟩:=hex;obtain⟨s,g1,g2,g3⟩:=h.found b c ⟨h1,h2,fun k=>hs ((Ns h3).1 k)⟩ h3;left;refine⟨i,h1,h2,h3,?_⟩;rw[g3];show d.X s-1=_;omega
  ·have a:∀i,i<d.n->(d.L i).turn≠0->AE (d.L i).key v=false:=fun i h1 h2=>by
    cases hl:AE (d.L i).key v
    ·rfl
    ·exact absurd ⟨i,h1,h2,hl⟩ hex
   right;refine⟨a,?_⟩;rw[h.lost (fun i hi=>a i hi.1 hi.2.1)];rfl
end
theorem MU{f:Nat->Int}(h:∀j,j<k->f j≠(i:Int)+1):EH f i k=0:=by
 induction k with
 |zero=>rfl
 |succ k ih=>
  show(if _ then _ else _)=0;rw[C3 (h k oa)];exact ih (fun j hj=>h j oa)
theorem U3{f:Nat->Int}:∀{k:Nat},s<k->f s=(i:Int)+1->(∀j,j<k->f j=(i:Int)+1->j=s)->EH f i k=1:=by
 intro k
 induction k with
 |zero=>intro h;omega
 |succ k ih=>
  intro hs h1 h2;show(if _ then _ else _)=1;by_cases e:k=s
  ·subst e;rw[DD h1,MU (fun j hj e'=>oj (h2 j oa e'))]
  ·rw[C3 (fun e'=>e (h2 k oa e'))];exact ih oa h1 (fun j hj=>h2 j oa)
theorem Inv.sound(h:Inv K hf d)(g:KeyLaw K hf):Sound d (fun i=>hf (d.L i).key):=by
 refine⟨h.d1,h.i0.log.d2,h.i0.d3,h.i0.d4,fun i hi a=>⟨?_,?_,h.next i hi a⟩⟩
 ·by_cases hs:AA d.m (d.L i).key
  ·have h1:=h.i0.small i hi a hs;obtain⟨k1,k2,k3⟩:=hs;have hq:((d.L i).key.num-1).toNat<d.m:=oa;rw[U3 (s:=((d.L i).key.num-1).toNat) hq h1 (fun j hj e=>?_),MU (fun j hj e=>?_)]
   ·rcases h.i0.idx.range j hj with e'|e'|⟨e',k⟩
    ·omega
    ·omega
    ·rw[e,show(((i:Int)+1-1).toNat)=i by omega]at k;exact k.2.2 ⟨k1,k2,k3⟩
   ·rcases h.i0.ints j hj with e'|⟨e1,e2,e3,c,b⟩
    ·omega
    ·unfold Dc.at at b;rw[e,show(((i:Int)+1-1).toNat)=i by omega]at b;omega
  ·obtain⟨s,h1,h2,h3⟩:=h.i0.idx.has i ⟨hi,a,hs⟩;rw[U3 (f:=d.X) (s:=s) h1 h2 (fun j hj e=>h.i0.idx.uniq j s hj h1 oa oa),MU (fun j hj e=>?_)];rcases h.i0.ints j hj with e'|⟨e1,e2,e3,c,b⟩
   ·omega
   ·unfold Dc.at at c b;rw[e,show(((i:Int)+1-1).toNat)=i by omega]at c b;exact hs ⟨c,oa,oa⟩
 ·rcases h.i0.place g (h.i0.keys i hi a)with⟨j,h1,h2,h3,h4⟩|⟨h1,_⟩
  ·rw[h4,h.i0.JW j i h1 hi h2 a h3]
  ·have:=h1 i hi a;rw[g.refl _ (h.i0.keys i hi a)]at this;cases this
structure Core (K:Vl->Prop) (d:Dc):Prop where
 log:Ln d
 keys:∀i,i<d.n->(d.L i).turn≠0->K (d.L i).key
 JW:∀i j,i<d.n->j<d.n->(d.L i).turn≠0->(d.L j).turn≠0->AE (d.L i).key (d.L j).key=true->i=j
 ints:∀j,j<d.m->Ic d j
 last:d.m=0\/0<d.I (d.m-1)
 small:∀i,i<d.n->(d.L i).turn≠0->AA d.m (d.L i).key->d.I ((d.L i).key.num-1).toNat=i+1
 turns:0<=d.turns/\d.turns<=1000000000000
 le:d.live<=500
structure Ix (hf:Vl->Nat) (d:Dc):Prop where
 sz:Lr d.x
 idx:Idx hf d.L d.x d.X (Tt d)
 used:(B5 d.X d.x:Int)=d.used
 half:2*B5 d.X d.x<=d.x
theorem Cj.core(h:Cj K hf d):Core K d:=⟨h.log,h.keys,h.JW,h.ints,h.last,h.small,h.turns,h.le⟩
theorem Core.Sd(h:Core K d)(g:Ix hf d):Cj K hf d:=⟨h.log,h.keys,h.JW,h.ints,h.last,h.small,g.sz,g.idx,g.used,g.half,h.turns,h.le⟩
theorem Core.pos(h:Core K d){i:Nat}(hi:i<d.n)(a:(d.L i).turn≠0):0<(d.L i).turn:=by
 rcases h.log.Cr i hi with e|e
 ·exact absurd e.1 a
 ·exact e.1
open Classical in
noncomputable def BI(d:Dc):Nat->Nat
 |0=>0
 |k+1=>if AO d k then BI d k+1 else BI d k
theorem El(h:AO d k):BI d (k+1)=BI d k+1:=DD h
theorem FU(h:¬AO d k):BI d (k+1)=BI d k:=C3 h
theorem Vi(d:Dc)(k:Nat):BI d k<=(AM d k).length:=by
 induction k with
 |zero=>exact Be _
 |succ k ih=>
  by_cases h:AO d k
  ·have:=h.1;rw[El h,Bf oa,ON,Aai];omega
  ·rw[FU h];refine GO ih ?_;exact(EV (d:=d) (k:=k) (n:=k+1) oa).length_le
theorem Fm(d:Dc){k n:Nat}(h:k<=n):BI d k<=BI d n:=by
 obtain⟨j,rfl⟩:∃j,n=k+j:=⟨n-k,oa⟩;clear h
 induction j with
 |zero=>exact Be _
 |succ j ih=>
  refine GO ih ?_;by_cases h:AO d (k+j)
  ·rw[show k+(j+1)=k+j+1 by omega,El h];omega
  ·rw[show k+(j+1)=k+j+1 by omega,FU h];exact Be _
def Cy:Nat->Nat->Nat->Nat
 |0,s,_=>s
 |f+1,s,q=>if s<q then Cy f (2*s) q else s
def BC(n:Nat):Nat:=Cy 9 8 (4*n)
theorem S4:∀(f s q:Nat),q<=2000->LR s->8<=s->s<=4000->2000<=s*2^f->q<=Cy f s q/\8<=Cy f s q/\Cy f s q<=4000/\LR (Cy f s q):=by
 intro f
 induction f with
 |zero=>
  intro s q h1 h2 h3 h4 h5;exact⟨by show q<=s;omega,h3,h4,h2⟩
 |succ f ih=>
  intro s q h1 h2 h3 h4 h5;show q<=(if s<q then Cy f (2*s) q else s)/\_<=(if s<q then Cy f (2*s) q else s)/\(if s<q then Cy f (2*s) q else s)<=_/\LR (if s<q then Cy f (2*s) q else s);by_cases e:s<q
  ·rw[DD e];obtain⟨k,rfl⟩:=h2;refine ih _ _ h1 ⟨k+1,by rw[AaF];omega⟩ oa oa ?_;rw[AaF,<-OK,Aan (2^k*2^f) 2,<-OK]at h5;exact h5
  ·rw[C3 e];exact⟨oa,h3,h4,h2⟩
theorem Da(h:n<=500):4*n<=BC n/\8<=BC n/\BC n<=4000/\LR (BC n):=
 S4 9 8 (4*n) oa ⟨3,rfl⟩ oa oa oc
open Classical in
noncomputable def AF(hf:Vl->Nat)(d:Dc)(x:Nat):Nat->Dc
 |0=>{d with x:=x,X:=fun _=>0,used:=0}
 |k+1=>if AO d k then AL hf (AF hf d x k) (d.L k).key k else AF hf d x k
theorem EF(h:AO d k):AF hf d x (k+1)=AL hf (AF hf d x k) (d.L k).key k:=DD h
theorem EE(h:¬AO d k):AF hf d x (k+1)=AF hf d x k:=C3 h
theorem CJ:∀k,BI d k<x->
  Idx hf d.L x (AF hf d x k).X (fun i=>i<k/\AO d i)/\(B5 (AF hf d x k).X x:Int)=(AF hf d x k).used/\B5 (AF hf d x k).X x<=BI d k/\(AF hf d x k).x=x/\(AF hf d x k).n=d.n/\(AF hf d x k).L=d.L/\(AF hf d x k).m=d.m/\(AF hf d x k).I=d.I/\(AF hf d x k).live=d.live/\(AF hf d x k).turns=d.turns:=by
 intro k
 induction k with
 |zero=>
  intro _;exact⟨Idx.empty _ _ _ _ (fun i h=>oa),by show(B5 (fun _=>0) x:Int)=0;rw[I1];rfl,by show B5 (fun _=>0) x<=0;rw[I1];exact Be _,rfl,rfl,rfl,rfl,rfl,rfl,rfl⟩
 |succ k ih=>
  intro a;by_cases h:AO d k
  ·rw[El h]at a;obtain⟨h1,h2,h3,h4,h5,c,f,g,j,b⟩:=ih oa;rw[EF h,El h];obtain⟨g1,g2,g3,g4,g5,g6,g7,g8,g9,g10⟩:=MZ (d:=AF hf d x k) (L:=d.L) (k:=(d.L k).key) (p:=k) (by rw[h4];exact h1) (fun e=>oa) rfl (by rw[h4];omega) (by rw[h4];exact h2);rw[h4]at g3;rw[g3]at g1 g2;rw[h4]at g10;refine⟨g1.congr (fun i=>?_) (fun _ _=>rfl),g2,oa,g3,g4.trans h5,g5.trans c,g6.trans f,g7.trans g,g8.trans j,g9.trans b⟩;constructor
   ·rintro⟨e1,e2⟩;by_cases e:i=k
    ·exact .inr e
    ·exact .inl ⟨oa,e2⟩
   ·rintro(⟨e1,e2⟩|rfl)
    ·exact⟨oa,e2⟩
    ·exact⟨oa,h⟩
  ·rw[FU h]at a ⊢;obtain⟨h1,h2,h3⟩:=ih a;rw[EE h];refine⟨h1.congr (fun i=>?_) (fun _ _=>rfl),h2,h3⟩;constructor
   ·rintro⟨e1,e2⟩;exact⟨by
     have:i≠k:=fun e=>h (e▸e2);omega,e2⟩
   ·rintro⟨e1,e2⟩;exact⟨oa,e2⟩
noncomputable def AX(hf:Vl->Nat)(d:Dc)(more:Nat):Dc:=
 if BI d d.n+more=0 then{d with x:=0,used:=0}else AF hf d (BC (BI d d.n+more)) d.n
theorem Di{more:Nat}(h:BI d d.n+more=0):AX hf d more={d with x:=0,used:=0}:=DD h
theorem B6{more:Nat}(h:BI d d.n+more≠0):AX hf d more=AF hf d (BC (BI d d.n+more)) d.n:=C3 h
structure Mh (d c:Dc):Prop where
 n:d.n=c.n
 L:d.L=c.L
 m:d.m=c.m
 I:d.I=c.I
 live:d.live=c.live
 turns:d.turns=c.turns
theorem Core.of_same{c:Dc}(h:Core K c)(e:Mh d c):Core K d:=by
 obtain⟨n,L,m,I,x,X,used,live,turns⟩:=d;obtain⟨n',L',g,i,x',X',b,f,a⟩:=c;obtain⟨rfl,rfl,rfl,rfl,rfl,rfl⟩:=e;exact⟨⟨h.log.Cr,h.log.ord,h.log.EH⟩,h.keys,h.JW,h.ints,h.last,h.small,h.turns,h.le⟩
theorem EJ{more:Nat}(h:Core K d)(b:BI d d.n+more<=500):Mh (AX hf d more) d:=by
 by_cases e:BI d d.n+more=0
 ·rw[Di e];exact⟨rfl,rfl,rfl,rfl,rfl,rfl⟩
 ·rw[B6 e];obtain⟨s1,s2,j,k⟩:=Da b;obtain⟨h1,h2,h3,h4,h5,c,f,g,i,a⟩:=CJ (hf:=hf) (d:=d) (x:=BC (BI d d.n+more)) d.n oa;exact⟨h5,c,f,g,i,a⟩
theorem LL{more:Nat}(h:Core K d)(b:BI d d.n+more<=500):Ix hf (AX hf d more)/\(0<more->2*(B5 (AX hf d more).X (AX hf d more).x+1)<=(AX hf d more).x):=by
 by_cases e:BI d d.n+more=0
 ·rw[Di e];refine⟨⟨.inl rfl,⟨fun s hs=>absurd hs od,fun i hi=>?_,fun s s' hs=>absurd hs od⟩,rfl,Be _⟩,fun h=>oa⟩;exfalso;have hi:i<d.n/\(d.L i).turn≠0/\¬AA d.m (d.L i).key:=hi;have h1:AO d i:=⟨h.pos hi.1 hi.2.1,hi.2.2⟩;have h2:=Fm d (k:=i+1) (n:=d.n) oa;rw[El h1]at h2;omega
 ·rw[B6 e];obtain⟨s1,s2,c,f⟩:=Da b;obtain⟨h1,h2,h3,h4,h5,a,g,l,o,j⟩:=CJ (hf:=hf) (d:=d) (x:=BC (BI d d.n+more)) d.n oa;refine⟨⟨by rw[h4];exact .inr ⟨s2,c,f⟩,?_,by rw[h4];exact h2,by rw[h4];omega⟩,fun p=>by rw[h4];omega⟩;rw[h4,a];refine h1.congr (fun i=>?_) (fun _ _=>rfl);unfold Tt AO;rw[h5,a,g];constructor
  ·rintro⟨e1,e2,e3⟩;exact⟨e1,h.pos e1 e2,e3⟩
  ·rintro⟨e1,e2,e3⟩;exact⟨e1,oa,e3⟩
theorem Kk{more:Nat}(h:Core K d)(a:BI d d.n+more<=500):Cj K hf (AX hf d more):=
 (h.of_same (EJ h a)).Sd (LL h a).1
def CI(d:Dc)(i:Nat):Nat:=(AM d i).length
theorem Ki(a:i<j)(b:(d.L i).turn≠0):CI d i<CI d j:=by
 have h:=(EV (d:=d) (k:=i+1) (n:=j) oa).length_le;rw[Bf b,ON,Aai]at h;exact h
theorem Fq:∀(k:Nat) {j:Nat},j<(AM d k).length->∃i,i<k/\(d.L i).turn≠0/\CI d i=j:=by
 intro k
 induction k with
 |zero=>intro j h;exact absurd h (by simp[AM])
 |succ k ih=>
  intro j h;by_cases a:(d.L k).turn=0
  ·rw[Ce a]at h;obtain⟨i,h1,h2⟩:=ih h;exact⟨i,oa,h2⟩
  ·by_cases e:j<(AM d k).length
   ·obtain⟨i,h1,h2⟩:=ih e;exact⟨i,oa,h2⟩
   ·rw[Bf a,ON,Aai]at h;exact⟨k,oa,a,by unfold CI;omega⟩
def BF(d:Dc):Dc:={d with n:=IP d,L:=Ea d,I:=fun j=>if 0<d.I j then(CI d (d.I j-1).toNat:Int)+1 else d.I j}
noncomputable def Ap(hf:Vl->Nat)(d:Dc):Dc:=if(d.n:Int)<8\/(d.n:Int)<=2*d.live then d else AX hf (BF d) 0
theorem YU:∀k,(∀i,i<k->(d.L i).turn≠0)->(AM d k).length=k:=by
 intro k
 induction k with
 |zero=>intro _;rfl
 |succ k ih=>
  intro h;rw[Bf (h k oa),ON,Aai,ih (fun i hi=>h i oa)]
theorem FG(h:Core K d):Core K (BF d):=by
 have hs:∀j,j<IP d->∃i,i<d.n/\(d.L i).turn≠0/\CI d i=j/\Ea d j=d.L i:=fun j hj=>by
  obtain⟨i,h1,h2,h3⟩:=Fq d.n hj;exact⟨i,h1,h2,h3,by rw[<-h3];exact E5 h1 h2⟩
 have r:∀i,i<d.n->(d.L i).turn≠0->CI d i<IP d/\Ea d (CI d i)=d.L i:=fun i hi f=>⟨Ki hi f,E5 hi f⟩;have g:∀i j,i<d.n->j<d.n->(d.L i).turn≠0->(d.L j).turn≠0->CI d i<CI d j->i<j:=by
  intro i j hi hj ti k s;by_cases e:i<j
  ·exact e
  ·by_cases e':i=j
   ·subst e';omega
   ·have:=Ki (d:=d) (i:=j) (j:=i) oa k;omega
 refine⟨⟨fun j hj=>?_,fun i j t hj ti k=>?_,?_⟩,fun j hj f=>?_,fun i j hi hj ti k hl=>?_,fun j hj=>?_,?_,fun j hj f c=>?_,h.turns,h.le⟩
 ·obtain⟨i,h1,h2,h3,h4⟩:=hs j hj;have:=h.log.Cr i h1;unfold Entry at this ⊢;show(Ea d j).turn=0/\_\/_;show((Ea d j).turn=0/\Gr (Ea d j).key=true/\Gr (Ea d j).val=true)\/(0<(Ea d j).turn/\(Ea d j).turn<=d.turns/\Df (Ea d j).key=true/\(Ea d j).val.ok=true/\(Ea d j).val.kind≠0);rw[h4];exact this
 ·have l:j<IP d:=hj;obtain⟨a,a1,a2,a3,a4⟩:=hs i oa;obtain⟨b,b1,b2,b3,b4⟩:=hs j l;show(Ea d i).turn<(Ea d j).turn;rw[a4,b4];exact h.log.ord a b (g a b a1 b1 a2 b2 oa) b1 a2 b2
 ·show((AM (BF d) (IP d)).length:Int)=d.live;rw[YU (d:=BF d) (IP d) (fun j hj=>?_)]
  ·exact h.log.EH
  ·obtain⟨i,h1,h2,h3,h4⟩:=hs j hj;show(Ea d j).turn≠0;rw[h4];exact h2
 ·obtain⟨i,h1,h2,h3,h4⟩:=hs j hj;show K (Ea d j).key;rw[h4];exact h.keys i h1 h2
 ·obtain⟨a,a1,a2,a3,a4⟩:=hs i hi;obtain⟨b,b1,b2,b3,b4⟩:=hs j hj;have hl:AE (Ea d i).key (Ea d j).key=true:=hl;rw[a4,b4]at hl;have:=h.JW a b a1 b1 a2 b2 hl;subst this;omega
 ·rcases h.ints j hj with e|⟨e1,e2,e3,u,v⟩
  ·left;show(if 0<d.I j then(CI d (d.I j-1).toNat:Int)+1 else d.I j)=0;rw[C3 oa];exact e
  ·right;have q:(BF d).I j=(CI d (d.I j-1).toNat:Int)+1:=DD e1;have o:=r (d.I j-1).toNat oa e3;have p:(BF d).at ((BF d).I j)=d.at (d.I j):=by
    show Ea d ((BF d).I j-1).toNat=d.L (d.I j-1).toNat;rw[q,show((CI d (d.I j-1).toNat:Int)+1-1).toNat=CI d (d.I j-1).toNat by omega];exact o.2
   rw[p,q];exact⟨oa,by show _<=((IP d:Nat):Int);omega,e3,u,v⟩
 ·rcases h.last with e|e
  ·exact .inl e
  ·right;show 0<(if 0<d.I (d.m-1)then(CI d (d.I (d.m-1)-1).toNat:Int)+1 else d.I (d.m-1));rw[DD e];omega
 ·obtain⟨i,h1,h2,h3,h4⟩:=hs j hj;have c:AA d.m (Ea d j).key:=c;show(if 0<d.I ((Ea d j).key.num-1).toNat then(CI d (d.I ((Ea d j).key.num-1).toNat-1).toNat:Int)+1 else _)=_;rw[h4]at c ⊢;have:=h.small i h1 h2 c;rw[this,DD oa,show((i:Int)+1-1).toNat=i by omega,h3]
theorem Core.Jy(h:Core K d):(IP d:Int)=d.live:=h.log.EH
theorem IV(h:Core K d):BI (BF d) (BF d).n+0<=500:=by
 have h1:=Vi (BF d) (BF d).n;have h2:=Ff (BF d) (BF d).n;have h3:(BF d).n=IP d:=rfl;have h4:=h.Jy;have h5:=h.le;omega
theorem Dx(h:Cj K hf d):Cj K hf (Ap hf d):=by
 unfold Ap
 split
 ·exact h
 ·exact Kk (FG h.core) (IV h.core)
theorem BP(h:Core K d):(Ap hf d).live=d.live/\(Ap hf d).turns=d.turns/\(Ap hf d).m=d.m/\(((Ap hf d).n:Int)<8\/((Ap hf d).n:Int)<=2*d.live):=by
 unfold Ap
 split
 ·next e=>exact⟨rfl,rfl,rfl,e⟩
 ·have:=EJ (hf:=hf) (FG h) (IV h);refine⟨this.live,this.turns,this.m,.inr ?_⟩;rw[this.n];have h4:=h.Jy;show((IP d:Nat):Int)<=_;omega
theorem Dq(h:Core K d)(Q:Pr->Prop):(∃i,i<(Ap hf d).n/\((Ap hf d).L i).turn≠0/\Q ((Ap hf d).L i))↔∃i,i<d.n/\(d.L i).turn≠0/\Q (d.L i):=by
 unfold Ap
 split
 ·exact Iff.rfl
 ·have e:=EJ (hf:=hf) (FG h) (IV h);rw[e.n,e.L];constructor
  ·rintro⟨j,hj,a,hq⟩;obtain⟨i,h1,h2,h3⟩:=Fq d.n (show j<(AM d d.n).length from hj);have h4:Ea d j=d.L i:=by rw[<-h3];exact E5 h1 h2
   have hq:Q (Ea d j):=hq;rw[h4]at hq;exact⟨i,h1,h2,hq⟩
  ·rintro⟨i,hi,a,hq⟩;refine⟨CI d i,Ki hi a,?_,?_⟩
   ·show(Ea d (CI d i)).turn≠0;rw[show Ea d (CI d i)=d.L i from E5 hi a];exact a
   ·show Q (Ea d (CI d i));rw[show Ea d (CI d i)=d.L i from E5 hi a];exact hq
theorem DL(h:Core K d)(hn:Next d):Next (Ap hf d):=by
 intro i hi a hc;rw[(BP (hf:=hf) h).2.2.1]at hc;obtain⟨j,h1,h2,h3⟩:=(Dq (hf:=hf) h (fun p=>p.key.kind=2/\p.key.num=(d.m:Int)+1)).1 ⟨i,hi,a,hc⟩;exact hn j h1 h2 h3
theorem Jw{c:Dc}:∀(k:Nat),(∀i,i<k->((d.L i).turn=0↔(c.L i).turn=0))->AM d k=AM c k:=by
 intro k
 induction k with
 |zero=>intro _;rfl
 |succ k ih=>
  intro h;have:=h k oa;by_cases e:(d.L k).turn=0
  ·rw[Ce e,Ce (this.1 e),ih (fun i hi=>h i oa)]
  ·rw[Bf e,Bf (fun e'=>e (this.2 e')),ih (fun i hi=>h i oa)]
def BZ(c:Dc)(k v:Vl):Dc:={c with n:=c.n+1,L:=AP c.L c.n ⟨k,v,c.turns+1⟩,live:=c.live+1,turns:=c.turns+1}
section
variable {K:Vl->Prop} {hf:Vl->Nat} {c:Dc} {k v:Vl}
theorem AR(h:i<c.n):(BZ c k v).L i=c.L i:=Af _ _ oa
theorem BQ:(BZ c k v).L c.n=⟨k,v,c.turns+1⟩:=Ao _ _ _
theorem MN(h:Ln c)(m:0<=c.turns)(hk:Df k=true)(l:v.ok=true)(b:v.kind≠0):Ln (BZ c k v):=by
 refine⟨fun i hi=>?_,fun i j a hj ti f=>?_,?_⟩
 ·have hi:i<c.n+1:=hi;by_cases e:i=c.n
  ·subst e;right;rw[BQ];exact⟨by show 0<c.turns+1;omega,AaI _,hk,l,b⟩
  ·have:=h.Cr i oa;unfold Entry at this ⊢;rw[AR oa];refine this.imp id (fun g=>⟨g.1,?_,g.2.2⟩);show _<=c.turns+1;omega
 ·have hj:j<c.n+1:=hj;by_cases e:j=c.n
  ·subst e;rw[AR a]at ti ⊢;rw[BQ];rcases h.Cr i a with g|g
   ·exact absurd g.1 ti
   ·show _<c.turns+1;omega
  ·rw[AR oa]at ti ⊢;rw[AR oa]at f ⊢;exact h.ord i j a oa ti f
 ·show((AM (BZ c k v) (c.n+1)).length:Int)=c.live+1;rw[Bf (by rw[BQ];show c.turns+1≠0;omega),ON,Aai,Jw (d:=BZ c k v) (c:=c) c.n (fun i hi=>by rw[AR hi])];have:((AM c c.n).length:Int)=c.live:=h.EH;omega
theorem KK(h:Core K c)(hk:K k):∀i,i<(BZ c k v).n->((BZ c k v).L i).turn≠0->K ((BZ c k v).L i).key:=by
 intro i hi a;have hi:i<c.n+1:=hi;by_cases e:i=c.n
 ·subst e;rw[BQ];exact hk
 ·rw[AR oa]at a ⊢;exact h.keys i oa a
theorem KJ(d:KeyLaw K hf)(h:Core K c)(hk:K k)(a:∀i,i<c.n->(c.L i).turn≠0->AE (c.L i).key k=false):∀i j,i<(BZ c k v).n->j<(BZ c k v).n->((BZ c k v).L i).turn≠0->((BZ c k v).L j).turn≠0->AE ((BZ c k v).L i).key ((BZ c k v).L j).key=true->i=j:=by
 intro i j hi hj ti b hl;have hi:i<c.n+1:=hi;have hj:j<c.n+1:=hj;by_cases e:i=c.n
 ·by_cases e':j=c.n
  ·omega
  ·subst e;rw[BQ,AR oa]at hl;rw[AR oa]at b;have:=d.symm _ _ hk (h.keys j oa b) hl;rw[a j oa b]at this;cases this
 ·by_cases e':j=c.n
  ·subst e';rw[BQ,AR oa]at hl;rw[AR oa]at ti;rw[a i oa ti]at hl;cases hl
  ·rw[AR oa]at ti;rw[AR oa]at b;rw[AR (i:=i) oa,AR (i:=j) oa]at hl;exact h.JW i j oa oa ti b hl
def B7(c:Dc)(k v:Vl):Dc:={BZ c k v with I:=AP c.I (k.num-1).toNat ((c.n:Int)+1)}
theorem K7(h:Ic c j){d:Dc}(hn:d.n=c.n+1)(a:∀i,i<c.n->d.L i=c.L i)(b:d.I j=c.I j):Ic d j:=by
 unfold Ic at*;rw[b,hn];rcases h with e|⟨e1,e2,e3,f,g⟩
 ·exact .inl e
 ·right;have:d.at (c.I j)=c.at (c.I j):=a _ oa;rw[this];exact⟨e1,oa,e3,f,g⟩
theorem Qd(q:KeyLaw K hf)(h:Cj K hf c)(hk:K k)(g:Df k=true)(s:v.ok=true)(l:v.kind≠0)(f:∀i,i<c.n->(c.L i).turn≠0->AE (c.L i).key k=false)(hs:AA c.m k)(hl:c.live<500)(t:c.turns<1000000000000):Cj K hf (B7 c k v):=by
 have b:=MN h.log h.turns.1 g s l;obtain⟨k1,k2,k3⟩:=hs;refine(Core.Sd ⟨⟨b.Cr,b.ord,b.EH⟩,KK h.core hk,KJ q h.core hk f,fun j hj=>?_,?_,fun i hi d a=>?_,⟨by show 0<=c.turns+1;have:=h.turns.1;omega,by show c.turns+1<=_;omega⟩,by show c.live+1<=500;omega⟩ ⟨h.sz,?_,h.used,h.half⟩)
 ·by_cases e:j=(k.num-1).toNat
  ·right;have r:(B7 c k v).I j=(c.n:Int)+1:=by subst e;exact Ao _ _ _
   have o:(B7 c k v).at ((B7 c k v).I j)=⟨k,v,c.turns+1⟩:=by
    show(B7 c k v).L ((B7 c k v).I j-1).toNat=_;rw[r,show((c.n:Int)+1-1).toNat=c.n by omega];exact BQ
   rw[o,r];refine⟨oa,by show _<=((c.n+1:Nat):Int);omega,?_,k1,by show k.num=_;omega⟩;show c.turns+1≠0;have:=h.turns.1;omega
  ·exact K7 (h.ints j hj) rfl (fun i hi=>AR hi) (Af _ _ e)
 ·rcases h.last with e|e
  ·exact .inl e
  ·right;show 0<AP c.I (k.num-1).toNat ((c.n:Int)+1) (c.m-1);by_cases e':c.m-1=(k.num-1).toNat
   ·rw[e',Ao];omega
   ·rw[Af _ _ e'];exact e
 ·have hi:i<c.n+1:=hi;show AP c.I (k.num-1).toNat ((c.n:Int)+1) _=_;by_cases e:i=c.n
  ·subst e;have:(B7 c k v).L c.n=⟨k,v,c.turns+1⟩:=BQ;rw[this,Ao]
  ·have p:(B7 c k v).L i=c.L i:=AR oa;rw[p]at d a ⊢;have a:AA c.m (c.L i).key:=a;have h1:=h.small i oa d a;rw[Af _ _ (fun e'=>?_)]
   ·exact h1
   ·have h2:(c.L i).key.num=k.num:=oj a.2.1;have:=q.int _ _ (h.keys i oa d) hk a.1 k1 h2;rw[f i oa d]at this;cases this
 ·refine h.idx.congr (fun i=>?_) (fun i hi=>by rw[show(B7 c k v).L i=c.L i from AR hi.1]);unfold Tt;show(i<c.n+1/\((BZ c k v).L i).turn≠0/\¬AA c.m ((BZ c k v).L i).key)↔_;by_cases e:i=c.n
  ·subst e;rw[BQ];constructor
   ·rintro⟨_,_,h3⟩;exact absurd ⟨k1,k2,k3⟩ h3
   ·rintro⟨h3,_⟩;omega
  ·constructor
   ·rintro⟨h1,h2⟩;rw[AR oa]at h2;exact⟨oa,h2⟩
   ·rintro⟨h1,h2⟩;rw[AR h1];exact⟨oa,h2⟩
def BX(c:Dc)(k v:Vl):Dc:={BZ c k v with m:=c.m+1,I:=AP c.I c.m ((c.n:Int)+1)}
theorem G4{k:Vl}:AA (m+1) k↔AA m k\/(k.kind=2/\k.num=(m:Int)+1):=by
 unfold AA;constructor
 ·rintro⟨h1,h2,h3⟩;by_cases e:k.num=(m:Int)+1
  ·exact .inr ⟨h1,e⟩
  ·exact .inl ⟨h1,h2,oa⟩
 ·rintro(⟨h1,h2,h3⟩|⟨h1,h2⟩)
  ·exact⟨h1,h2,oa⟩
  ·exact⟨h1,oa,oa⟩
theorem Hq(r:KeyLaw K hf)(h:Cj K hf c)(hk:K k)(l:Df k=true)(t:v.ok=true)(o:v.kind≠0)(d:∀i,i<c.n->(c.L i).turn≠0->AE (c.L i).key k=false)(k1:k.kind=2)(k2:k.num=(c.m:Int)+1)(hl:c.live<500)(u:c.turns<1000000000000):Cj K hf (BX c k v):=by
 have b:=MN h.log h.turns.1 l t o;have f:∀i,i<c.n->(c.L i).turn≠0->¬((c.L i).key.kind=2/\(c.L i).key.num=(c.m:Int)+1):=by
  intro i hi a hc;have:=r.int _ _ (h.keys i hi a) hk hc.1 k1 oa;rw[d i hi a]at this;cases this
 refine(Core.Sd ⟨⟨b.Cr,b.ord,b.EH⟩,KK h.core hk,KJ r h.core hk d,fun j hj=>?_,?_,fun i hi a hsm=>?_,⟨by show 0<=c.turns+1;have:=h.turns.1;omega,by show c.turns+1<=_;omega⟩,by show c.live+1<=500;omega⟩ ⟨h.sz,?_,h.used,h.half⟩)
 ·have hj:j<c.m+1:=hj;by_cases e:j=c.m
  ·right;have s:(BX c k v).I j=(c.n:Int)+1:=by subst e;exact Ao _ _ _
   have p:(BX c k v).at ((BX c k v).I j)=⟨k,v,c.turns+1⟩:=by
    show(BX c k v).L ((BX c k v).I j-1).toNat=_;rw[s,show((c.n:Int)+1-1).toNat=c.n by omega];exact BQ
   rw[p,s];refine⟨oa,by show _<=((c.n+1:Nat):Int);omega,?_,k1,by show k.num=_;omega⟩;show c.turns+1≠0;have:=h.turns.1;omega
  ·exact K7 (h.ints j oa) rfl (fun i hi=>AR hi) (Af _ _ e)
 ·right;show 0<AP c.I c.m ((c.n:Int)+1) (c.m+1-1);rw[show c.m+1-1=c.m by omega,Ao];omega
 ·have hi:i<c.n+1:=hi;show AP c.I c.m ((c.n:Int)+1) _=_;by_cases e:i=c.n
  ·subst e;have:(BX c k v).L c.n=⟨k,v,c.turns+1⟩:=BQ;rw[this,show((Pr.mk k v (c.turns+1)).key.num-1).toNat=c.m by show(k.num-1).toNat=_;omega,Ao]
  ·have q:(BX c k v).L i=c.L i:=AR oa;rw[q]at a hsm ⊢;have hsm:AA (c.m+1) (c.L i).key:=hsm;rcases G4.1 hsm with hsm|hsm
   ·rw[Af _ _ (fun e'=>by have:=hsm.2.1;have:=hsm.2.2;omega)];exact h.small i oa a hsm
   ·exact absurd hsm (f i oa a)
 ·refine h.idx.congr (fun i=>?_) (fun i hi=>by rw[show(BX c k v).L i=c.L i from AR hi.1]);unfold Tt;show(i<c.n+1/\((BZ c k v).L i).turn≠0/\¬AA (c.m+1) ((BZ c k v).L i).key)↔_;rw[G4];by_cases e:i=c.n
  ·subst e;rw[BQ];constructor
   ·rintro⟨_,_,h3⟩;exact absurd (.inr ⟨k1,k2⟩) h3
   ·rintro⟨h3,_⟩;omega
  ·constructor
   ·rintro⟨h1,h2,h3⟩;rw[AR oa]at h2 h3;exact⟨oa,h2,fun g=>h3 (.inl g)⟩
   ·rintro⟨h1,h2,h3⟩;rw[AR h1];refine⟨oa,h2,fun g=>?_⟩;rcases g with g|g
    ·exact h3 g
    ·exact f i h1 h2 g
end
def Eb(d:Dc)(s:Nat):Dc:={d with m:=d.m+1,I:=AP d.I d.m (d.X s),X:=AP d.X s (-1)}
def CG(hf:Vl->Nat):Nat->Dc->Dc
 |0,d=>d
 |f+1,d=>match AQ d (Dm ((d.m:Int)+1)) (hf (Dm ((d.m:Int)+1)))with
  |none=>d
  |some s=>CG hf f (Eb d s)
theorem FE{f:Nat}(h:AQ d (Dm ((d.m:Int)+1)) (hf (Dm ((d.m:Int)+1)))=none):CG hf f d=d:=by
 cases f with
 |zero=>rfl
 |succ f=>show(match AQ d (Dm ((d.m:Int)+1)) (hf (Dm ((d.m:Int)+1)))with|none=>d|some s=>CG hf f (Eb d s))=d;rw[h]
theorem FF{f:Nat}(h:AQ d (Dm ((d.m:Int)+1)) (hf (Dm ((d.m:Int)+1)))=some s):CG hf (f+1) d=CG hf f (Eb d s):=by
 show(match AQ d (Dm ((d.m:Int)+1)) (hf (Dm ((d.m:Int)+1)))with|none=>d|some s=>CG hf f (Eb d s))=_;rw[h]
def Fg(X:Nat->Int):Nat->Nat
 |0=>0
 |k+1=>if 0<X k then Fg X k+1 else Fg X k
theorem Mn(X:Nat->Int)(k:Nat):Fg X k<=k:=by
 induction k with
 |zero=>exact Be _
 |succ k ih=>
  show(if 0<X k then Fg X k+1 else Fg X k)<=k+1;by_cases e:0<X k
  ·rw[DD e];omega
  ·rw[C3 e];omega
theorem JD(a:0<X s):∀k,Fg (AP X s (-1)) k+(if s<k then 1 else 0)=Fg X k:=by
 intro k
 induction k with
 |zero=>rfl
 |succ k ih=>
  show(if 0<AP X s (-1) k then Fg (AP X s (-1)) k+1 else Fg (AP X s (-1)) k)+_=(if 0<X k then Fg X k+1 else Fg X k);by_cases e:k=s
  ·subst e;rw[Ao,C3 oa,DD a,DD oa];rw[C3 oa]at ih;omega
  ·rw[Af _ _ e];by_cases e2:s<k
   focus
    rw[DD (show s<k+1 by omega)];rw[DD e2]at ih
   rotate_left
   focus
    rw[C3 (show¬s<k+1 by omega)];rw[C3 e2]at ih
   rotate_left;all_goals
    by_cases e1:0<X k
    ·rw[DD e1,DD e1];omega
    ·rw[C3 e1,C3 e1];omega
section
variable {K:Vl->Prop} {hf:Vl->Nat} {d:Dc}
theorem Cj.slot(h:Cj K hf d){v:Vl}{a s:Nat}(e:AQ d v a=some s):s<d.x/\0<d.X s/\Tt d (d.X s-1).toNat/\AE (d.L (d.X s-1).toNat).key v=true:=by
 obtain⟨h1,h2,h3,h4⟩:=S8 e;rcases h.idx.range s h1 with g|g|g
 ·omega
 ·omega
 ·exact⟨h1,h2,g.2,h3⟩
theorem K6(p:KeyLaw K hf)(h:Cj K hf d){s:Nat}(e:AQ d (Dm ((d.m:Int)+1)) (hf (Dm ((d.m:Int)+1)))=some s):Cj K hf (Eb d s):=by
 obtain⟨h1,h2,h3,h4⟩:=h.slot e;have b:(d.L (d.X s-1).toNat).key.kind=2:=EC h4;have k:(d.L (d.X s-1).toNat).key.num=(d.m:Int)+1:=FD h4;have a:∀i,i<d.n->(d.L i).turn≠0->(d.L i).key.kind=2->(d.L i).key.num=(d.m:Int)+1->i=(d.X s-1).toNat:=fun i hi f g1 g2=>
  h.JW _ _ hi h3.1 f h3.2.1 (p.int _ _ (h.keys i hi f) (h.keys _ h3.1 h3.2.1) g1 b oa)
 refine Core.Sd ⟨⟨h.log.Cr,h.log.ord,h.log.EH⟩,h.keys,h.JW,fun j hj=>?_,?_,fun i hi f c=>?_,h.turns,h.le⟩ ⟨h.sz,?_,?_,?_⟩
 ·have hj:j<d.m+1:=hj;unfold Ic;by_cases e:j=d.m
  ·right;have l:(Eb d s).I j=d.X s:=by subst e;exact Ao _ _ _
   rw[l];have o:(Eb d s).at (d.X s)=d.L (d.X s-1).toNat:=rfl;rw[o];exact⟨h2,by show _<=(d.n:Int);have:=h3.1;omega,h3.2.1,b,oa⟩
  ·have l:(Eb d s).I j=d.I j:=Af _ _ e;rw[l];exact h.ints j oa
 ·right;show 0<AP d.I d.m (d.X s) (d.m+1-1);rw[show d.m+1-1=d.m by omega,Ao];exact h2
 ·have c:AA (d.m+1) (d.L i).key:=c;show AP d.I d.m (d.X s) ((d.L i).key.num-1).toNat=_;rcases G4.1 c with g|⟨g1,g2⟩
  ·have:=g.2.1;have:=g.2.2;rw[Af _ _ oa];exact h.small i hi f g
  ·have:=a i hi f g1 g2;rw[g2,show((d.m:Int)+1-1).toNat=d.m by omega,Ao];omega
 ·refine(h.idx.leave h1 h2).congr (fun i=>?_) (fun _ _=>rfl);unfold Tt;show(i<d.n/\(d.L i).turn≠0/\¬AA (d.m+1) (d.L i).key)↔_;rw[G4];constructor
  ·rintro⟨g1,g2,g3⟩;refine⟨⟨g1,g2,fun g=>g3 (.inl g)⟩,fun e=>g3 (.inr ?_)⟩;have:i=(d.X s-1).toNat:=oa;rw[this];exact⟨b,k⟩
  ·rintro⟨⟨g1,g2,g3⟩,g4⟩;refine⟨g1,g2,fun g=>?_⟩;rcases g with g|⟨g5,g6⟩
   ·exact g3 g
   ·have:=a i g1 g2 g5 g6;omega
 ·show(B5 (AP d.X s (-1)) d.x:Int)=d.used;rw[<-h.used,FO (X:=AP d.X s (-1)) (X':=d.X) (fun j hj=>?_)];by_cases e:j=s
  ·subst e;rw[Ao];constructor<;>intro g<;>omega
  ·rw[Af _ _ e]
 ·show 2*B5 (AP d.X s (-1)) d.x<=d.x;rw[FO (X:=AP d.X s (-1)) (X':=d.X) (fun j hj=>?_)]
  ·exact h.half
  ·by_cases e:j=s
   ·subst e;rw[Ao];constructor<;>intro g<;>omega
   ·rw[Af _ _ e]
theorem Cj.cJ(a:KeyLaw K hf)(h:Cj K hf d)(e:AQ d (Dm ((d.m:Int)+1)) (hf (Dm ((d.m:Int)+1)))=none):Next d:=by
 intro i hi b ⟨h1,h2⟩;obtain⟨s,_,_,g⟩:=h.found a (a.own ((d.m:Int)+1)) ⟨hi,b,fun g=>oj g.2.2⟩ (a.int _ _ (h.keys i hi b) (a.own _) h1 rfl h2);rw[e]at g;cases g
theorem WR(a:KeyLaw K hf):∀(f:Nat) (d:Dc),Cj K hf d->Fg d.X d.x<f->Cj K hf (CG hf f d)/\Next (CG hf f d)/\(CG hf f d).n=d.n/\(CG hf f d).L=d.L/\(CG hf f d).live=d.live/\(CG hf f d).turns=d.turns:=by
 intro f
 induction f with
 |zero=>intro d _ h;omega
 |succ f ih=>
  intro d h b;cases e:AQ d (Dm ((d.m:Int)+1)) (hf (Dm ((d.m:Int)+1)))with
  |none=>rw[FE e];exact⟨h,h.cJ a e,rfl,rfl,rfl,rfl⟩
  |some s=>
   rw[FF e];obtain⟨h1,h2,h3,h4⟩:=h.slot e;have:=JD (X:=d.X) h2 d.x;rw[DD h1]at this;exact ih _ (K6 a h e) (by show Fg (AP d.X s (-1)) d.x<f;omega)
end
noncomputable def Cw(hf:Vl->Nat)(c:Dc):Dc:=if(c.x:Int)<2*(c.used+1)then AX hf c 1 else c
open Classical in
noncomputable def Bd(hf:Vl->Nat)(c:Dc)(k v:Vl):Dc:=
 if AA c.m k then B7 c k v
 else if k.kind=2/\k.num=(c.m:Int)+1 then CG hf (c.x+1) (BX c k v)
 else AL hf (BZ (Cw hf c) k v) k c.n
noncomputable def Hd(hf:Vl->Nat)(d:Dc)(k v:Vl):Dc:=Bd hf (Ap hf d) k v
section
variable {K:Vl->Prop} {hf:Vl->Nat} {c d:Dc} {k v:Vl}
theorem Core.YC(h:Core K c):(BI c c.n:Int)<=c.live:=by
 have h1:=Vi c c.n;have h2:(IP c:Int)=c.live:=h.Jy;unfold IP at h2;omega
theorem Gu(h:Cj K hf c)(hl:c.live<500):Cj K hf (Cw hf c)/\2*(B5 (Cw hf c).X (Cw hf c).x+1)<=(Cw hf c).x/\Mh (Cw hf c) c:=by
 unfold Cw
 split
 ·have h1:=h.core.YC;have a:BI c c.n+1<=500:=oa;exact⟨Kk h.core a,(LL h.core a).2 oa,EJ h.core a⟩
 ·next e=>
  have:=h.used;exact⟨h,oa,rfl,rfl,rfl,rfl,rfl,rfl⟩
theorem IB(A:KeyLaw K hf)(h:Cj K hf c)(hn:Next c)(hk:K k)(q:Df k=true)(B:v.ok=true)(r:v.kind≠0)(s:∀i,i<c.n->(c.L i).turn≠0->AE (c.L i).key k=false)(hl:c.live<500)(F:c.turns<1000000000000):
  Cj K hf (Bd hf c k v)/\Next (Bd hf c k v)/\(Bd hf c k v).n=c.n+1/\(Bd hf c k v).L=AP c.L c.n ⟨k,v,c.turns+1⟩/\(Bd hf c k v).live=c.live+1/\(Bd hf c k v).turns=c.turns+1:=by
 unfold Bd;by_cases hs:AA c.m k
 ·rw[DD hs];refine⟨Qd A h hk q B r s hs hl F,fun i hi b=>?_,rfl,rfl,rfl,rfl⟩;have hi:i<c.n+1:=hi;by_cases e:i=c.n
  ·subst e;rw[show(B7 c k v).L c.n=⟨k,v,c.turns+1⟩from BQ];rintro⟨_,g⟩;have:=hs.2.2;have g:k.num=(c.m:Int)+1:=g;omega
  ·rw[show(B7 c k v).L i=c.L i from AR oa]at b ⊢;exact hn i oa b
 ·rw[C3 hs];by_cases hx:k.kind=2/\k.num=(c.m:Int)+1
  ·rw[DD hx];have h1:=Hq A h hk q B r s hx.1 hx.2 hl F;obtain⟨g1,g2,g3,g4,g5,g6⟩:=WR A (c.x+1) (BX c k v) h1 (by have:=Mn c.X c.x;show Fg c.X c.x<_;omega);exact⟨g1,g2,g3,g4,g5,g6⟩
  ·rw[C3 hx];obtain⟨r1,r2,f⟩:=Gu (hf:=hf) h hl;generalize H:Cw hf c=a at r1 r2 f;have u:∀i,i<a.n->(a.L i).turn≠0->AE (a.L i).key k=false:=by rw[f.n,f.L];exact s
   have o:=MN r1.log r1.turns.1 q B r;have I:¬Tt a c.n:=by rintro⟨g,_⟩;have:=f.n;omega
   have C:(BZ a k v).L c.n=⟨k,v,a.turns+1⟩:=by rw[<-f.n];exact BQ
   have w:Idx hf (BZ a k v).L a.x a.X (Tt a):=r1.idx.congr (fun _=>Iff.rfl) (fun i hi=>by rw[AR hi.1]);obtain⟨g1,g2,g3,g4,g5,g6,g7,g8,g9,g10⟩:=MZ (hf:=hf) (d:=BZ a k v) (L:=(BZ a k v).L) (k:=k) (p:=c.n) (P:=Tt a) w I (by rw[C]) (by show B5 a.X a.x<a.x;omega) r1.used;have D:(BZ a k v).x=a.x:=rfl;have E:(BZ a k v).X=a.X:=rfl;rw[D]at g3 g10;rw[E]at g10;have t:Core K (AL hf (BZ a k v) k c.n):=Core.of_same (c:=BZ a k v) ⟨⟨o.Cr,o.ord,o.EH⟩,KK r1.core hk,KJ A r1.core hk u,fun j hj=>K7 (r1.ints j hj) rfl (fun i hi=>AR hi) rfl,r1.last,fun i hi b l=>by
     have hi:i<a.n+1:=hi;by_cases e:i=a.n
     ·subst e;rw[BQ]at l;have l:AA a.m k:=l;rw[f.m]at l;exact absurd l hs
     ·rw[AR oa]at b l ⊢;exact r1.small i oa b l,⟨by show 0<=a.turns+1;have:=r1.turns.1;omega,by show a.turns+1<=_;rw[f.turns];omega⟩,by show a.live+1<=500;rw[f.live];omega⟩ ⟨g4,g5,g6,g7,g8,g9⟩
   refine⟨t.Sd ⟨by rw[g3];exact r1.sz,?_,g2,by rw[g3];omega⟩,fun i hi b=>?_,?_,?_,?_,?_⟩
   ·rw[g5];refine g1.congr (fun i=>?_) (fun _ _=>rfl);unfold Tt;rw[g4,g5,g6];show(i<a.n+1/\((BZ a k v).L i).turn≠0/\¬AA a.m ((BZ a k v).L i).key)↔_;by_cases e:i=a.n
    ·subst e;rw[BQ];constructor
     ·rintro _;exact .inr f.n
     ·rintro _;refine⟨oa,?_,?_⟩
      ·show a.turns+1≠0;have:=r1.turns.1;omega
      ·show¬AA a.m k;rw[f.m];exact hs
    ·constructor
     ·rintro⟨e1,e2⟩;rw[AR oa]at e2;exact .inl ⟨oa,e2⟩
     ·rintro(⟨e1,e2⟩|e1)
      ·rw[AR e1];exact⟨oa,e2⟩
      ·rw[<-f.n]at e1;exact absurd e1 e
   ·rw[g4]at hi;rw[g5]at b ⊢;rw[g6];have hi:i<a.n+1:=hi;show¬(_/\_=(a.m:Int)+1);rw[f.m];by_cases e:i=a.n
    ·subst e;rw[BQ];exact hx
    ·rw[AR oa]at b ⊢;rw[f.L]at b ⊢;exact hn i (by rw[<-f.n];omega) b
   ·rw[g4];show a.n+1=_;rw[f.n]
   ·rw[g5];show AP a.L a.n ⟨k,v,a.turns+1⟩=_;rw[f.L,f.n,f.turns]
   ·rw[g8];show a.live+1=_;rw[f.live]
   ·rw[g9];show a.turns+1=_;rw[f.turns]
theorem VX(l:KeyLaw K hf)(h:Inv K hf d)(hk:K k)(b:Df k=true)(m:v.ok=true)(c:v.kind≠0)(f:∀i,i<d.n->(d.L i).turn≠0->AE (d.L i).key k=false)(hl:d.live<500)(o:d.turns<1000000000000):Inv K hf (Hd hf d k v):=by
 obtain⟨c1,c2,c3,c4⟩:=BP (hf:=hf) h.i0.core;have a:∀i,i<(Ap hf d).n->((Ap hf d).L i).turn≠0->AE ((Ap hf d).L i).key k=false:=by
  intro i hi g;cases e:AE ((Ap hf d).L i).key k
  ·rfl
  ·obtain⟨j,g1,g2,g3⟩:=(Dq (hf:=hf) h.i0.core (fun p=>AE p.key k=true)).1 ⟨i,hi,g,e⟩;rw[f j g1 g2]at g3;cases g3
 obtain⟨g1,g2,g3,g4,g5,g6⟩:=IB l (Dx h.i0) (DL h.i0.core h.next) hk b m c a oa oa;refine⟨g1,g2,?_⟩;unfold XZ;show((Bd hf (Ap hf d) k v).n:Int)<=8\/((Bd hf (Ap hf d) k v).n:Int)<=2*(Bd hf (Ap hf d) k v).live;rw[g3,g5];omega
end
def shrink(I:Nat->Int):Nat->Nat
 |0=>0
 |m+1=>if I m=0 then shrink I m else m+1
theorem Ir(h:I m=0):shrink I (m+1)=shrink I m:=DD h
theorem Iq(h:I m≠0):shrink I (m+1)=m+1:=C3 h
theorem Ip(I:Nat->Int)(m:Nat):shrink I m<=m/\(shrink I m=0\/I (shrink I m-1)≠0)/\∀j,shrink I m<=j->j<m->I j=0:=by
 induction m with
 |zero=>exact⟨Be _,.inl rfl,fun j _ h=>oa⟩
 |succ m ih=>
  by_cases e:I m=0
  ·rw[Ir e];refine⟨oa,ih.2.1,fun j h1 h2=>?_⟩;by_cases e':j=m
   ·subst e';exact e
   ·exact ih.2.2 j h1 oa
  ·rw[Iq e];exact⟨Be _,.inr (by rw[show m+1-1=m by omega];exact e),fun j h1 h2=>oa⟩
def Ht(d:Dc)(p:Nat):Dc:={d with L:=AP d.L p default,live:=d.live-1}
section
variable {K:Vl->Prop} {hf:Vl->Nat} {d:Dc} {p:Nat}
theorem CF(h:i≠p):(Ht d p).L i=d.L i:=Af _ _ h
theorem Jp:(Ht d p).L p=default:=Ao _ _ _
theorem VY:(default:Pr).turn=0:=rfl
theorem BR(h:((Ht d p).L i).turn≠0):i≠p/\(Ht d p).L i=d.L i:=by
 by_cases e:i=p
 ·subst e;rw[Jp]at h;exact absurd VY h
 ·exact⟨e,CF e⟩
theorem Ru(b:(d.L p).turn≠0):∀k,(AM (Ht d p) k).length+(if p<k then 1 else 0)=(AM d k).length:=by
 intro k
 induction k with
 |zero=>rfl
 |succ k ih=>
  by_cases e:k=p
  ·subst e;rw[Ce (by rw[Jp];rfl),Bf b,ON,Aai,DD oa];rw[C3 oa]at ih;omega
  ·have a:(Ht d p).L k=d.L k:=CF e;by_cases e0:(d.L k).turn=0
   focus
    rw[Ce (by rw[a];exact e0),Ce e0,<-ih]
    congr 1
   rotate_left
   focus
    rw[Bf (by rw[a];exact e0),Bf e0,ON,ON,Aai,<-ih]
   rotate_left;all_goals
    by_cases e2:p<k
    ·rw[DD e2,DD (show p<k+1 by omega)]
    ·rw[C3 e2,C3 (show¬p<k+1 by omega)]
theorem Ph(c:KeyLaw K hf)(h:Ln d)(f:p<d.n)(g:(d.L p).turn≠0):Ln (Ht d p):=by
 refine⟨fun i hi=>?_,fun i j a hj ti b=>?_,?_⟩
 ·by_cases e:i=p
  ·subst e;left;rw[Jp];exact⟨rfl,c.none,c.none⟩
  ·have:=h.Cr i hi;unfold Entry at this ⊢;rw[CF e];exact this
 ·obtain⟨_,e1⟩:=BR ti;obtain⟨_,e2⟩:=BR b;rw[e1]at ti ⊢;rw[e2]at b ⊢;exact h.ord i j a hj ti b
 ·have h1:=Ru (d:=d) g d.n;rw[DD f]at h1;have h2:((AM d d.n).length:Int)=d.live:=h.EH;show((AM (Ht d p) d.n).length:Int)=d.live-1;omega
def goSmall(d:Dc)(p:Nat):Dc:={Ht d p with m:=shrink (AP d.I ((d.L p).key.num-1).toNat 0) d.m,I:=AP d.I ((d.L p).key.num-1).toNat 0}
theorem RT(x:KeyLaw K hf)(h:Cj K hf d)(hn:Next d)(v:p<d.n)(w:(d.L p).turn≠0)(hs:AA d.m (d.L p).key):Cj K hf (goSmall d p)/\Next (goSmall d p):=by
 have l:=Ph x h.log v w;have A:=h.small p v w hs;obtain⟨k1,k2,k3⟩:=hs;obtain⟨q,hq⟩:∃q,q=((d.L p).key.num-1).toNat:=⟨_,rfl⟩;have B:q<d.m:=oa;obtain⟨s1,s2,C⟩:=Ip (AP d.I q 0) d.m;have s:(goSmall d p).m=shrink (AP d.I q 0) d.m:=by rw[hq];rfl
 have r:(goSmall d p).I=AP d.I q 0:=by rw[hq];rfl
 rw[<-hq]at A;have still:∀i,i<d.n->(d.L i).turn≠0->i≠p->AA d.m (d.L i).key->((d.L i).key.num-1).toNat≠q/\AA (goSmall d p).m (d.L i).key:=by
  intro i hi a D b;have h1:=h.small i hi a b;have c:((d.L i).key.num-1).toNat≠q:=fun e=>by rw[e]at h1;omega
  refine⟨c,b.1,b.2.1,?_⟩;have a1:=b.2.1;have a2:=b.2.2;rw[s];by_cases e:(d.L i).key.num<=((shrink (AP d.I q 0) d.m:Nat):Int)
  ·exact e
  ·have:=C ((d.L i).key.num-1).toNat oa oa;rw[Af _ _ c]at this;omega
 have f:∀k:Vl,AA (goSmall d p).m k->AA d.m k:=fun k g=>⟨g.1,g.2.1,by have:=g.2.2;rw[s]at this;omega⟩;refine⟨Core.Sd ⟨⟨l.Cr,l.ord,l.EH⟩,fun i hi a=>?_,fun i j hi hj ti t hl=>?_,fun j hj=>?_,?_,fun i hi a b=>?_,h.turns,by show d.live-1<=500;have:=h.le;omega⟩ ⟨h.sz,?_,h.used,h.half⟩,fun i hi a hc=>?_⟩
 ·obtain⟨_,e1⟩:=BR a;have e1:(goSmall d p).L i=d.L i:=e1;rw[e1]at a ⊢;exact h.keys i hi a
 ·obtain⟨_,e1⟩:=BR ti;obtain⟨_,e2⟩:=BR t;have e1:(goSmall d p).L i=d.L i:=e1;have e2:(goSmall d p).L j=d.L j:=e2;rw[e1]at ti hl;rw[e2]at t hl;exact h.JW i j hi hj ti t hl
 ·unfold Ic;rw[r];rw[s]at hj;by_cases e:j=q
  ·left;subst e;exact Ao _ _ _
  ·rw[Af _ _ e];rcases h.ints j oa with g|⟨g1,g2,g3,g4,g5⟩
   ·exact .inl g
   ·right;have c:(d.I j-1).toNat≠p:=fun e'=>by
     have g5:(d.L (d.I j-1).toNat).key.num=j+1:=g5;rw[e']at g5;omega
    have u:(goSmall d p).at (d.I j)=d.at (d.I j):=CF c;rw[u];exact⟨g1,g2,g3,g4,g5⟩
 ·rw[s,r];rcases s2 with e|e
  ·exact .inl e
  ·right;by_cases e0:shrink (AP d.I q 0) d.m=0
   focus
    have hj:shrink (AP d.I q 0) d.m-1<d.m:=oa
   rotate_left
   focus
    have hj:shrink (AP d.I q 0) d.m-1<d.m:=oa
   rotate_left;all_goals
    by_cases e1:shrink (AP d.I q 0) d.m-1=q
    ·rw[e1,Ao]at e;exact absurd rfl e
    ·rw[Af _ _ e1]at e ⊢;rcases h.ints _ hj with g|g
     ·exact absurd g e
     ·exact g.1
 ·obtain⟨e0,e1⟩:=BR a;have e1:(goSmall d p).L i=d.L i:=e1;rw[e1]at a b ⊢;have o:=f _ b;rw[r,Af _ _ (still i hi a e0 o).1];exact h.small i hi a o
 ·refine h.idx.congr (fun i=>?_) (fun i hi=>?_)
  ·unfold Tt;constructor
   ·rintro⟨g1,g2,g3⟩;obtain⟨e0,e1⟩:=BR g2;have e1:(goSmall d p).L i=d.L i:=e1;rw[e1]at g2 g3;exact⟨g1,g2,fun g=>g3 (still i g1 g2 e0 g).2⟩
   ·rintro⟨g1,g2,g3⟩;have c:i≠p:=fun e=>by subst e;exact g3 ⟨k1,k2,k3⟩
    have e1:(goSmall d p).L i=d.L i:=CF c;rw[e1];exact⟨g1,g2,fun g=>g3 (f _ g)⟩
  ·have c:i≠p:=fun e=>by subst e;exact hi.2.2 ⟨k1,k2,k3⟩
   rw[show(goSmall d p).L i=d.L i from CF c]
 ·obtain⟨e0,e1⟩:=BR a;have e1:(goSmall d p).L i=d.L i:=e1;rw[e1]at a hc;rw[s]at hc;by_cases e:shrink (AP d.I q 0) d.m=d.m
  ·rw[e]at hc;exact hn i hi a hc
  ·have b:AA d.m (d.L i).key:=⟨hc.1,oa,oa⟩;have:=(still i hi a e0 b).2.2.2;rw[s]at this;omega
def Dt(d:Dc)(p s:Nat):Dc:={Ht d p with X:=AP d.X s (-1)}
theorem TX(r:KeyLaw K hf)(h:Cj K hf d)(hn:Next d)(t:p<d.n)(u:(d.L p).turn≠0)(hs:¬AA d.m (d.L p).key){s:Nat}(k:s<d.x)(v:d.X s=p+1):Cj K hf (Dt d p s)/\Next (Dt d p s):=by
 have b:=Ph r h.log t u;have c:B5 (AP d.X s (-1)) d.x=B5 d.X d.x:=FO (fun j hj=>by
  by_cases e:j=s
  ·subst e;rw[Ao];constructor<;>intro g<;>omega
  ·rw[Af _ _ e])
 refine⟨Core.Sd ⟨⟨b.Cr,b.ord,b.EH⟩,fun i hi a=>?_,fun i j hi hj ti l hl=>?_,fun j hj=>?_,h.last,fun i hi a f=>?_,h.turns,by show d.live-1<=500;have:=h.le;omega⟩ ⟨h.sz,?_,?_,?_⟩,fun i hi a hc=>?_⟩
 ·obtain⟨_,e1⟩:=BR a;have e1:(Dt d p s).L i=d.L i:=e1;rw[e1]at a ⊢;exact h.keys i hi a
 ·obtain⟨_,e1⟩:=BR ti;obtain⟨_,e2⟩:=BR l;have e1:(Dt d p s).L i=d.L i:=e1;have e2:(Dt d p s).L j=d.L j:=e2;rw[e1]at ti hl;rw[e2]at l hl;exact h.JW i j hi hj ti l hl
 ·rcases h.ints j hj with g|⟨g1,g2,g3,g4,g5⟩
  ·exact .inl g
  ·right;have hj:j<d.m:=hj;have o:(d.I j-1).toNat≠p:=fun e'=>by
    have g4:(d.L (d.I j-1).toNat).key.kind=2:=g4;have g5:(d.L (d.I j-1).toNat).key.num=j+1:=g5;rw[e']at g4 g5;exact hs ⟨g4,oa,oa⟩
   have q:(Dt d p s).at (d.I j)=d.at (d.I j):=CF o;show 0<d.I j/\d.I j<=d.n/\((Dt d p s).at (d.I j)).turn≠0/\((Dt d p s).at (d.I j)).key.kind=2/\((Dt d p s).at (d.I j)).key.num=j+1;rw[q];exact⟨g1,g2,g3,g4,g5⟩
 ·obtain⟨e0,e1⟩:=BR a;have e1:(Dt d p s).L i=d.L i:=e1;rw[e1]at a f ⊢;exact h.small i hi a f
 ·refine(h.idx.leave k oa).congr (fun i=>?_) (fun i hi=>?_)
  ·unfold Tt;constructor
   ·rintro⟨g1,g2,g3⟩;obtain⟨e0,e1⟩:=BR g2;have e1:(Dt d p s).L i=d.L i:=e1;rw[e1]at g2 g3;exact⟨⟨g1,g2,g3⟩,oa⟩
   ·rintro⟨⟨g1,g2,g3⟩,g4⟩;have e1:(Dt d p s).L i=d.L i:=CF oa;rw[e1];exact⟨g1,g2,g3⟩
  ·rw[show(Dt d p s).L i=d.L i from CF (oj hi.2)]
 ·show(B5 (AP d.X s (-1)) d.x:Int)=d.used;rw[c];exact h.used
 ·show 2*B5 (AP d.X s (-1)) d.x<=d.x;rw[c];exact h.half
 ·obtain⟨e0,e1⟩:=BR a;have e1:(Dt d p s).L i=d.L i:=e1;rw[e1]at a hc;exact hn i hi a hc
end
open Classical in
noncomputable def FP(hf:Vl->Nat)(d:Dc)(p:Nat):Dc:=
 if AA d.m (d.L p).key then goSmall d p
 else match AQ d (d.L p).key (hf (d.L p).key)with
  |none=>d
  |some s=>Dt d p s
noncomputable def XL(hf:Vl->Nat)(d:Dc)(p:Nat):Dc:=Ap hf (FP hf d p)
theorem IG(h:AA d.m (d.L p).key):FP hf d p=goSmall d p:=DD h
theorem JX(h:¬AA d.m (d.L p).key)(e:AQ d (d.L p).key (hf (d.L p).key)=some s):FP hf d p=Dt d p s:=by
 unfold FP;rw[C3 h,e]
section
variable {K:Vl->Prop} {hf:Vl->Nat} {d:Dc} {p:Nat}
theorem FR(c:KeyLaw K hf)(h:Cj K hf d)(hn:Next d)(a:p<d.n)(b:(d.L p).turn≠0):Cj K hf (FP hf d p)/\Next (FP hf d p)/\(FP hf d p).n=d.n/\(FP hf d p).L=AP d.L p default/\(FP hf d p).live=d.live-1/\(FP hf d p).turns=d.turns:=by
 by_cases hs:AA d.m (d.L p).key
 ·rw[IG hs];obtain⟨g1,g2⟩:=RT c h hn a b hs;exact⟨g1,g2,rfl,rfl,rfl,rfl⟩
 ·obtain⟨s,h1,h2,h3⟩:=h.found c (h.keys p a b) ⟨a,b,hs⟩ (c.refl _ (h.keys p a b));rw[JX hs h3];obtain⟨g1,g2⟩:=TX c h hn a b hs h1 h2;exact⟨g1,g2,rfl,rfl,rfl,rfl⟩
theorem bD(a:KeyLaw K hf)(h:Inv K hf d)(b:p<d.n)(c:(d.L p).turn≠0):Inv K hf (XL hf d p):=by
 obtain⟨g1,g2,g3,g4,g5,g6⟩:=FR a h.i0 h.next b c;obtain⟨c1,c2,c3,c4⟩:=BP (hf:=hf) g1.core;refine⟨Dx g1,DL g1.core g2,?_⟩;unfold XZ XL;rw[c1];omega
end
def I7(d:Dc)(p:Nat)(v:Vl):Dc:={d with L:=AP d.L p ⟨(d.L p).key,v,(d.L p).turn⟩}
section
variable {K:Vl->Prop} {hf:Vl->Nat} {d:Dc} {p:Nat} {v:Vl}
theorem EZ(i:Nat):((I7 d p v).L i).key=(d.L i).key:=by
 show(AP d.L p _ i).key=_;by_cases e:i=p
 ·subst e;rw[Ao]
 ·rw[Af _ _ e]
theorem DC(i:Nat):((I7 d p v).L i).turn=(d.L i).turn:=by
 show(AP d.L p _ i).turn=_;by_cases e:i=p
 ·subst e;rw[Ao]
 ·rw[Af _ _ e]
theorem Zv(h:Inv K hf d)(r:p<d.n)(o:(d.L p).turn≠0)(q:v.ok=true)(l:v.kind≠0):Inv K hf (I7 d p v):=by
 have b:=h.i0;refine⟨Core.Sd ⟨⟨fun i hi=>?_,fun i j m hj ti f=>?_,?_⟩,fun i hi a=>?_,fun i j hi hj ti f hl=>?_,fun j hj=>?_,b.last,fun i hi a k=>?_,b.turns,b.le⟩ ⟨b.sz,?_,b.used,b.half⟩,fun i hi a hc=>?_,h.tight⟩
 ·by_cases e:i=p
  ·subst e;rcases b.log.Cr i hi with g|g
   ·exact absurd g.1 o
   ·right;rw[show(I7 d i v).L i=⟨(d.L i).key,v,(d.L i).turn⟩from Ao _ _ _];exact⟨g.1,g.2.1,g.2.2.1,q,l⟩
  ·have:=b.log.Cr i hi;unfold Entry at this ⊢;rw[show(I7 d p v).L i=d.L i from Af _ _ e];exact this
 ·rw[DC]at ti f ⊢;rw[DC];exact b.log.ord i j m hj ti f
 ·show((AM (I7 d p v) d.n).length:Int)=d.live;rw[Jw (d:=I7 d p v) (c:=d) d.n (fun i _=>by rw[DC])];exact b.log.EH
 ·rw[DC]at a;rw[EZ];exact b.keys i hi a
 ·rw[DC]at ti f;rw[EZ,EZ]at hl;exact b.JW i j hi hj ti f hl
 ·have:=b.ints j hj;unfold Ic Dc.at at this ⊢;rw[DC,EZ];exact this
 ·rw[DC]at a;rw[EZ]at k ⊢;exact b.small i hi a k
 ·refine b.idx.congr (fun i=>?_) (fun i _=>EZ i);unfold Tt;rw[DC,EZ];exact Iff.rfl
 ·rw[DC]at a;rw[EZ]at hc;exact h.next i hi a hc
end
open Classical in
noncomputable def Cf(hf:Vl->Nat)(d:Dc)(k v:Vl):Dc:=
 if 0<=Aw d k (hf k)then(if v.kind=0 then XL hf d (Aw d k (hf k)).toNat else I7 d (Aw d k (hf k)).toNat v)
 else if v.kind≠0/\d.live<500/\d.turns<1000000000000 then Hd hf d k v else d
theorem Kf{k v:Vl}(h:0<=Aw d k (hf k))(a:v.kind=0):Cf hf d k v=XL hf d (Aw d k (hf k)).toNat:=by
 unfold Cf;rw[DD h,DD a]
theorem Ik{k v:Vl}(h:0<=Aw d k (hf k))(a:v.kind≠0):Cf hf d k v=I7 d (Aw d k (hf k)).toNat v:=by
 unfold Cf;rw[DD h,C3 a]
theorem Fp{k v:Vl}(h:¬0<=Aw d k (hf k))(a:v.kind≠0/\d.live<500/\d.turns<1000000000000):Cf hf d k v=Hd hf d k v:=by
 unfold Cf;rw[C3 h,DD a]
theorem FH{k v:Vl}(h:¬0<=Aw d k (hf k))(a:¬(v.kind≠0/\d.live<500/\d.turns<1000000000000)):Cf hf d k v=d:=by
 unfold Cf;rw[C3 h,C3 a]
theorem Ij{k v:Vl}(c:KeyLaw K hf)(h:Inv K hf d)(hk:K k)(e:Df k=true)(f:v.ok=true):Inv K hf (Cf hf d k v):=by
 rcases h.i0.place c hk with⟨i,h1,h2,h3,h4⟩|⟨h1,h2⟩
 ·have b:0<=Aw d k (hf k):=oa;have hi:(Aw d k (hf k)).toNat=i:=oa;by_cases a:v.kind=0
  ·rw[Kf b a,hi];exact bD c h h1 h2
  ·rw[Ik b a,hi];exact Zv h h1 h2 f a
 ·have b:¬0<=Aw d k (hf k):=oa;by_cases hc:v.kind≠0/\d.live<500/\d.turns<1000000000000
  ·rw[Fp b hc];exact VX c h hk e f hc.1 h1 hc.2.1 hc.2.2
  ·rw[FH b hc];exact h
theorem Gn(h:Pk x Z=true):(∃s m i t n j,Ieee.double.read x=.number s m i/\Ieee.double.read Z=.number t n j/\-1074<=i/\-1074<=j/\m<2^53/\n<2^53/\(i=-1074\/2^52<=m)/\(j=-1074\/2^52<=n)/\Fl.sc s m i=Fl.sc t n j)\/∃s,Ieee.double.read x=.infinity s/\Ieee.double.read Z=.infinity s:=by
 have h':(Ieee.double.order x Z==some .eq)=true:=h;rcases Fl.Cg x with⟨s,m,i,b,hi,e,f,hc⟩|⟨s,b⟩|⟨s,t,b⟩
 ·rcases Fl.Cg Z with⟨t,n,j,a,hj,d,hn,c⟩|⟨t,a⟩|⟨t,u,a⟩
  ·left;rw[Fl.Bi b a hi hj,Fl.B3]at h';exact⟨s,m,i,t,n,j,b,a,hi,hj,f,hn,hc,c,of_decide_eq_true h'⟩
  ·exfalso;unfold Ieee.Format.order at h';rw[b,a]at h';cases t<;>simp[Ieee.Datum.order]at h'
  ·exfalso;unfold Ieee.Format.order at h';rw[b,a]at h';simp[Ieee.Datum.order]at h'
 ·rcases Fl.Cg Z with⟨t,n,j,a,hj,d,hn,c⟩|⟨t,a⟩|⟨t,u,a⟩
  ·exfalso;unfold Ieee.Format.order at h';rw[b,a]at h';cases s<;>simp[Ieee.Datum.order]at h'
  ·right;unfold Ieee.Format.order at h';rw[b,a]at h';cases s<;>cases t<;>simp[Ieee.Datum.order]at h'
   ·exact⟨false,b,a⟩
   ·exact⟨true,b,a⟩
  ·exfalso;unfold Ieee.Format.order at h';rw[b,a]at h';simp[Ieee.Datum.order]at h'
 ·exfalso;unfold Ieee.Format.order at h';rw[b]at h';simp[Ieee.Datum.order]at h'
theorem Fy{s t:Bool}{i j:Int}(hx:Ieee.double.read x=.number s m i)(hy:Ieee.double.read Z=.number t n j)(hi:-1074<=i)(hj:-1074<=j)(e:Fl.sc s m i=Fl.sc t n j):Pk x Z=true:=by
 show(Ieee.double.order x Z==some .eq)=true;rw[Fl.Bi hx hy hi hj,Fl.B3];exact decide_eq_true e
theorem Va{s:Bool}(hx:Ieee.double.read x=.infinity s)(hy:Ieee.double.read Z=.infinity s):Pk x Z=true:=by
 show(Ieee.double.order x Z==some .eq)=true;unfold Ieee.Format.order;rw[hx,hy];cases s<;>simp[Ieee.Datum.order]
theorem RK(h:Pk x Z=true):Pk Z x=true:=by
 rcases Gn h with⟨s,m,i,t,n,j,h1,h2,h3,h4,_,_,_,_,e⟩|⟨s,h1,h2⟩
 ·exact Fy h2 h1 h4 h3 e.symm
 ·exact Va h2 h1
theorem Pm{X:Nat}(h:Pk x Z=true)(h':Pk Z X=true):Pk x X=true:=by
 rcases Gn h with⟨s,m,i,t,n,j,h1,h2,h3,h4,_,_,_,_,e⟩|⟨s,h1,h2⟩
 ·rcases Gn h' with⟨s',a,b,t',n',j',g1,g2,g3,g4,_,_,_,_,e'⟩|⟨s',g1,g2⟩
  ·rw[h2]at g1;cases g1;exact Fy h1 g2 h3 g4 (e.trans e')
  ·rw[h2]at g1;cases g1
 ·rcases Gn h' with⟨s',a,b,t',n',j',g1,g2,g3,g4,_,_,_,_,e'⟩|⟨s',g1,g2⟩
  ·rw[h2]at g1;cases g1
  ·rw[h2]at g1;cases g1;exact Va h1 g2
theorem Yp{s t:Bool}{i j:Int}(hi:-1074<=i)(hj:-1074<=j)(b:m<2^53)(hn:n<2^53)(hc:i=-1074\/2^52<=m)(a:j=-1074\/2^52<=n)(e:Fl.sc s m i=Fl.sc t n j)(d:Fl.sc s m i≠0):s=t/\m=n/\i=j:=by
 have pos:∀(m:Nat) (i:Int),0<=Fl.sc false m i/\Fl.sc false m i=((m*2^(i+1074).toNat:Nat):Int):=by
  intro m i;have:Fl.sc false m i=((m*2^(i+1074).toNat:Nat):Int):=by
   unfold Fl.sc;rw[Fl.CX];simp
  exact⟨by rw[this];omega,this⟩
 have core:∀{m n:Nat} {i j:Int},-1074<=i->-1074<=j->m<2^53->n<2^53->(i=-1074\/2^52<=m)->(j=-1074\/2^52<=n)->Fl.sc false m i=Fl.sc false n j->Fl.sc false m i≠0->m=n/\i=j:=by
  intro m n i j hi hj b hn hc a e d;rw[(pos m i).2,(pos n j).2]at e;have e':m*2^(i+1074).toNat=n*2^(j+1074).toNat:=oa;have le:∀{m n:Nat} {i j:Int},-1074<=i->m<2^53->(j=-1074\/2^52<=n)->m*2^(i+1074).toNat=n*2^(j+1074).toNat->¬i<j:=by
   intro m n i j hi b a e f;have hn:2^52<=n:=a.resolve_left oa;obtain⟨q,hq⟩:∃q:Nat,(j+1074).toNat=(i+1074).toNat+(q+1):=⟨(j+1074).toNat-(i+1074).toNat-1,oa⟩;rw[hq,Aak,Aan (2^(i+1074).toNat),<-OK]at e;have g:m=n*2^(q+1):=We (Of _) e;have h1:2<=2^(q+1):=by rw[AaF];have:=Of q;omega
   have h2:n*2<=n*2^(q+1):=Nat.mul_le_mul_left n h1;omega
  have c:i=j:=by
   have h1:=le hi b a e';have h2:=le hj hn hc e'.symm;omega
  subst c;exact⟨We (Of _) e',rfl⟩
 cases s<;>cases t
 ·exact⟨rfl,core hi hj b hn hc a e d⟩
 ·exfalso;have e1:Fl.sc true n j=-Fl.sc false n j:=Fl.D6 n j;have h1:=(pos m i).1;have h2:=(pos n j).1;omega
 ·exfalso;have e1:Fl.sc true m i=-Fl.sc false m i:=Fl.D6 m i;have h1:=(pos m i).1;have h2:=(pos n j).1;omega
 ·have e1:Fl.sc true m i=-Fl.sc false m i:=Fl.D6 m i;have e2:Fl.sc true n j=-Fl.sc false n j:=Fl.D6 n j;exact⟨rfl,core hi hj b hn hc a oa oa⟩
def Ky(v:Vl):Prop:=Df v=true/\Wf v
theorem fJ(h:fz x=true)(h':fz Z=true):Pk x Z=true:=by
 have h1:Pk x 0=true:=h;have h2:Pk Z 0=true:=h';exact Pm h1 (RK h2)
theorem H9{a b:Vl}(h:AE a b=true):Pk a.Ag b.Ag=true/\a.str.toList=b.str.toList/\a.ref=b.ref:=by
 unfold AE at h;simp only[To,beq_iff_eq]at h;exact⟨h.2.2.1,h.2.2.2.1,h.2.2.2.2⟩
theorem Ml{a b:Vl}(h1:a.kind=b.kind)(h2:a.num=b.num)(h3:Pk a.Ag b.Ag=true)(h4:a.str.toList=b.str.toList)(h5:a.ref=b.ref):AE a b=true:=by
 unfold AE;simp[h1,h2,h3,h4,h5]
theorem WB{v:Vl}(h:Ky v)(h3:v.kind=3):DW v.Ag=false/\fz v.Ag=false:=(Yz h.1 h.2).Ag h3 |>.2
theorem toList_inj{a b:ByteArray}(h:a.toList=b.toList):a.data.toList=b.data.toList:=by
 rw[<-AaT,<-AaT];exact h
theorem Ca:KeyLaw Ky hN:=by
 refine⟨fun a h=>Ml rfl rfl (Vo h.1) rfl rfl,fun a b _ _ h=>?_,fun a b c _ _ _ h h'=>?_,fun a b g hb h=>?_,fun a b g hb k1 k2 k3=>?_,fun n=>?_,?_⟩
 ·obtain⟨h1,h2,h3⟩:=H9 h;exact Ml (EC h).symm (FD h).symm (RK h1) h2.symm h3.symm
 ·obtain⟨h1,h2,h3⟩:=H9 h;obtain⟨g1,g2,g3⟩:=H9 h';exact Ml ((EC h).trans (EC h')) ((FD h).trans (FD h')) (Pm h1 g1) (h2.trans g2) (h3.trans g3)
 ·obtain⟨h1,h2,h3⟩:=H9 h;unfold hN
  congr 1
  unfold Dk;rw[EC h,FD h,h3];by_cases f:b.kind=4
  ·rw[DD f,DD f,toList_inj h2]
  ·rw[C3 f,C3 f];by_cases e3:b.kind=3
   ·rw[DD e3,DD e3]
    congr 1
    have hz:=(WB g ((EC h).trans e3)).2;unfold Es;rcases Gn h1 with⟨s,m,i,t,n,j,g1,g2,g3,g4,g5,g6,g7,g8,e⟩|⟨s,g1,g2⟩
    ·have o:Fl.sc s m i≠0:=by
      intro e0;have:Pk a.Ag 0=true:=Fy g1 Fl.BT g3 oa (by rw[e0,Fl.DT]);have d:Pk a.Ag 0=false:=hz;rw[this]at d;cases d
     obtain⟨r1,r2,p⟩:=Yp g3 g4 g5 g6 g7 g8 e o;rw[g1,g2,r1,r2,p]
    ·rw[g1,g2]
   ·rw[C3 e3,C3 e3]
 ·have l:∀v:Vl,Ky v->v.kind=2->fz v.Ag=true/\v.str.toList.isEmpty=true/\v.ref=0:=by
   intro v h k;have h1:=h.1;unfold Df Vl.ok at h1;simp only[To]at h1;have h2:=h1.1.1;unfold Bh at h2;simp[k]at h2;exact⟨h2.1.1,by simpa using h2.1.2,h2.2⟩
  obtain⟨a1,a2,a3⟩:=l a g k1;obtain⟨b1,b2,b3⟩:=l b hb k2;exact Ml (k1.trans k2.symm) k3 (fJ a1 b1) ((List.isEmpty_iff.1 a2).trans (List.isEmpty_iff.1 b2).symm) (a3.trans b3.symm)
 ·refine⟨?_,⟨by show 0<18446744073709551616;omega,by show(0:Nat)<=maxLen;omega⟩⟩;have hz:fz 0=true:=Fy Fl.BT Fl.BT oa oa rfl;unfold Df Vl.ok Bh Dm;simp[hz]
 ·have hz:fz 0=true:=Fy Fl.BT Fl.BT oa oa rfl;show Gr (⟨0,0,0,⟨#[]⟩,0⟩:Vl)=true;unfold Gr Vl.ok Bh;simp[hz]
theorem Vg:∀v,Ky v->XT v (hN v):=fun v h=>nK h.1 h.2
theorem Mj:∀v,Ky v->O7 BH v (hN v):=fun v h=>lN h.1 h.2
theorem fK:fz 0=true:=oc
theorem gC(v:Vl)(f:Wf v):∃(c:Int) (b:Vl),J3 v.kind v.num v.Ag v.str v.ref=KV c b.kind b.num b.Ag b.str b.ref/\(c=0->Ky b):=by
 unfold J3;by_cases d:Bh v.kind v.num v.Ag v.str v.ref=true
 ·rw[DD d];by_cases e:v.kind=0
  ·rw[DD e];exact⟨1,⟨0,0,0,⟨#[]⟩,0⟩,rfl,fun h=>oa⟩
  ·rw[C3 e];by_cases h3:v.kind=3
   ·rw[DD h3];by_cases hn:DW v.Ag=true
    ·rw[DD hn];exact⟨1,⟨0,0,0,⟨#[]⟩,0⟩,rfl,fun h=>oa⟩
    ·rw[C3 hn];by_cases a:Ci v.Ag=true
     ·rw[DD a];refine⟨0,⟨2,LU v.Ag,0,⟨#[]⟩,0⟩,rfl,fun _=>⟨?_,⟨by show(0:Nat)<_;decide,Re _⟩⟩⟩;unfold Df Vl.ok Bh;simp[fK]
     ·rw[C3 a];refine⟨0,v,rfl,fun _=>⟨?_,f⟩⟩;unfold Df Vl.ok;rw[d];simp[e,hn,a]
   ·rw[C3 h3];refine⟨0,v,rfl,fun _=>⟨?_,f⟩⟩;unfold Df Vl.ok;rw[d];simp[e,h3]
 ·rw[C3 d];exact⟨2,⟨0,0,0,⟨#[]⟩,0⟩,rfl,fun h=>oa⟩
def aB:Dc:=⟨0,fun _=>default,0,fun _=>0,0,fun _=>0,0,0,0⟩
theorem cF(hf:Vl->Nat):∀(f:Nat) (d:Dc),(CG hf f d).m<=d.m+f:=by
 intro f
 induction f with
 |zero=>intro d;exact Be _
 |succ f ih=>
  intro d;cases e:AQ d (Dm ((d.m:Int)+1)) (hf (Dm ((d.m:Int)+1)))with
  |none=>rw[FE e];omega
  |some s=>
   rw[FF e];have:=ih (Eb d s);have h2:(Eb d s).m=d.m+1:=rfl;omega
theorem U5(hf:Vl->Nat)(c:Dc)(k':Vl)(p:Nat):(AL hf c k' p).m=c.m:=by
 unfold AL;cases CS c.x c.X (hf k'%c.x)<;>rfl
theorem Uy{k v:Vl}(l:KeyLaw K hf)(h:Inv K hf d)(hk:K k):(Cf hf d k v).m<=d.m+4002:=by
 rcases h.i0.place l hk with⟨i,h1,h2,h3,h4⟩|⟨h1,h2⟩
 ·have f:0<=Aw d k (hf k):=oa;have hi:(Aw d k (hf k)).toNat=i:=oa;by_cases j:v.kind=0
  ·rw[Kf f j,hi];have g:=FR l h.i0 h.next h1 h2;have e:=(BP (hf:=hf) g.1.core).2.2.1;show(Ap hf (FP hf d i)).m<=_;rw[e];by_cases hs:AA d.m (d.L i).key
   ·rw[IG hs];have:=(Ip (AP d.I ((d.L i).key.num-1).toNat 0) d.m).1;show shrink (AP d.I ((d.L i).key.num-1).toNat 0) d.m<=_;omega
   ·obtain⟨s,_,_,n⟩:=h.i0.found l (h.i0.keys i h1 h2) ⟨h1,h2,hs⟩ (l.refl _ (h.i0.keys i h1 h2));rw[JX hs n];show d.m<=_;omega
  ·rw[Ik f j,hi];show d.m<=_;omega
 ·have f:¬0<=Aw d k (hf k):=oa;by_cases hc:v.kind≠0/\d.live<500/\d.turns<1000000000000
  ·rw[Fp f hc];have e:=(BP (hf:=hf) h.i0.core).2.2.1;have a:=(BP (hf:=hf) h.i0.core).1;have b:=Dx h.i0;show(Bd hf (Ap hf d) k v).m<=_;generalize Ap hf d=c at e b a;have a:c.live<500:=by rw[a];exact hc.2.1
   have o:c.x<=4000:=by
    rcases b.sz with h|h
    ·omega
    ·exact h.2.1
   unfold Bd
   split
   ·show c.m<=_;omega
   ·split
    ·have:=cF hf (c.x+1) (BX c k v);have h2:(BX c k v).m=c.m+1:=rfl;omega
    ·rw[U5];have p:=(Gu b a).2.2.m;show(Cw hf c).m<=_;omega
  ·rw[FH f hc];omega
theorem Inv.small(h:Inv K hf d)(a:d.m<=4194304):Small d:=by
 refine⟨?_,a,?_⟩
 ·have:=h.i0.le;have:=h.i0.log.EH;rcases h.tight with h|h<;>omega
 ·rcases h.i0.sz with h|h
  ·omega
  ·have:=h.2.1;omega
def EN(Q:Pr->Prop)(d:Dc):Prop:=∀i,i<d.n->Q (d.L i)
section
variable {Q:Pr->Prop} {hf:Vl->Nat} {d c:Dc} {k v:Vl}
theorem EN.same(h:EN Q d)(hn:c.n=d.n)(a:c.L=d.L):EN Q c:=fun i hi=>by rw[a];exact h i oa
theorem EN.nG(h:EN Q d){p:Nat}{x:Pr}(hx:Q x){n:Nat}(hn:∀i,i<n->i=p\/i<d.n){c:Dc}(hc:c.n=n)(a:c.L=AP d.L p x):EN Q c:=fun i hi=>by
 rw[a];by_cases e:i=p
 ·subst e;rw[Ao];exact hx
 ·rw[Af _ _ e];rcases hn i oa with e'|e'
  ·exact absurd e' e
  ·exact h i e'
theorem Jr(p:Nat):(AL hf d k p).n=d.n/\(AL hf d k p).L=d.L:=by
 unfold AL
 split<;>exact⟨rfl,rfl⟩
theorem JE(x:Nat):∀k,(AF hf d x k).n=d.n/\(AF hf d x k).L=d.L
 |0=>⟨rfl,rfl⟩
 |k+1=>by
  by_cases h:AO d k
  ·rw[EF h];have h1:=Jr (hf:=hf) (d:=AF hf d x k) (k:=(d.L k).key) k;have h2:=JE x k;exact⟨h1.1.trans h2.1,h1.2.trans h2.2⟩
  ·rw[EE h];exact JE x k
theorem GY(more:Nat):(AX hf d more).n=d.n/\(AX hf d more).L=d.L:=by
 by_cases h:BI d d.n+more=0
 ·rw[Di h];exact⟨rfl,rfl⟩
 ·rw[B6 h];exact JE _ _
theorem K5:∀(f:Nat) (d:Dc),(CG hf f d).n=d.n/\(CG hf f d).L=d.L
 |0,d=>⟨rfl,rfl⟩
 |f+1,d=>by
  cases h:AQ d (Dm ((d.m:Int)+1)) (hf (Dm ((d.m:Int)+1)))with
  |none=>rw[FE h];exact⟨rfl,rfl⟩
  |some s=>rw[FF h];exact K5 f (Eb d s)
theorem EN.pack(h:EN Q d):EN Q (BF d):=fun j hj=>by
 obtain⟨i,h1,h2,h3⟩:=Fq d.n hj;have e:Ea d j=d.L i:=by rw[<-h3];exact E5 h1 h2
 show Q (Ea d j);rw[e];exact h i h1
theorem EN.JU(h:EN Q d):EN Q (Ap hf d):=by
 unfold Ap
 split
 ·exact h
 ·exact h.pack.same (GY _).1 (GY _).2
theorem EN.add(h:EN Q c)(hx:Q ⟨k,v,c.turns+1⟩):EN Q (BZ c k v):=h.nG hx (n:=c.n+1) (fun i hi=>oa) rfl rfl
theorem PO:(Cw hf c).n=c.n/\(Cw hf c).L=c.L:=by
 unfold Cw
 split
 ·exact GY _
 ·exact⟨rfl,rfl⟩
theorem EN.jF(h:EN Q c)(hx:∀t,Q ⟨k,v,t⟩):EN Q (Bd hf c k v):=by
 unfold Bd
 split
 ·exact(h.add (k:=k) (v:=v) (hx _)).same rfl rfl
 ·split
  ·exact(h.add (k:=k) (v:=v) (hx _)).same (K5 _ _).1 (K5 _ _).2
  ·exact((h.same PO.1 PO.2).add (c:=Cw hf c) (k:=k) (v:=v) (hx _)).same (Jr _).1 (Jr _).2
theorem EN.oC(h:EN Q d)(b:Q default)(p:Nat):EN Q (FP hf d p):=by
 have a:EN Q (Ht d p):=fun i hi=>by
  show Q (AP d.L p default i);by_cases e:i=p
  ·subst e;rw[Ao];exact b
  ·rw[Af _ _ e];exact h i hi
 unfold FP
 split
 ·exact a.same rfl rfl
 ·split
  ·exact h
  ·exact a.same rfl rfl
theorem EN.put(h:EN Q d)(hx:∀t,Q ⟨k,v,t⟩)(a:Q default)(hs:∀x:Pr,Q x->Q ⟨x.key,v,x.turn⟩):EN Q (Cf hf d k v):=by
 unfold Cf
 split
 ·split
  ·exact(h.oC a _).JU
  ·intro i hi;show Q (AP d.L _ _ i);by_cases e:i=(Aw d k (hf k)).toNat
   ·subst e;rw[Ao];exact hs _ (h _ hi)
   ·rw[Af _ _ e];exact h i hi
 ·split
  ·exact h.JU.jF hx
  ·exact h
end
theorem VQ.put{hf:Vl->Nat}{d:Dc}{k v:Vl}(h:VQ d)(hk:Wf k)(a:Wf v):VQ (Cf hf d k v):=
 EN.put (Q:=fun p=>Wf p.key/\Wf p.val) h (fun _=>⟨hk,a⟩) ⟨⟨oc,oc⟩,⟨oc,oc⟩⟩ (fun x hx=>⟨hx.1,a⟩)
theorem QS:Inv K hf aB:=
 ⟨⟨⟨fun i hi=>(by cases hi),fun i j _ hj=>(by cases hj),rfl⟩,fun i hi=>(by cases hi),fun i j hi=>(by cases hi),fun j hj=>(by cases hj),.inl rfl,fun i hi=>(by cases hi),.inl rfl,
  Idx.empty _ _ _ _ (fun i h=>by cases h.1),rfl,Be _,⟨oc,oc⟩,oc⟩,fun i hi=>(by cases hi),.inl oc⟩
def Has(d:Dc)(p:Pr):Prop:=∃i,i<d.n/\(d.L i).turn≠0/\d.L i=p
theorem GI(h1:i<d.n)(h2:(d.L i).turn≠0):Has d (d.L i):=⟨i,h1,h2,rfl⟩
section
variable {K:Vl->Prop} {hf:Vl->Nat} {d:Dc} {k v:Vl}
theorem Inv.entry(h:Inv K hf d){p:Pr}(a:Has d p):0<p.turn/\p.turn<=d.turns/\p.val.ok=true/\p.val.kind≠0:=by
 obtain⟨i,h1,h2,rfl⟩:=a;rcases h.i0.log.Cr i h1 with e|e
 ·exact absurd e.1 h2
 ·exact⟨e.1,e.2.1,e.2.2.2⟩
theorem Lu(h:Core K d)(p:Pr):Has (Ap hf d) p↔Has d p:=Dq h (fun q=>q=p)
def aH(d e:Dc)(k v:Vl):Prop:=
 (∃q,Has d q/\AE q.key k=true/\v.kind=0/\(∀p,Has e p↔Has d p/\AE p.key k=false)/\e.live=d.live-1/\e.turns=d.turns)\/
 (∃q,Has d q/\AE q.key k=true/\v.kind≠0/\(∀p,Has e p↔(Has d p/\AE p.key k=false)\/p=⟨q.key,v,q.turn⟩)/\e.live=d.live/\e.turns=d.turns)\/
 ((∀p,Has d p->AE p.key k=false)/\v.kind≠0/\(∀p,Has e p↔Has d p\/p=⟨k,v,d.turns+1⟩)/\e.live=d.live+1/\e.turns=d.turns+1)\/
 ((∀p,Has d p->AE p.key k=false)/\¬(v.kind≠0/\d.live<500/\d.turns<1000000000000)/\e=d)
theorem J4(a:KeyLaw K hf)(h:Cj K hf d)(hk:K k){i:Nat}(h1:i<d.n)(h2:(d.L i).turn≠0)(h3:AE (d.L i).key k=true){j:Nat}(g1:j<d.n)(g2:(d.L j).turn≠0):AE (d.L j).key k=false↔j≠i:=by
 constructor
 ·intro e b;subst b;rw[h3]at e;exact absurd e oc
 ·intro e;by_cases hl:AE (d.L j).key k=true
  ·refine absurd (h.JW j i g1 h1 g2 h2 ?_) e;exact a.trans _ _ _ (h.keys j g1 g2) hk (h.keys i h1 h2) hl (a.symm _ _ (h.keys i h1 h2) hk h3)
  ·simpa using hl
theorem Kg(g:KeyLaw K hf)(h:Inv K hf d)(hk:K k)(s:Df k=true)(w:v.ok=true):aH d (Cf hf d k v) k v:=by
 rcases h.i0.place g hk with⟨i,h1,h2,h3,h4⟩|⟨h1,h2⟩
 ·have l:0<=Aw d k (hf k):=oa;have hi:(Aw d k (hf k)).toNat=i:=oa;by_cases f:v.kind=0
  ·rw[Kf l f,hi];obtain⟨g1,g2,g3,g4,g5,g6⟩:=FR g h.i0 h.next h1 h2;have c:=BP (hf:=hf) g1.core;refine .inl ⟨d.L i,GI h1 h2,h3,f,fun p=>?_,c.1.trans g5,c.2.1.trans g6⟩;refine(Lu g1.core p).trans ?_;constructor
   ·rintro⟨j,b,a,rfl⟩;rw[g4]at a ⊢;by_cases e:j=i
    ·subst e;rw[Ao]at a;exact absurd rfl a
    ·rw[Af _ _ e]at a ⊢;exact⟨GI oa a,(J4 g h.i0 hk h1 h2 h3 oa a).2 e⟩
   ·rintro⟨⟨j,b,a,rfl⟩,hl⟩;have e:=(J4 g h.i0 hk h1 h2 h3 b a).1 hl;refine⟨j,oa,?_,?_⟩
    ·rw[g4,Af _ _ e];exact a
    ·rw[g4,Af _ _ e]
  ·rw[Ik l f,hi];refine .inr (.inl ⟨d.L i,GI h1 h2,h3,f,fun p=>?_,rfl,rfl⟩);constructor
   ·rintro⟨j,b,a,rfl⟩;by_cases e:j=i
    ·subst e;right;exact Ao _ _ _
    ·left;have e2:(I7 d i v).L j=d.L j:=Af _ _ e;rw[e2]at a ⊢;exact⟨GI b a,(J4 g h.i0 hk h1 h2 h3 b a).2 e⟩
   ·rintro(⟨⟨j,b,a,rfl⟩,hl⟩|rfl)
    ·have e:=(J4 g h.i0 hk h1 h2 h3 b a).1 hl;have e2:(I7 d i v).L j=d.L j:=Af _ _ e;exact⟨j,b,by rw[e2];exact a,e2⟩
    ·have e2:(I7 d i v).L i=⟨(d.L i).key,v,(d.L i).turn⟩:=Ao _ _ _;exact⟨i,h1,by rw[e2];exact h2,e2⟩
 ·have l:¬0<=Aw d k (hf k):=oa;have m:∀p,Has d p->AE p.key k=false:=by
   rintro p ⟨i,t,i2,rfl⟩;exact h1 i t i2
  by_cases hc:v.kind≠0/\d.live<500/\d.turns<1000000000000
  ·rw[Fp l hc];have c:=BP (hf:=hf) h.i0.core;have q:=Dx h.i0;have u:=DL (hf:=hf) h.i0.core h.next;have o:=fun p=>Lu (hf:=hf) h.i0.core p;have r:∀i,i<(Ap hf d).n->((Ap hf d).L i).turn≠0->AE ((Ap hf d).L i).key k=false:=fun i t i2=>m _ ((o _).1 (GI t i2));obtain⟨g1,g2,g3,g4,g5,g6⟩:=IB g q u hk s w hc.1 r (by rw[c.1];exact hc.2.1) (by rw[c.2.1];exact hc.2.2);have et:(Ap hf d).turns=d.turns:=c.2.1;refine .inr (.inr (.inl ⟨m,hc.1,fun p=>?_,by rw[<-c.1];exact g5,by rw[<-et];exact g6⟩));show Has (Bd hf (Ap hf d) k v) p↔_;rw[<-et];constructor
   ·rintro⟨j,b,a,rfl⟩;rw[g4]at a ⊢;by_cases e:j=(Ap hf d).n
    ·subst e;right;exact Ao _ _ _
    ·left;rw[Af _ _ e]at a ⊢;exact(o _).1 (GI oa a)
   ·rintro(l|rfl)
    ·obtain⟨j,b,a,rfl⟩:=(o p).2 l;refine⟨j,oa,?_,?_⟩
     ·rw[g4,Af _ _ oa];exact a
     ·rw[g4,Af _ _ oa]
    ·refine⟨(Ap hf d).n,oa,?_,?_⟩
     ·rw[g4,Ao];show(Ap hf d).turns+1≠0;have:=q.turns.1;omega
     ·rw[g4,Ao]
  ·rw[FH l hc];exact .inr (.inr (.inr ⟨m,hc,rfl⟩))
end
def Fe(d:Dc)(p:Int):Vl:=if 0<=p then(d.L p.toNat).val else default
open Classical in
noncomputable def TW(d:Dc)(c:Int)(a:Vl):Vl:=if C6 d (hD d)=0/\c=0 then Fe d (Aw d a (hN a))else default
noncomputable def Cm(F:Nat->A3)(x:Tb)(k:Vl):Vl:=
 if x.shape<0 then Fe x.d (Aw x.d k (hN k))
 else if k.kind=4/\0<=BO F x.shape.toNat k.str then x.V (BO F x.shape.toNat k.str).toNat else KA
def WC(n:Nat)(f:Nat->A3)(i:Nat)(key:ByteArray):Int:=VT (fun j=>decide (0<j)&&(decide ((f j).parent=(i:Int))&&((f j).key.toList==key.toList))) n
def ER(n:Nat)(f:Nat->A3)(i:Nat)(key:ByteArray):Int:=if 0<=WC n f i key then WC n f i key else if(f i).count=12\/n=200 then -1 else n
def E7(n:Nat)(f:Nat->A3)(i:Nat)(key:ByteArray):Nat:=if 0<=WC n f i key then n else if(f i).count=12\/n=200 then n else n+1
def Fz(n:Nat)(f:Nat->A3)(i:Nat)(key:ByteArray):Nat->A3:=if 0<=WC n f i key then f else if(f i).count=12\/n=200 then f else grown f n i key
theorem Vp:Oh n f i key j↔j<n/\(decide (0<j)&&(decide ((f j).parent=(i:Int))&&((f j).key.toList==key.toList)))=true:=by
 simp only[To,AaO,beq_iff_eq];constructor
 ·rintro⟨a,b,c,d⟩;exact⟨b,a,c,d⟩
 ·rintro⟨b,a,c,d⟩;exact⟨a,b,c,d⟩
theorem RV(n:Nat)(f:Nat->A3)(i:Nat)(key:ByteArray):Tw n f i key (E7 n f i key) (Fz n f i key) (ER n f i key):=by
 unfold E7 Fz ER;rcases atF_rng (fun j=>decide (0<j)&&(decide ((f j).parent=(i:Int))&&((f j).key.toList==key.toList))) n 0 with h|⟨j,h1,h2,h3,h4,h5⟩
 ·have hk:WC n f i key=-1:=h;have c:∀j,¬Oh n f i key j:=fun j hj=>by
   obtain⟨a,b⟩:=Vp.1 hj;have:=Gl h j (Re _) oa;rw[this]at b;cases b
  have d:¬(0:Int)<=-1:=oc;simp only[hk,C3 d];by_cases hc:(f i).count=12\/n=200
  ·simp only[DD hc];exact .inr (.inl ⟨c,hc,rfl,rfl,rfl⟩)
  ·simp only[C3 hc];exact .inr (.inr ⟨c,fun e=>hc (.inl e),fun e=>hc (.inr e),rfl,rfl,rfl⟩)
 ·have hk:WC n f i key=j:=h1;have d:(0:Int)<=(j:Int):=oa;simp only[hk,DD d];exact .inl ⟨j,Vp.2 ⟨oa,h4⟩,rfl,rfl,rfl⟩
theorem JY{r:Int}(h4:Gi n f)(h:Tw n f i key n' f' r):n'=E7 n f i key/\f'=Fz n f i key/\r=ER n f i key:=h.unique h4 (RV n f i key)
noncomputable def Av(F:Nat->A3)(j:Nat)(W:Nat->Vl):Nat->Dc
 |0=>aB
 |i+1=>Cf hN (Av F j W i) (BA (Dr F j i)) (W i)
noncomputable def EP(d:Dc)(k v:Vl):Bool:=decide (v.kind≠0)&&(decide (Aw d k (hN k)<0)&&(decide (d.live=500)||decide (d.turns=1000000000000)))
noncomputable def Ew(x:Tb)(d:Dc)(k v:Vl):Tb:=⟨-1,0,x.V,Cf hN d k v⟩
def BW(s:AK)(t:Nat)(x:Tb):AK:={s with T:=AY s.T t x}
def Eh(x:Tb)(i:Nat)(v:Vl):Tb:={x with V:=AY x.V i v}
def Ej(x:Tb)(r:Int)(v:Vl):Tb:={x with shape:=r,nv:=x.nv+1,V:=AY x.V x.nv v}
inductive Way where
 |no|Dr|grow|loose|MX|full
 deriving DecidableEq
noncomputable def BN(s:AK)(x:Tb)(k v:Vl):Way:=
 if v.kind=0/\(Cm s.F x k).kind=0 then .no
 else if 0<=x.shape then
  (if k.kind=4/\v.kind≠0 then
   (if 0<=BO s.F x.shape.toNat k.str then .Dr
    else if 0<=ER s.nf s.F x.shape.toNat k.str then .grow else .loose)
   else .loose)
 else if EP x.d k v=true then .full else .MX
noncomputable def CC(s:AK)(t:Nat)(k v:Vl):AK:=
 match BN s (s.T t) k v with
 |.no=>s
 |.Dr=>BW s t (Eh (s.T t) (BO s.F (s.T t).shape.toNat k.str).toNat v)
 |.grow=>{BW s t (Ej (s.T t) (ER s.nf s.F (s.T t).shape.toNat k.str) v)with nf:=E7 s.nf s.F (s.T t).shape.toNat k.str,F:=Fz s.nf s.F (s.T t).shape.toNat k.str}
 |.loose=>BW s t (Ew (s.T t) (Av s.F (s.T t).shape.toNat (s.T t).V (s.T t).nv) k v)
 |.MX=>BW s t (Ew (s.T t) (s.T t).d k v)
 |.full=>s
noncomputable def Cv(s:AK)(t:Nat)(k v:Vl):Int:=if BN s (s.T t) k v=.full then 5 else 0
def DQ(n:Int):Int:=if n<1000000000000 then n+1 else 1000000000000
def J0(s:AK)(i t:Nat):Bool:=decide (0<=(s.T t).shape)&&decide ((s.T t).shape=(s.S i).shape)
noncomputable def DE(s:AK)(i t:Nat):Si:=
 if J0 s i t=true then{s.S i with EB:=DQ (s.S i).EB}
 else if 0<=(s.T t).shape/\0<=BO s.F (s.T t).shape.toNat (s.S i).key then⟨(s.S i).key,(s.T t).shape,BO s.F (s.T t).shape.toNat (s.S i).key,(s.S i).EB,DQ (s.S i).AU⟩
 else{s.S i with AU:=DQ (s.S i).AU}
noncomputable def Bj(s:AK)(i t:Nat):Int:=
 if J0 s i t=true then(s.S i).place else if 0<=(s.T t).shape then BO s.F (s.T t).shape.toNat (s.S i).key else -1
noncomputable def AV(s:AK)(i t:Nat):AK:={s with S:=AY s.S i (DE s i t)}
def Kq:Tb:=⟨0,0,fun _=>default,aB⟩
noncomputable def Uu(s:AK)(t:Nat):Pl:=⟨aD s (s.T t),iJ s (s.T t),0⟩
noncomputable def Dg(s:AK)(a:Ac):AK:=
 if a.op=1 then(if s.nt=100 then s else{s with nt:=s.nt+1,T:=AY s.T s.nt Kq})
 else if a.op=7 then(if s.ns=50 then s else{s with ns:=s.ns+1,S:=AY s.S s.ns ⟨a.k.str,-1,0,0,0⟩})
 else if a.op=2 then CC s a.t.toNat (DY a.k) a.v
 else if a.op=8 then AV s a.site.toNat a.t.toNat
 else if a.op=9 then
  (if 0<=Bj s a.site.toNat a.t.toNat/\a.v.kind≠0 then BW (AV s a.site.toNat a.t.toNat) a.t.toNat (Eh (s.T a.t.toNat) (Bj s a.site.toNat a.t.toNat).toNat a.v)
   else CC (AV s a.site.toNat a.t.toNat) a.t.toNat (BA (s.S a.site.toNat).key) a.v)
 else s
noncomputable def F5(s:AK)(a:Ac):An:=
 if a.op=1 then(if s.nt=100 then Bc 5 else DJ s.nt)
 else if a.op=7 then(if s.ns=50 then Bc 5 else DJ s.ns)
 else if a.op=2 then Bc (Cv s a.t.toNat (DY a.k) a.v)
 else if a.op=9 then
  (if 0<=Bj s a.site.toNat a.t.toNat/\a.v.kind≠0 then Bc 0
   else Bc (Cv (AV s a.site.toNat a.t.toNat) a.t.toNat (BA (s.S a.site.toNat).key) a.v))
 else if a.op=3 then E4 (Cm s.F (s.T a.t.toNat) (DY a.k))
 else if a.op=8 then E4 (if 0<=Bj s a.site.toNat a.t.toNat then(s.T a.t.toNat).V (Bj s a.site.toNat a.t.toNat).toNat else Cm s.F (s.T a.t.toNat) (BA (s.S a.site.toNat).key))
 else(Uu s a.t.toNat).ask a
noncomputable def BU(s:AK)(a:Ac):AK:=if GD a s.nt s.ns=0 then Dg s a else s
noncomputable def Dl(s:AK)(a:Ac):An:=if GD a s.nt s.ns=0 then F5 s a else Bc (GD a s.nt s.ns)
structure VO (M:Nat) (s:AK) (t:Tb):Prop where
 way:(t.shape=-1/\t.nv=0/\Inv Ky hN t.d)\/∃j:Nat,t.shape=j/\j<s.nf/\t.nv=nf s.F j/\bare t.d/\∀i,i<t.nv->OV (t.V i)=true/\Wf (t.V i)
 wf:VQ t.d
 m:t.d.m<=M
abbrev Oi(s:AK)(t:Tb):Prop:=VO 4000000 s t
structure KI (M:Nat) (s:AK):Prop where
 f:Ax s.nf s.F=0
 nt:s.nt<=100
 ns:s.ns<=50
 t:∀i,i<s.nt->VO M s (s.T i)
 si:∀i,i<s.ns->gP s (s.S i)
abbrev KH(s:AK):Prop:=KI 4000000 s
theorem VO.mono{M:Nat}{s:AK}(h:VO M s t)(b:M<=a):VO a s t:=⟨h.way,h.wf,GO h.m b⟩
theorem KI.mono{M:Nat}{s:AK}(h:KI M s)(b:M<=a):KI a s:=⟨h.f,h.nt,h.ns,fun i hi=>(h.t i hi).mono b,h.si⟩
theorem Oi.small{s:AK}(h:Oi s t):Small t.d:=by
 have b:=h.m;rcases h.way with⟨_,_,a⟩|⟨j,_,_,_,hb,_⟩
 ·exact a.small oa
 ·obtain⟨b1,b2,b3,_⟩:=hb;exact⟨oa,oa,oa⟩
theorem Gq(h:Ax n f=0){j:Nat}(hj:j<n):nf f j<=12:=by
 obtain⟨h1,h2,h3,h4,h5⟩:=AB h;have:=(Ba (k:=n) h2 (fun j a b=>h3 j a b) j hj).2;unfold nf;omega
theorem Oi.nv{s:AK}(h:Oi s t)(hf:Ax s.nf s.F=0):t.nv<=12:=by
 rcases h.way with⟨_,h1,_⟩|⟨j,_,h1,h2,_,_⟩
 ·omega
 ·have:=Gq hf h1;omega
theorem GU(h:Ax n f=0){j:Nat}(hj:j<n)(key:ByteArray):BO f j key=-1\/∃i:Nat,BO f j key=i/\i<nf f j:=by
 obtain⟨h1,h2,h3,h4,h5⟩:=AB h;by_cases hn:∀i,i<nf f j->(Dr f j i).toList≠key.toList
 ·exact .inl (SJ h2 h3 hj key hn)
 ·obtain⟨i,hi⟩:=Classical.not_forall.1 hn;obtain⟨a,b⟩:=Classical.not_imp.1 hi;exact .inr ⟨i,Ze h2 h3 h5 hj key a (Classical.not_not.1 b),a⟩
theorem FW(h:Inv Ky hN d):C6 d (hD d)=0:=(h.sound Ca).zero
theorem Wz{k:Vl}(hk:Ky k):J3 k.kind k.num k.Ag k.str k.ref=KV 0 k.kind k.num k.Ag k.str k.ref:=by
 have h:=hk.1;unfold Df Vl.ok at h;unfold J3;by_cases h3:k.kind=3
 ·simp[h3]at h ⊢;simp[h]
 ·simp[h3]at h ⊢;simp[h]
theorem F8{s:ByteArray}(h:s.size<=4000):Ky (BA s):=by
 refine⟨?_,⟨by show 0<_;omega,by show s.size<=_;unfold maxLen;omega⟩⟩;unfold Df;rw[cZ h];rfl
section
open Go.Maps (Keyed)
theorem YI{B Z:Nat->Nat}(h:Cn w f b0 n B Z M)(hid:∀i,i<n->Z i=i)(h1:D8 n)(h2:BD f)(h3:BK n f){k:Nat}(hk:k<n){key:ByteArray}(p:key.size<=4000):
  ∃v,(∀q,(Instr.lookup 206 (.map (M k)) (Sh k key ((f k).count+1)) false).run prog (w.drewN q)=.ok v (w.drewN q))/\((∃j,Oh n f k key j/\v=Q9 (B j))\/(v=.pointer none/\∀j,¬Oh n f k key j)):=by
 have r:=Ba (k:=n) h2 (fun j a b=>h3 j a b) k hk;have t:=h1.2;have w1:(Lit.int .i64 (k:Int)).wf=true:=dM oa oa;have w3:(Lit.int .i64 ((f k).count+1)).wf=true:=dM oa oa;have w2:key.size<=maxLen:=by unfold maxLen;omega
 cases l:M k with
 |none=>
  refine⟨.pointer none,Pz (s:=⟨k,key,(f k).count+1⟩) w1 w2 w3,.inr ⟨rfl,fun j hK=>?_⟩⟩;refine h.bare k hk (hid k hk) l j hK.1 hK.2.1 (hid j hK.2.1) ?_;have c:Az f j=k:=by unfold Az;rw[hK.2.2.1];rfl
  rw[c];exact hid k hk
 |some m=>
  obtain⟨g,u,hK⟩:=h.kids k m hk (hid k hk) l;refine⟨g (Jl ⟨k,key,(f k).count+1⟩),Nt u (s:=⟨k,key,(f k).count+1⟩) w1 w2 w3,?_⟩;rcases hK (Jl ⟨k,key,(f k).count+1⟩)with⟨j,x,A,_,_,o,d⟩|⟨d,e⟩
  ·refine .inl ⟨j,⟨x,A,?_,?_⟩,d⟩
   ·have:=Qa o;rw[<-this]
   ·have:=Qa o;rw[<-this]
  ·refine .inr ⟨d,fun j hK=>e j hK.1 hK.2.1 (hid j hK.2.1) ?_ ?_⟩
   ·have c:Az f j=k:=by unfold Az;rw[hK.2.2.1];rfl
    rw[c];exact hid k hk
   ·have C:(f j).key=key:=WideShapes.bytes_inj (by rw[<-AaT,<-AaT];exact hK.2.2.2);have D:(f j).count=(f k).count+1:=by rw[(h3 j hK.1 hK.2.1).2.2.1,hK.2.2.1];rfl
    show Sh (f j).parent (f j).key (f j).count=_;rw[C,D,hK.2.2.1]
theorem Nodes.congr{P:Program}{K d:TypeId}{B Z:Nat->Nat}(h:Nodes P K d w f b0 k B Z M)(e:∀i,i<k->f' i=f i):Nodes P K d w f' b0 k B Z M where
 pos:=h.pos
 n0:=h.n0
 le:=h.le
 own:=h.own
 same:=fun i hi=>by rw[e i hi,e _ (Aao (h.le i hi) hi)];exact h.same i hi
 one:=fun i j hi hj e2=>h.one i j hi hj (by rw[<-e i hi,<-e j hj];exact e2)
 BB:=h.BB
 base:=h.base
 node:=fun i hi hn=>by
  have a:=h.node i hi hn;have l:CO f' B i=CO f B i:=by unfold CO Az;rw[e i hi]
  rw[e i hi,l];exact a
 apart:=h.apart
 mbase:=h.mbase
 K0:=h.K0
 bare:=fun i hi hn b j a hj c=>by
  have h1:=h.bare i hi hn b j a hj c;unfold Az at*;rw[e j hj];exact h1
 kids:=fun i m hi hn b=>by
  obtain⟨g,n,hK⟩:=h.kids i m hi hn b;refine⟨g,n,fun v=>?_⟩;rcases hK v with⟨j,a1,a2,a3,a4,a5,o⟩|⟨a1,a2⟩
  ·exact .inl ⟨j,a1,a2,a3,by unfold Az at*;rw[e j a2];exact a4,by rw[e j a2];exact a5,o⟩
  ·exact .inr ⟨a1,fun j b1 b2 b3 b4=>by rw[e j b2];exact a2 j b1 b2 b3 (by unfold Az at*;rw[<-e j b2];exact b4)⟩
def eU(n:Nat)(f:Nat->A3)(k:Nat)(key:ByteArray)(b0:Nat)(B:Nat->Nat)(w:Y)(e:Ending)(w':Y):Prop:=
 (∃j,Oh n f k key j/\e=.returned (Q9 (B j))/\B9 w w')\/
 ((∀j,¬Oh n f k key j)/\((f k).count=12\/n=200)/\e=.returned (.pointer none)/\B9 w w')\/
 ((∀j,¬Oh n f k key j)/\(f k).count≠12/\n≠200/\∃r B' a b,e=.returned (Q9 r)/\Cn w' (grown f n k key) b0 (n+1) B' a b/\(∀i,i<n+1->a i=i)/\B' n=r/\(∀i,i<n->B' i=B i)/\P4 b0 w w')
theorem Grown.after{w2:Y}(h:B9 w w1)(h2:Grown a b0 w1 w2):Grown a b0 w w2:=
 ⟨h2.os.trans h.os,h2.tape.trans h.tape,h2.output.trans h.output,GO h.size h2.size,fun b hb hc=>(h2.block b (At hb h.size) (by
  rcases hc with hc|hc
  ·exact .inl hc
  ·refine .inr (fun hN=>hc ?_);unfold D7 at*;rw[h.block b hb]at hN;exact hN)).trans (h.block b hb)⟩
theorem RX(h1:D8 n)(h2:BD f)(h3:BK n f)(hk:k<n)(d:key.size<=4000)(h:(f k).count≠12):
  BD (grown f n k key)/\(∀i,1<=i->i<=n->Z4 (grown f n k key) i)/\(∀i,i<n->grown f n k key i=f i)/\grown f n k key n=⟨k,key,(f k).count+1⟩:=by
 have l:=Ba (k:=n) h2 (fun j a b=>h3 j a b) k hk;have e:∀i,i<n->grown f n k key i=f i:=fun i hi=>by unfold grown;rw[C3 oa]
 have en:grown f n k key n=⟨k,key,(f k).count+1⟩:=by unfold grown;rw[DD rfl]
 have g:0<n:=oa;refine⟨by unfold BD;rw[e 0 g];exact h2,fun i a b=>?_,e,en⟩;by_cases hi:i=n
 ·subst hi;unfold Z4;rw[en];refine⟨od,by simpa using hk,?_,by show(f k).count+1<=12;omega,d⟩;show(f k).count+1=(grown f i k key ((k:Int)).toNat).count+1;rw[show((k:Int)).toNat=k from by simp,e k hk]
 ·have c:i<n:=oa;obtain⟨a1,a2,a3,a4,a5⟩:=h3 i a c;unfold Z4;rw[e i c,e _ oa];exact⟨a1,a2,a3,a4,a5⟩
theorem WS{B Z:Nat->Nat}(h:Cn w (grown f n k key) b0 (n+1) B Z M)(e:∀i,i<n->grown f n k key i=f i)(en:grown f n k key n=⟨k,key,(f k).count+1⟩)(h2:BD f)(h4:Gi n f)(h3:BK n f)(c:∀j,¬Oh n f k key j):∀i,i<n+1->Z i=i:=by
 intro i hi;have d:=h.le i hi;rcases Nat.lt_or_eq_of_le d with g|heq
 ·exfalso;have hs:=h.same i hi;have a:Z i<n:=oa;rw[e _ a]at hs;have l:0<Z i:=by
   rcases W0 (Z i)with X|X
   ·exfalso;rw[X]at hs;have b:=h2.1;rw[hs]at b;by_cases OE:i=n
    ·rw[OE,en]at b;have b:(k:Int)=-1:=b;omega
    ·rw[e i oa]at b;have:=(h3 i oa oa).1;omega
   ·exact X
  by_cases OE:i=n
  ·rw[OE,en]at hs;subst OE;exact c (Z i) ⟨l,a,by rw[hs],by rw[hs]⟩
  ·rw[e i oa]at hs;exact h4 i (Z i) l g oa ⟨by rw[hs],by rw[hs]⟩
 ·exact heq
theorem QU(w:Y)(f:Nat->A3)(b0 n:Nat)(B Z:Nat->Nat)(M:Nat->Option Nat)(h:Cn w f b0 n B Z M)(hid:∀i,i<n->Z i=i)(h1:D8 n)(h2:BD f)(h3:BK n f)(h4:Gi n f)(k:Nat)(hk:k<n)(key:ByteArray)(H:key.size<=4000):
  C9 277 #[Q9 (B k),.string key,J n] w fun e w'=>eU n f k key b0 B w e w':=by
 have u:n<=200:=h1.2;obtain⟨ad,ae⟩:=Ba (k:=n) h2 (fun j a b=>h3 j a b) k hk;obtain⟨n0,_,n3,_,V⟩:=Du h hid hk;have R:B k<w.heap.size:=h.lt hk;have hw:IntKind.i64.wrap ((f k).count+1)=(f k).count+1:=by rw[Hi];omega
 obtain⟨W,x⟩:∃W,W=(w.alloc (.cells #[J (k:Int),.string key,J ((f k).count+1)] 205)).drew:=⟨_,rfl⟩;have g:B9 w W:=by rw[x];exact(n9).drew
 have af:W.heap.size=w.heap.size+1:=by rw[x];simp
 obtain⟨S0,S1,S2⟩:W.cell? (y w 0)=some (J (k:Int))/\W.cell? (y w 1)=some (.string key)/\W.cell? (y w 2)=some (J ((f k).count+1)):=by rw[x];simp[go_sem]
 have m5:=ol g (by exact R) V;have A:=h.below g;obtain⟨v,ag,hv⟩:=YI A hid h1 h2 h3 hk (key:=key) H;have S:=O A;have F:=O (And.intro h1 (And.intro h2 (And.intro h3 h4)));have Q:=O g;clear h h1 h2 h3 h4 g A
 go_enter func277,ntmps277
 go_wp2
 go_region
 rw[<-x];clear x n0 n3 V;rcases hv with⟨j,o,rfl⟩|⟨rfl,I⟩
 ·have HK:=O o;clear o;go_wp2
  go_quiet (fail)
  go_wp2;go_ret;exact .inl ⟨j,HK,rfl,below_drewN Q _⟩
 ·have l:=O I;clear I;by_cases C:12<(f k).count+1
  ·have K:decide (12<(f k).count+1)=true:=by simp[C]
   have m:Hid ((f k).count=12):=O oa;clear C;go_wp2
   go_quiet (fail)
   go_wp2;go_ret;exact .inr (.inl ⟨l,.inl m,rfl,below_drewN Q _⟩)
  have K:decide (12<(f k).count+1)=false:=oe;have m:Hid ((f k).count≠12):=O oa;clear C;by_cases s:200<=n
  ·have D:decide ((200:Int)<=n)=true:=oe;have c:Hid (n=200):=O oa;clear s;go_wp2
   go_quiet (fail)
   go_wp2;go_ret;exact .inr (.inl ⟨l,.inr c,rfl,below_drewN Q _⟩)
  have D:decide ((200:Int)<=n)=false:=oe;have c:Hid (n≠200):=O oa;clear s;obtain⟨r2,X,e,en⟩:=RX F.1 F.2.1 F.2.2.1 hk H m;have d:∀q,C9 223 #[Q9 (B k),Sh k key ((f k).count+1),J n] (W.drewN q) fun e w'=>∃r B' T U,e=.returned (Q9 r)/\Cn w' (grown f n k key) b0 (n+1) B' T U/\B' n=r/\(∀i,i<n->B' i=B i)/\P4 b0 (W.drewN q) w':=by
   intro q;have h0:=Ng (W.drewN q) (grown f n k key) b0 n B Z M ((S.congr e).keep (fun b _=>rfl)) u r2 X;rw[show Az (grown f n k key) n=k from by unfold Az;rw[en];simp,en]at h0;exact h0
  have HC:=O d;have HE:=O (And.intro e en);clear d r2 X e en;go_wp2
  go_quiet (fail)
  go_wp2_with (fail)
  refine(HC _).mono ?_;rintro e w3 ⟨r,B',T,U,rfl,E,L,P,hG⟩;have t:=WS E HE.1 HE.2 F.2.1 F.2.2.2 F.2.2.1 l;have HF:=O (And.intro E (And.intro t (And.intro L (And.intro P hG))));clear E t L P hG;go_wp2;go_ret;obtain⟨a1,a2,a3,a4,a5⟩:=z HF;exact .inr (.inr ⟨l,m,c,r,B',T,U,rfl,a1,a2,a3,a4,Grown.after Q ⟨a5.os,a5.tape,a5.output,a5.size,a5.block⟩⟩)
end
def JF(f:Nat->List Value):Nat->List Value
 |0=>[]
 |n+1=>JF f n++f n
theorem Ch{f:Nat->List Value}(hf:∀i,(f i).length=m):∀n,(JF f n).length=n*m
 |0=>by simp[JF]
 |n+1=>by rw[JF,ON,Ch hf n,hf,Nat.succ_mul]
theorem GZ{f:Nat->List Value}(hf:∀i,(f i).length=m):∀{n i j:Nat},i<n->j<m->(JF f n)[i*m+j]?=(f i)[j]?
 |0,i,j,hi,_=>oa
 |n+1,i,j,hi,hj=>by
  rw[JF];rcases Nat.lt_or_eq_of_le (Nat.le_of_lt_succ hi)with h|h
  ·rw[Aaf (by rw[Ch hf];calc i*m+j<i*m+m:=oa
     _=(i+1)*m:=(Nat.succ_mul i m).symm
     _<=n*m:=VC m h)]
   exact GZ hf h hj
  ·subst h;rw[Aaj (by rw[Ch hf];omega),Ch hf]
   congr 1
   omega
theorem CW{f g:Nat->List Value}:∀{n:Nat},(∀i,i<n->f i=g i)->JF f n=JF g n
 |0,_=>rfl
 |n+1,h=>by rw[JF,JF,CW (fun i hi=>h i oa),h n oa]
theorem G0{f:Nat->List Value}(hf:∀i,(f i).length=m){u:V9}:∀{n i j:Nat},i<n->j<m->(JF f n).set (i*m+j) u=JF (AY f i ((f i).set j u)) n
 |0,i,j,hi,_=>oa
 |n+1,i,j,hi,hj=>by
  rw[JF,JF];rcases Nat.lt_or_eq_of_le (Nat.le_of_lt_succ hi)with h|h
  ·rw[List.set_append_left _ _ (by rw[Ch hf];calc i*m+j<i*m+m:=oa
     _=(i+1)*m:=(Nat.succ_mul i m).symm
     _<=n*m:=VC m h),G0 hf h hj,Al _ _ oa]
  ·subst h;rw[List.set_append_right _ _ (by rw[Ch hf];omega),Ch hf,show i*m+j-i*m=j by omega,Ak];rw[CW (f:=f) (g:=AY f i ((f i).set j u)) (fun q hq=>(Al _ _ oa).symm)]
def Ji(f:Nat->Si)(n:Nat):List Value:=JF (fun i=>IZ (f i)) n
theorem FN(f:Nat->Si)(n:Nat):(Ji f n).length=n*5:=Ch (m:=5) (f:=fun i=>IZ (f i)) (fun _=>rfl) n
theorem Mt{f:Nat->Si}(hi:i<n)(hj:j<5):(Ji f n)[i*5+j]?=(IZ (f i))[j]?:=GZ (m:=5) (fun _=>rfl) hi hj
theorem Xk{f g:Nat->Si}(h:∀i,i<n->f i=g i):Ji f n=Ji g n:=CW (fun i hi=>by rw[h i hi])
theorem S3(f:Nat->Si)(n:Nat)(x:Si):Ji f n++IZ x=Ji (AY f n x) (n+1):=by
 unfold Ji;rw[JF,Ak,CW (f:=fun i=>IZ (f i)) (g:=fun i=>IZ (AY f n x i)) (fun i hi=>by rw[Al _ _ oa])]
theorem VF{f:Nat->Si}(hi:i<n)(hj:j<5){u:V9}{x:Si}(hx:IZ x=(IZ (f i)).set j u):(Ji f n).set (i*5+j) u=Ji (AY f i x) n:=by
 unfold Ji;rw[G0 (m:=5) (fun _=>rfl) hi hj];refine CW (fun q hq=>?_);by_cases e:q=i
 ·subst e;rw[Ak,Ak];exact hx.symm
 ·rw[Al _ _ e,Al _ _ e]
abbrev Lq(w:Y)(B:Nat)(v:V9)(n:Nat)(f:Nat->Si):Prop:=w.ownsRow B 103 5 v n (Ji f n)
abbrev Rm(w:Y)(B:Nat)(v:V9)(n:Nat)(Bk:Nat->Nat):Prop:=w.ownsRow B 163 1 v n (ptrs Bk n)
abbrev Ro(w:Y)(B:Nat)(v:V9)(n:Nat)(Bk:Nat->Nat)(A:Nat->Ad)(s:AK):Prop:=w.ownsRow B 162 1 v n (kL Bk A s n)
def Au(B0 c:Nat)(vN vT vS:V9)(w:Y)(k:Nat):Prop:=k=c\/vN.ownBlock=some k\/vT.ownBlock=some k\/vS.ownBlock=some k\/(B0<=k/\D7 208 w k)
def OZ(Z:Nat->Prop)(B0 c:Nat)(vN vT vS:V9)(w:Y)(k:Nat):Prop:=Au B0 c vN vT vS w k\/Z k
def Rd(Z:Nat->Prop)(w:Y)(A:Ad)(t:Tb):Prop:=
 ∀w',w.heap.size<=w'.heap.size->(∀k,k<w.heap.size->¬Z k->w'.heap[k]?=w.heap[k]?)->I4 w' A.va t.nv t.V/\G8 w' A.la A.ia A.xa t.d
theorem Rd.now{Z:Nat->Prop}(h:Rd Z w A t):I4 w A.va t.nv t.V/\G8 w A.la A.ia A.xa t.d:=h w (Be _) (fun _ _ _=>rfl)
theorem Rd.step{Z:Nat->Prop}(h:Rd Z w A t)(a:Br Z w O' w'):Rd O' w' A t:=fun b hs hk=>
 h b (GO a.size hs) (fun k h1 h2=>(hk k (At h1 a.size) (fun e=>(a.own k e).elim h2 (fun e'=>absurd h1 oa))).trans (a.block k h1 h2))
structure AZ (Z:Nat->Prop) (w:Y) (c B0:Nat) (vN vT vS vU:V9) (Bk:Nat->Nat) (A:Nat->Ad) (s:AK):Prop where
 BB:w.heap[c]?=some (.cells #[vN,vT,vS,vU] 198 (0,0))
 ge:B0<=c
 n:Rm w B0 vN s.nf Bk
 nd:∃N M,Cn w s.F B0 s.nf Bk N M/\∀i,i<s.nf->N i=i
 t:Ro w B0 vT s.nt Bk A s
 si:Lq w B0 vS s.ns s.S
 u:∃ua un uc,vU=.slice ua un uc
 z:∀k,Z k->k<w.heap.size
 rd:∀i,i<s.nt->Rd (OZ Z B0 c vN vT vS w) w (A i) (s.T i)
section
variable {Z:Nat->Prop} {w w':Y} {c B0:Nat} {vN vT vS vU:V9} {Bk:Nat->Nat} {A:Nat->Ad} {s:AK}
theorem AZ.lt(h:AZ Z w c B0 vN vT vS vU Bk A s):c<w.heap.size:=Ah h.BB
theorem AZ.cells(h:AZ Z w c B0 vN vT vS vU Bk A s):w.cell? (G c 0)=some vN/\w.cell? (G c 1)=some vT/\w.cell? (G c 2)=some vS/\w.cell? (G c 3)=some vU/\∀q,w.frozen? (G c q)=false:=
 ⟨by simp[World.cell?,h.BB],by simp[World.cell?,h.BB],by simp[World.cell?,h.BB],by simp[World.cell?,h.BB],fun q=>by simp[World.frozen?,h.BB]⟩
theorem BV{e' b' Z:Nat}{xs':List Value}(h:w.ownsRow b e Z v n xs)(h':w.ownsRow b' e' j v' n' xs')(k:e≠e'){q:Nat}(hq:v.ownBlock=some q):v'.ownBlock≠some q:=by
 intro a;obtain⟨_,⟨d,_⟩|⟨g,cap,cur,d,_,hb,_⟩⟩:=h
 ·rw[d]at hq;cases hq
 ·obtain⟨_,⟨hv',_⟩|⟨g',f,i,hv',_,c,_⟩⟩:=h'
  ·rw[hv']at a;cases a
  ·rw[d]at hq;rw[hv']at a;cases hq;cases a;rw[hb]at c;cases c;exact k rfl
theorem AJ{Z:Nat}(h:w.ownsRow b e Z v n xs){q:Nat}(hq:v.ownBlock=some q):∃cur,w.heap[q]?=some (.cells cur e (0,0))/\b<=q:=by
 obtain⟨_,⟨a,_⟩|⟨g,cap,cur,a,hb,c,_⟩⟩:=h
 ·rw[a]at hq;cases hq
 ·rw[a]at hq;cases hq;exact⟨cur,c,hb⟩
theorem DB{Z:Nat}(h:w.ownsRow b e Z v n xs)(a:e≠208){q:Nat}(hq:v.ownBlock=some q):¬D7 208 w q:=by
 obtain⟨cur,hb,_⟩:=AJ h hq;rintro(⟨c,hc⟩|⟨es,c,hc⟩)
 ·rw[hb]at hc;cases hc;exact a rfl
 ·rw[hb]at hc;cases hc
theorem AZ.A9(h:AZ Z w c B0 vN vT vS vU Bk A s){e b X n:Nat}{v:V9}{xs:List Value}(h':w.ownsRow b e X v n xs)(a:e≠198):v.ownBlock≠some c:=by
 intro hq;obtain⟨cur,hb,_⟩:=AJ h' hq;rw[h.BB]at hb;cases hb;exact a rfl
theorem AZ.FZ(h:AZ Z w c B0 vN vT vS vU Bk A s):¬D7 208 w c:=by
 rintro(⟨x,hc⟩|⟨es,x,hc⟩)
 ·rw[h.BB]at hc;cases hc
 ·rw[h.BB]at hc;cases hc
theorem AZ.Ol(h:AZ Z w c B0 vN vT vS vU Bk A s){k:Nat}(hk:Au B0 c vN vT vS w k):B0<=k/\k<w.heap.size:=by
 rcases hk with rfl|e|e|e|⟨e1,e2⟩
 ·exact⟨h.ge,h.lt⟩
 ·exact h.n.lt k e
 ·exact h.t.lt k e
 ·exact h.si.lt k e
 ·refine⟨e1,?_⟩;rcases e2 with⟨x,hx⟩|⟨es,x,hx⟩
  ·exact(GC.1 hx).1
  ·exact(GC.1 hx).1
theorem AZ.next(h:AZ Z w c B0 vN vT vS vU Bk A s){a b d f:V9}{Bk':Nat->Nat}{A':Nat->Ad}{s':AK}
  (g:w'.os=w.os/\w'.tape=w.tape/\w'.output=w.output) (hz:w.heap.size<=w'.heap.size) (hb:∀k,k<w.heap.size->¬Au B0 c vN vT vS w k->w'.heap[k]?=w.heap[k]?)
  (q:∀k,a.ownBlock=some k->vN.ownBlock=some k\/w.heap.size<=k) (t:∀k,b.ownBlock=some k->vT.ownBlock=some k\/w.heap.size<=k) (u:∀k,d.ownBlock=some k->vS.ownBlock=some k\/w.heap.size<=k)
  (hc:w'.heap[c]?=some (.cells #[a,b,d,f] 198 (0,0))) (n':Rm w' B0 a s'.nf Bk') (l:∃X M,Cn w' s'.F B0 s'.nf Bk' X M/\∀i,i<s'.nf->X i=i)
  (t':Ro w' B0 b s'.nt Bk' A' s') (m:Lq w' B0 d s'.ns s'.S) (u':∃ua un uc,f=.slice ua un uc)
  (n:∀i,i<s'.nt->Rd (OZ Z B0 c vN vT vS w) w (A' i) (s'.T i)\/Rd (OZ Z B0 c a b d w') w' (A' i) (s'.T i)):
  AZ Z w' c B0 a b d f Bk' A' s'/\Br (Au B0 c vN vT vS w) w (Au B0 c a b d w') w':=by
 have j:Br (Au B0 c vN vT vS w) w (Au B0 c a b d w') w':=by
  refine⟨g.1,g.2.1,g.2.2,hz,hb,fun k hk=>?_⟩;by_cases o:k<w.heap.size
  ·by_cases DI:Au B0 c vN vT vS w k
   ·exact .inl DI
   ·rcases hk with e|e|e|e|⟨e1,e2⟩
    ·exact .inl (.inl e)
    ·exact(q k e).elim (fun e=>.inl (.inr (.inl e))) .inr
    ·exact(t k e).elim (fun e=>.inl (.inr (.inr (.inl e)))) .inr
    ·exact(u k e).elim (fun e=>.inl (.inr (.inr (.inr (.inl e))))) .inr
    ·refine .inl (.inr (.inr (.inr (.inr ⟨e1,?_⟩))));unfold D7 at*;rw[hb k o DI]at e2;exact e2
  ·exact .inr oa
 have p:Br (OZ Z B0 c vN vT vS w) w (OZ Z B0 c a b d w') w':=⟨j.os,j.tape,j.output,j.size,fun k h1 h2=>j.block k h1 (fun e=>h2 (.inl e)),fun k e=>e.elim (fun e=>(j.own k e).imp .inl id) (fun e=>.inl (.inr e))⟩;exact⟨⟨hc,h.ge,n',l,t',m,u',fun k e=>At (h.z k e) hz,fun i hi=>(n i hi).elim (fun r=>r.step p) (fun r=>r)⟩,j⟩
theorem Ib(h:D7 a w k):k<w.heap.size:=by
 rcases h with⟨x,hx⟩|⟨es,x,hx⟩
 ·exact(GC.1 hx).1
 ·exact(GC.1 hx).1
theorem AZ.below(h:AZ Z w c B0 vN vT vS vU Bk A s)(hb:B9 w w'):AZ Z w' c B0 vN vT vS vU Bk A s/\Br (Au B0 c vN vT vS w) w (Au B0 c vN vT vS w') w':=by
 obtain⟨X,M,hN,hid⟩:=h.nd;exact h.next ⟨hb.os,hb.tape,hb.output⟩ hb.size (fun k hk _=>hb.block k hk) (fun _ e=>.inl e) (fun _ e=>.inl e) (fun _ e=>.inl e) ((hb.block c h.lt).trans h.BB) (Uq h.n hb) ⟨X,M,hN.keep (fun b hn=>hb.block b (Ib hn)),hid⟩ (Uq h.t hb) (Uq h.si hb) h.u (fun i hi=>.inl (h.rd i hi))
theorem Rd.mono{Z:Nat->Prop}{A:Ad}(h:Rd Z w A t)(a:∀k,O' k->Z k):Rd O' w A t:=fun w' hs hk=>h w' hs (fun k h1 h2=>hk k h1 (fun e=>h2 (a k e)))
def ZB(Z:Nat->Prop)(a b k:Nat):Prop:=Z k\/(a<=k/\k<b)
theorem AZ.enter(h:AZ Z w c B0 vN vT vS vU Bk A s)(hb:B9 w w'):AZ (ZB Z w.heap.size w'.heap.size) w' c B0 vN vT vS vU Bk A s/\Br (Au B0 c vN vT vS w) w (Au B0 c vN vT vS w') w':=by
 obtain⟨h1,b⟩:=h.below hb;refine⟨⟨h1.BB,h1.ge,h1.n,h1.nd,h1.t,h1.si,h1.u,fun k e=>e.elim (fun e=>h1.z k e) (fun e=>e.2),fun i hi a hs hk=>?_⟩,b⟩;refine h.rd i hi a (GO hb.size hs) (fun k k1 k2=>(hk k (At k1 hb.size) (fun e=>?_)).trans (hb.block k k1));rcases e with e|e|e
 ·exact(b.own k e).elim (fun e=>k2 (.inl e)) (fun e=>oa)
 ·exact k2 (.inr e)
 ·omega
theorem AZ.leave{a:Nat->Prop}(h:AZ Z w c B0 vN vT vS vU Bk A s)(hz:∀k,a k->Z k):AZ a w c B0 vN vT vS vU Bk A s:=
 ⟨h.BB,h.ge,h.n,h.nd,h.t,h.si,h.u,fun k e=>h.z k (hz k e),fun i hi=>(h.rd i hi).mono (fun k e=>e.imp id (hz k))⟩
theorem AZ.box(h:AZ Z w c B0 vN vT vS vU Bk A s){b:Nat}{cs:Array Value}{ty:TypeId}(hb:Z b)(l:B0<=b)(hn:¬Au B0 c vN vT vS w b)(a:w'.os=w.os/\w'.tape=w.tape/\w'.output=w.output/\w'.heap.size=w.heap.size)(hk:∀k,k≠b->w'.heap[k]?=w.heap[k]?)(hc:w'.heap[b]?=some (.cells cs ty (0,0)))(r:ty≠208):
  AZ Z w' c B0 vN vT vS vU Bk A s/\∀k,Au B0 c vN vT vS w' k->Au B0 c vN vT vS w k:=by
 have q:∀k,Au B0 c vN vT vS w' k->Au B0 c vN vT vS w k:=fun k e=>by
  rcases e with e|e|e|e|⟨e1,e2⟩
  ·exact .inl e
  ·exact .inr (.inl e)
  ·exact .inr (.inr (.inl e))
  ·exact .inr (.inr (.inr (.inl e)))
  ·by_cases d:k=b
   ·subst d;rcases e2 with⟨x,hx⟩|⟨es,x,hx⟩
    ·rw[hc]at hx;cases hx;exact absurd rfl r
    ·rw[hc]at hx;cases hx
   ·refine .inr (.inr (.inr (.inr ⟨e1,?_⟩)));unfold D7 at*;rw[hk k d]at e2;exact e2
 have j:∀k,Au B0 c vN vT vS w k->w'.heap[k]?=w.heap[k]?:=fun k e=>hk k (fun e'=>hn (e'▸e));obtain⟨X,M,hN,hid⟩:=h.nd;refine⟨⟨(j c (.inl rfl)).trans h.BB,h.ge,Ae h.n (fun g e=>j g (.inr (.inl e))),⟨X,M,hN.keep (fun b' m=>?_),hid⟩,Ae h.t (fun g e=>j g (.inr (.inr (.inl e)))),Ae h.si (fun g e=>j g (.inr (.inr (.inr (.inl e))))),h.u,fun k e=>by rw[a.2.2.2];exact h.z k e,fun i hi o hs p=>?_⟩,q⟩
 ·by_cases f:b'=b
  ·subst f;exact absurd (.inr (.inr (.inr (.inr ⟨l,m⟩)))) hn
  ·exact hk b' f
 ·refine h.rd i hi o (by rw[<-a.2.2.2];exact hs) (fun k k1 k2=>(p k (by rw[a.2.2.2];exact k1) (fun e=>k2 (e.imp (q k) id))).trans (hk k (fun e=>k2 (.inr (e▸hb)))))
theorem AZ.fin{m:Nat->Prop}{a:Y}{d f g l:V9}(h:AZ m w' c B0 d f g l Bk' A' s')(j:Br (Au B0 c vN vT vS w) w (Au B0 c d f g w') w')(n:B0<=w.heap.size)
  {b:Nat} {cs:Array Value} {ty:TypeId} (hb:m b) (o:w.heap.size<=b) (hn:¬Au B0 c d f g w' b) (p:∀k,Z k->m k) (i:a.os=w'.os/\a.tape=w'.tape/\a.output=w'.output/\a.heap.size=w'.heap.size) (hk:∀k,k≠b->a.heap[k]?=w'.heap[k]?) (hc:a.heap[b]?=some (.cells cs ty (0,0))) (q:ty≠208):
  AZ Z a c B0 d f g l Bk' A' s'/\Br (Au B0 c vN vT vS w) w (Au B0 c d f g a) a:=by
 obtain⟨h1,r⟩:=h.box hb (GO n o) hn i hk hc q;exact⟨h1.leave p,⟨i.1.trans j.os,i.2.1.trans j.tape,i.2.2.1.trans j.output,by rw[i.2.2.2];exact j.size,fun k k1 k2=>(hk k oa).trans (j.block k k1 k2),fun k e=>j.own k (r k e)⟩⟩
theorem AZ.kO(h:AZ Z w c B0 vN vT vS vU Bk A s){ua:Option Addr}{un uc:Nat}:AZ Z (w.setCell (G c 3) (.slice ua un uc)) c B0 vN vT vS (.slice ua un uc) Bk A s/\Br (Au B0 c vN vT vS w) w (Au B0 c vN vT vS (w.setCell (G c 3) (.slice ua un uc))) (w.setCell (G c 3) (.slice ua un uc)):=by
 obtain⟨X,M,hN,hid⟩:=h.nd;have a:∀k,k≠c->(w.setCell (G c 3) (.slice ua un uc)).heap[k]?=w.heap[k]?:=fun k hk=>A0 _ _ _ _ (by exact hk);refine h.next ⟨rfl,rfl,rfl⟩ od (fun k _ hk=>a k (fun e=>hk (.inl e))) (fun _ e=>.inl e) (fun _ e=>.inl e) (fun _ e=>.inl e) ?_ (Ae h.n (fun g e=>a g (fun e'=>h.A9 h.n oc (e'▸e)))) ⟨X,M,hN.keep (fun b hn=>a b (fun e=>h.FZ (e▸hn))),hid⟩
  (Ae h.t (fun g e=>a g (fun e'=>h.A9 h.t oc (e'▸e)))) (Ae h.si (fun g e=>a g (fun e'=>h.A9 h.si oc (e'▸e)))) ⟨_,_,_,rfl⟩ (fun i hi=>.inl (h.rd i hi))
 exact(Is _ _ _ _ _ _ h.BB).trans od
theorem AZ.drew(h:AZ Z w c B0 vN vT vS vU Bk A s):AZ Z w.drew c B0 vN vT vS vU Bk A s:=(h.below (Cs _ _).drew).1
theorem Br.Rz{Z:Nat->Prop}(h:Br Z w (Au B0 c vN vT vS w') w'):Br Z w (Au B0 c vN vT vS w'.drew) w'.drew:=⟨h.os,h.tape,h.output,h.size,h.block,fun k e=>h.own k e⟩
end
theorem IL(Bk:Nat->Nat)(A:Nat->Ad)(s:AK)(n:Nat):(kL Bk A s n).length=n:=by simp[kL]
theorem Nh{A:Nat->Ad}{s:AK}(h:∀i,i<n->AG Bk (A i) (s.T i)=AG Bk' (A' i) (s'.T i)):kL Bk A s n=kL Bk' A' s' n:=by
 unfold kL;exact List.map_congr_left (fun i hi=>h i (List.mem_range.1 hi))
theorem gA{A:Nat->Ad}{s:AK}{t:Nat}(a:t<n)(a':Ad)(x':Tb):(kL Bk A s n).set t (AG Bk a' x')=kL Bk (AY A t a') (BW s t x') n:=by
 apply AaQ;intro q;rw[List.getElem?_set];by_cases hq:q<n
 ·by_cases e:t=q
  ·subst e;rw[DD rfl,DD (by rw[IL];exact hq),KW hq];show _=some (AG Bk (AY A t a' t) (AY s.T t x' t));rw[Ak,Ak]
  ·rw[C3 e,KW hq,KW hq];show _=some (AG Bk (AY A t a' q) (AY s.T t x' q));rw[Al _ _ (fun e'=>e e'.symm),Al _ _ (fun e'=>e e'.symm)]
 ·rw[NB (by rw[IL];omega),C3 oa,NB (by rw[IL];omega)]
section
variable {Z:Nat->Prop} {w w' X w3:Y} {c B0:Nat} {vN vT vS vU:V9} {Bk:Nat->Nat} {A:Nat->Ad} {s:AK}
theorem AZ.CP(h:AZ Z w c B0 vN vT vS vU Bk A s){t:Nat}(d:t<s.nt):∃g e,vT=.slice (some (G g 0)) s.nt e/\g<w.heap.size/\B0<=g/\w.cell? (G g t)=some (AG Bk (A t) (s.T t))/\∀q,w.frozen? (G g q)=false:=by
 obtain⟨hl,⟨b,f⟩|⟨g,cap,cur,b,hb,a,h1,h2,h3,h4⟩⟩:=h.t
 ·omega
 ·refine⟨g,cap,b,(GC.1 a).1,hb,?_,fun q=>by simp[World.frozen?,a]⟩;rw[IH (b▸h.t) t oa,KW d]
theorem AZ.FM(h:AZ Z w c B0 vN vT vS vU Bk A s){g l t:Nat}(f:vT=.slice (some (G g 0)) s.nt l)(m:t<s.nt){a':Ad}{x':Tb}(o:Rd (OZ Z B0 c vN vT vS w) w a' x'):
  AZ Z (w.setCell (G g t) (AG Bk a' x')) c B0 vN vT vS vU Bk (AY A t a') (BW s t x')/\Br (Au B0 c vN vT vS w) w (Au B0 c vN vT vS (w.setCell (G g t) (AG Bk a' x'))) (w.setCell (G g t) (AG Bk a' x')):=by
 obtain⟨X,M,hN,hid⟩:=h.nd;have a:vT.ownBlock=some g:=by rw[f];rfl
 have d:∀k,k≠g->(w.setCell (G g t) (AG Bk a' x')).heap[k]?=w.heap[k]?:=fun k hk=>A0 _ _ _ _ (by exact hk);have j:c≠g:=fun e=>h.A9 h.t oc (e▸a);refine h.next ⟨rfl,rfl,rfl⟩ od (fun k _ hk=>d k (fun e=>hk (.inr (.inr (.inl (e▸a)))))) (fun _ e=>.inl e) (fun _ e=>.inl e) (fun _ e=>.inl e) ((d c j).trans h.BB) (Ae h.n (fun q e=>d q (fun e'=>BV h.t h.n oc a (e'▸e)))) ⟨X,M,hN.keep (fun b hn=>d b (fun e=>DB h.t oc a (e▸hn))),hid⟩ ?_
  (Ae h.si (fun q e=>d q (fun e'=>BV h.t h.si oc a (e'▸e)))) h.u (fun i hi=>?_)
 ·have h1:=(X9 (f▸h.t:w.ownsRow B0 162 1 (.slice (some (G g 0)) s.nt l) s.nt (kL Bk A s s.nt)) t (AG Bk a' x')).1;rw[gA m]at h1;rw[<-f]at h1;exact h1
 ·show Rd _ _ (AY A t a' i) (AY s.T t x' i)\/_;by_cases e:i=t
  ·subst e;rw[Ak,Ak];exact .inl o
  ·rw[Al _ _ e,Al _ _ e];exact .inl (h.rd i hi)
theorem AZ.more(h:AZ Z w c B0 vN vT vS vU Bk A s)(d:B9 w X){row:Option Nat}(b:X.grownBy w3 row)(f:∀k,row=some k->k≠c):w3.heap[c]?=some (.cells #[vN,vT,vS,vU] 198 (0,0))/\∀q,q<w.heap.size->row≠some q->w3.heap[q]?=w.heap[q]?:=by
 have a:∀q,q<w.heap.size->row≠some q->w3.heap[q]?=w.heap[q]?:=fun q hq h1=>(b.block q (At hq d.size) (fun e=>h1 e.symm)).trans (d.block q hq);exact⟨(a c h.lt (fun e=>f c e rfl)).trans h.BB,a⟩
theorem Rd.empty{Z:Nat->Prop}{a:Ad}(h1:t.nv=0)(h2:t.d.n=0)(h3:t.d.m=0)(h4:t.d.x=0):Rd Z w a t:=fun w' _ _=>⟨.inl h1,.inl h2,.inl h3,.inl h4⟩
theorem AZ.kH(h:AZ Z w c B0 vN vT vS vU Bk A s){g3 a:Nat}{a':Ad}{x':Tb}(j:B9 w X)(d:X.grownBy w3 vT.ownBlock)
  (l:w3.ownsRow B0 162 1 (.slice (some (G g3 0)) (s.nt+1) a) (s.nt+1) (kL Bk A s s.nt++[AG Bk a' x'])) (g:vT.ownBlock=some g3\/w.heap.size<=g3) (v:Rd (OZ Z B0 c vN vT vS w) w a' x'):
  w3.heap[c]?=some (.cells #[vN,vT,vS,vU] 198 (0,0))/\AZ Z (w3.setCell (G c 1) (.slice (some (G g3 0)) (s.nt+1) a)) c B0 vN (.slice (some (G g3 0)) (s.nt+1) a) vS vU Bk (AY A s.nt a') {s with nt:=s.nt+1,T:=AY s.T s.nt x'}/\Br (Au B0 c vN vT vS w) w (Au B0 c vN (.slice (some (G g3 0)) (s.nt+1) a) vS (w3.setCell (G c 1) (.slice (some (G g3 0)) (s.nt+1) a))) (w3.setCell (G c 1) (.slice (some (G g3 0)) (s.nt+1) a)):=by
 obtain⟨W,M,hN,hid⟩:=h.nd;obtain⟨m,f⟩:=h.more j d (fun k e e'=>h.A9 h.t oc (e'▸e));have o:∀k,k≠c->(w3.setCell (G c 1) (.slice (some (G g3 0)) (s.nt+1) a)).heap[k]?=w3.heap[k]?:=fun k hk=>A0 _ _ _ _ (by exact hk);have p:g3≠c:=fun e=>by
  rcases g with h1|h1
  ·exact h.A9 h.t oc (e▸h1)
  ·have:=h.lt;omega
 refine⟨m,h.next ⟨d.os.trans j.os,d.tape.trans j.tape,d.output.trans j.output⟩ (by have:=j.size;have:=d.size;simp;omega) (fun k r hk=>(o k (fun e=>hk (.inl e))).trans (f k r (fun e=>hk (.inr (.inr (.inl e)))))) (fun _ e=>.inl e) (fun k e=>by cases e;exact g) (fun _ e=>.inl e) ((Is _ _ _ _ _ _ m).trans od)
  (Ae h.n (fun q e=>(o q (fun e'=>h.A9 h.n oc (e'▸e))).trans (f q (h.n.lt q e).2 (BV h.n h.t oc e)))) ⟨W,M,hN.keep (fun b hn=>(o b (fun e=>h.FZ (e▸hn))).trans (f b (Ib hn) (fun e=>DB h.t oc e hn))),hid⟩ ?_
  (Ae h.si (fun q e=>(o q (fun e'=>h.A9 h.si oc (e'▸e))).trans (f q (h.si.lt q e).2 (BV h.si h.t oc e)))) h.u (fun i hi=>?_)⟩
 ·refine Ae ?_ (fun q e=>o q (by cases e;exact p));have e:kL Bk (AY A s.nt a') {s with nt:=s.nt+1,T:=AY s.T s.nt x'} (s.nt+1)=kL Bk A s s.nt++[AG Bk a' x']:=by
   rw[<-bT];show kL _ _ _ _++[AG Bk (AY A s.nt a' s.nt) (AY s.T s.nt x' s.nt)]=_;rw[Ak,Ak,Nh (s':=s) (A':=A) (Bk':=Bk) (fun i hi=>by show AG Bk (AY A s.nt a' i) (AY s.T s.nt x' i)=_;rw[Al _ _ oa,Al _ _ oa])]
  show w3.ownsRow _ _ _ _ _ _;rw[e];exact l
 ·have hi:i<s.nt+1:=hi;show Rd _ _ (AY A s.nt a' i) (AY s.T s.nt x' i)\/_;by_cases e:i=s.nt
  ·subst e;rw[Ak,Ak];exact .inl v
  ·rw[Al _ _ e,Al _ _ e];exact .inl (h.rd i oa)
theorem Vy{Z:Nat}(h:w.ownsRow B e Z (S9 g n b) n xs)(d:m<=n)(hl:ys.length=m*Z)(f:ys<+:xs):w.ownsRow B e Z (S9 g m b) m ys:=by
 obtain⟨i,⟨c,k⟩|⟨g',cap,cur,c,hb,a,h1,h2,h3,h4⟩⟩:=h
 ·cases c
 ·cases c;refine⟨hl,.inr ⟨g,b,cur,rfl,hb,a,oa,h2,h3,?_⟩⟩;obtain⟨r,j⟩:=f;have h5:(cur.toList.take (n*Z)).take (m*Z)=ys:=by rw[h4,<-j,<-hl];exact List.take_left
  rw[List.take_take,Nat.min_eq_left (VC Z d)]at h5;exact h5
theorem AZ.mE(h:AZ Z w c B0 vN vT vS vU Bk A s){g a m:Nat}(l:vT=.slice (some (G g 0)) s.nt a)(p:m<=s.nt):
  AZ Z (w.setCell (G c 1) (.slice (some (G g 0)) m a)) c B0 vN (.slice (some (G g 0)) m a) vS vU Bk A {s with nt:=m}/\Br (Au B0 c vN vT vS w) w (Au B0 c vN (.slice (some (G g 0)) m a) vS (w.setCell (G c 1) (.slice (some (G g 0)) m a))) (w.setCell (G c 1) (.slice (some (G g 0)) m a)):=by
 obtain⟨X,M,hN,hid⟩:=h.nd;have o:vT.ownBlock=some g:=by rw[l];rfl
 have d:∀k,k≠c->(w.setCell (G c 1) (.slice (some (G g 0)) m a)).heap[k]?=w.heap[k]?:=fun k hk=>A0 _ _ _ _ (by exact hk);have f:g≠c:=fun e=>h.A9 h.t oc (e▸o);refine h.next ⟨rfl,rfl,rfl⟩ od (fun k _ hk=>d k (fun e=>hk (.inl e))) (fun _ e=>.inl e) (fun k e=>by cases e;exact .inl o) (fun _ e=>.inl e) ((Is _ _ _ _ _ _ h.BB).trans od) (Ae h.n (fun q e=>d q (fun e'=>h.A9 h.n oc (e'▸e)))) ⟨X,M,hN.keep (fun b hn=>d b (fun e=>h.FZ (e▸hn))),hid⟩ ?_
  (Ae h.si (fun q e=>d q (fun e'=>h.A9 h.si oc (e'▸e)))) h.u (fun i hi=>.inl (h.rd i (by have hi:i<m:=hi;omega)))
 refine Ae (Vy (l▸h.t:w.ownsRow B0 162 1 (.slice (some (G g 0)) s.nt a) s.nt (kL Bk A s s.nt)) p (by rw[IL];exact(Nat.mul_one m).symm) ?_) (fun q e=>d q (by cases e;exact f));show kL Bk A s m<+:kL Bk A s s.nt;unfold kL;refine List.IsPrefix.map _ ?_;obtain⟨j,hj⟩:∃j,s.nt=m+j:=⟨s.nt-m,oa⟩;rw[hj];exact⟨(List.range j).map (m+·),by rw[List.range_add]⟩
theorem AZ.kG(h:AZ Z w c B0 vN vT vS vU Bk A s){g3 a:Nat}{x':Si}(j:B9 w X)(d:X.grownBy w3 vS.ownBlock)
  (l:w3.ownsRow B0 103 5 (.slice (some (G g3 0)) (s.ns+1) a) (s.ns+1) (Ji s.S s.ns++IZ x')) (g:vS.ownBlock=some g3\/w.heap.size<=g3):
  w3.heap[c]?=some (.cells #[vN,vT,vS,vU] 198 (0,0))/\AZ Z (w3.setCell (G c 2) (.slice (some (G g3 0)) (s.ns+1) a)) c B0 vN vT (.slice (some (G g3 0)) (s.ns+1) a) vU Bk A {s with ns:=s.ns+1,S:=AY s.S s.ns x'}/\Br (Au B0 c vN vT vS w) w (Au B0 c vN vT (.slice (some (G g3 0)) (s.ns+1) a) (w3.setCell (G c 2) (.slice (some (G g3 0)) (s.ns+1) a))) (w3.setCell (G c 2) (.slice (some (G g3 0)) (s.ns+1) a)):=by
 obtain⟨W,M,hN,hid⟩:=h.nd;obtain⟨m,f⟩:=h.more j d (fun k e e'=>h.A9 h.si oc (e'▸e));have o:∀k,k≠c->(w3.setCell (G c 2) (.slice (some (G g3 0)) (s.ns+1) a)).heap[k]?=w3.heap[k]?:=fun k hk=>A0 _ _ _ _ (by exact hk);have p:g3≠c:=fun e=>by
  rcases g with h1|h1
  ·exact h.A9 h.si oc (e▸h1)
  ·have:=h.lt;omega
 refine⟨m,h.next ⟨d.os.trans j.os,d.tape.trans j.tape,d.output.trans j.output⟩ (by have:=j.size;have:=d.size;simp;omega) (fun k r hk=>(o k (fun e=>hk (.inl e))).trans (f k r (fun e=>hk (.inr (.inr (.inr (.inl e))))))) (fun _ e=>.inl e) (fun _ e=>.inl e) (fun k e=>by cases e;exact g) ((Is _ _ _ _ _ _ m).trans od)
  (Ae h.n (fun q e=>(o q (fun e'=>h.A9 h.n oc (e'▸e))).trans (f q (h.n.lt q e).2 (BV h.n h.si oc e)))) ⟨W,M,hN.keep (fun b hn=>(o b (fun e=>h.FZ (e▸hn))).trans (f b (Ib hn) (fun e=>DB h.si oc e hn))),hid⟩
  (Ae h.t (fun q e=>(o q (fun e'=>h.A9 h.t oc (e'▸e))).trans (f q (h.t.lt q e).2 (BV h.t h.si oc e)))) ?_ h.u (fun i hi=>.inl (h.rd i hi))⟩
 refine Ae ?_ (fun q e=>o q (by cases e;exact p));show w3.ownsRow _ _ _ _ _ (Ji (AY s.S s.ns x') (s.ns+1));rw[<-S3];exact l
theorem AZ.mD(h:AZ Z w c B0 vN vT vS vU Bk A s){g a m:Nat}(l:vS=.slice (some (G g 0)) s.ns a)(p:m<=s.ns):
  AZ Z (w.setCell (G c 2) (.slice (some (G g 0)) m a)) c B0 vN vT (.slice (some (G g 0)) m a) vU Bk A {s with ns:=m}/\Br (Au B0 c vN vT vS w) w (Au B0 c vN vT (.slice (some (G g 0)) m a) (w.setCell (G c 2) (.slice (some (G g 0)) m a))) (w.setCell (G c 2) (.slice (some (G g 0)) m a)):=by
 obtain⟨X,M,hN,hid⟩:=h.nd;have o:vS.ownBlock=some g:=by rw[l];rfl
 have d:∀k,k≠c->(w.setCell (G c 2) (.slice (some (G g 0)) m a)).heap[k]?=w.heap[k]?:=fun k hk=>A0 _ _ _ _ (by exact hk);have f:g≠c:=fun e=>h.A9 h.si oc (e▸o);refine h.next ⟨rfl,rfl,rfl⟩ od (fun k _ hk=>d k (fun e=>hk (.inl e))) (fun _ e=>.inl e) (fun _ e=>.inl e) (fun k e=>by cases e;exact .inl o) ((Is _ _ _ _ _ _ h.BB).trans od) (Ae h.n (fun q e=>d q (fun e'=>h.A9 h.n oc (e'▸e)))) ⟨X,M,hN.keep (fun b hn=>d b (fun e=>h.FZ (e▸hn))),hid⟩
  (Ae h.t (fun q e=>d q (fun e'=>h.A9 h.t oc (e'▸e)))) ?_ h.u (fun i hi=>.inl (h.rd i hi))
 refine Ae (Vy (l▸h.si:w.ownsRow B0 103 5 (.slice (some (G g 0)) s.ns a) s.ns (Ji s.S s.ns)) p (FN _ _) ?_) (fun q e=>d q (by cases e;exact f));obtain⟨j,hj⟩:∃j,s.ns=m+j:=⟨s.ns-m,oa⟩;show Ji s.S m<+:Ji s.S s.ns;rw[hj];clear hj
 induction j with
 |zero=>exact List.prefix_refl _
 |succ j ih=>exact ih.trans (List.prefix_append _ _)
theorem AZ.F1(h:AZ Z w c B0 vN vT vS vU Bk A s){i:Nat}(hi:i<s.ns):∃g d,vS=.slice (some (G g 0)) s.ns d/\g<w.heap.size/\B0<=g/\(∀j u,(IZ (s.S i))[j]?=some u->w.cell? (G g (i*5+j))=some u)/\∀q,w.frozen? (G g q)=false:=by
 obtain⟨hl,⟨b,e⟩|⟨g,cap,cur,b,hb,a,h1,h2,h3,h4⟩⟩:=h.si
 ·omega
 ·refine⟨g,cap,b,(GC.1 a).1,hb,fun j u hu=>?_,fun q=>by simp[World.frozen?,a]⟩;have hj:j<5:=by have:=(It.1 hu).1;exact this
  rw[IH (b▸h.si) (i*5+j) oa,Mt hi hj,hu]
theorem AZ.EK(h:AZ Z w c B0 vN vT vS vU Bk A s){g m i j:Nat}(f:vS=.slice (some (G g 0)) s.ns m)(hi:i<s.ns)(hj:j<5){u:V9}{x':Si}(hx:IZ x'=(IZ (s.S i)).set j u):
  AZ Z (w.setCell (G g (i*5+j)) u) c B0 vN vT vS vU Bk A {s with S:=AY s.S i x'}/\Br (Au B0 c vN vT vS w) w (Au B0 c vN vT vS (w.setCell (G g (i*5+j)) u)) (w.setCell (G g (i*5+j)) u):=by
 obtain⟨X,M,hN,hid⟩:=h.nd;have a:vS.ownBlock=some g:=by rw[f];rfl
 have d:∀k,k≠g->(w.setCell (G g (i*5+j)) u).heap[k]?=w.heap[k]?:=fun k hk=>A0 _ _ _ _ (by exact hk);have l:c≠g:=fun e=>h.A9 h.si oc (e▸a);refine h.next ⟨rfl,rfl,rfl⟩ od (fun k _ hk=>d k (fun e=>hk (.inr (.inr (.inr (.inl (e▸a))))))) (fun _ e=>.inl e) (fun _ e=>.inl e) (fun _ e=>.inl e) ((d c l).trans h.BB) (Ae h.n (fun q e=>d q (fun e'=>BV h.si h.n oc a (e'▸e)))) ⟨X,M,hN.keep (fun b hn=>d b (fun e=>DB h.si oc a (e▸hn))),hid⟩
  (Ae h.t (fun q e=>d q (fun e'=>BV h.si h.t oc a (e'▸e)))) ?_ h.u (fun i hi=>.inl (h.rd i hi))
 have h1:=(X9 (f▸h.si:w.ownsRow B0 103 5 (.slice (some (G g 0)) s.ns m) s.ns (Ji s.S s.ns)) (i*5+j) u).1;rw[VF hi hj hx,<-f]at h1;exact h1
theorem AZ.Em(h:AZ Z w c B0 vN vT vS vU Bk A s){b:Nat}{cs:Array Value}{ty:TypeId}(hb:w.heap[b]?=some (.cells cs ty (0,0)))(h1:ty≠198)(h2:ty≠163)(h3:ty≠162)(h4:ty≠103)(h5:ty≠208):¬Au B0 c vN vT vS w b:=by
 rintro(rfl|e|e|e|⟨_,e⟩)
 ·rw[h.BB]at hb;cases hb;exact h1 rfl
 ·obtain⟨cur,hc,_⟩:=AJ h.n e;rw[hc]at hb;cases hb;exact h2 rfl
 ·obtain⟨cur,hc,_⟩:=AJ h.t e;rw[hc]at hb;cases hb;exact h3 rfl
 ·obtain⟨cur,hc,_⟩:=AJ h.si e;rw[hc]at hb;cases hb;exact h4 rfl
 ·rcases e with⟨x,hx⟩|⟨es,x,hx⟩
  ·rw[hx]at hb;cases hb;exact h5 rfl
  ·rw[hx]at hb;cases hb
theorem AZ.base(h:AZ Z w c B0 vN vT vS vU Bk A s):B0<=w.heap.size:=GO h.ge (Aax h.lt)
end
def Oa(f:Nat->Vl)(n:Nat):List Value:=JF (fun i=>Kx (f i)) n
theorem G7(f:Nat->Vl)(n:Nat):(Oa f n).length=n*5:=Ch (m:=5) (f:=fun i=>Kx (f i)) (fun _=>rfl) n
theorem Ri{f:Nat->Vl}(hi:i<n)(hj:j<5):(Oa f n)[i*5+j]?=(Kx (f i))[j]?:=GZ (m:=5) (fun _=>rfl) hi hj
theorem Tk(f:Nat->Vl)(n:Nat)(x:Vl):Oa f n++Kx x=Oa (AY f n x) (n+1):=by
 unfold Oa;rw[JF,Ak,CW (f:=fun i=>Kx (f i)) (g:=fun i=>Kx (AY f n x i)) (fun i hi=>by rw[Al _ _ oa])]
theorem Mu(f:Nat->Vl):∀n,∀u∈Oa f n,u.oneCell'=true
 |0,u,h=>by cases h
 |n+1,u,h=>by
  rcases List.mem_append.1 h with h|h
  ·exact Mu f n u h
  ·simp only[Kx,List.mem_cons,AaD,or_false]at h;rcases h with h|h|h|h|h<;>(rw[h];rfl)
abbrev Cp(w:Y)(B:Nat)(v:V9)(n:Nat)(f:Nat->Vl):Prop:=w.ownsRow B 43 5 v n (Oa f n)
theorem I4.news{off:Nat}{f:Nat->Vl}(h:∀i,i<n->I8 w b (off+i*5) (f i)):∀j u,(Oa f n)[j]?=some u->w.cell? (((G b off):Addr).add j)=some u:=fun j u hu=>by
 have a:((G b off):Addr).add j=(G b (off+j)):=by unfold Addr.add;split<;>simp_all
 rw[a];have hj:j<n*5:=by
  have:=(It.1 hu).1
  rwa [G7]at this
 obtain⟨i,r,hi,c,e⟩:∃i r,i<n/\r<5/\j=i*5+r:=⟨j/5,j%5,oa,oa,oa⟩;subst e;rw[Ri hi c]at hu;obtain⟨c0,c1,c2,c3,c4⟩:=h i hi;rw[<-Nat.add_assoc];rcases(by omega:r=0\/r=1\/r=2\/r=3\/r=4)with rfl|rfl|rfl|rfl|rfl
 ·simp[Kx]at hu;rw[<-hu];exact c0
 ·simp[Kx]at hu;rw[<-hu];exact c1
 ·simp[Kx]at hu;rw[<-hu];exact c2
 ·simp[Kx]at hu;rw[<-hu];exact c3
 ·simp[Kx]at hu;rw[<-hu];exact c4
theorem Cp.at{f:Nat->Vl}(h:Cp w B (S9 g n a) n f){i:Nat}(hi:i<n):I8 w g (i*5) (f i):=by
 refine I8.of (fun j u hu=>?_);have hj:j<5:=by have:=(It.1 hu).1;exact this
 rw[IH h (i*5+j) oa,Ri hi hj,hu]
theorem Cp.FL{f:Nat->Vl}(h:Cp w B (S9 g n b) n f){i:Nat}(hi:i<n)(v:Vl):Cp (FL w g (i*5) v) B (S9 g n b) n (AY f i v):=by
 have c:=(X9 h (i*5+0) (J v.kind)).1;have h1:=(X9 c (i*5+1) (J v.num)).1;have h2:=(X9 h1 (i*5+2) (F9 v.Ag)).1;have h3:=(X9 h2 (i*5+3) (.string v.str)).1;have h4:=(X9 h3 (i*5+4) (J v.ref)).1;have hl:∀(q:Nat->List Value) (a:List Value),(∀j,(q j).length=5)->a.length=5->∀j,(AY q i a j).length=5:=fun q a hq d j=>by
  unfold AY;split
  ·exact d
  ·exact hq j
 have e:((((((Oa f n).set (i*5+0) (J v.kind)).set (i*5+1) (J v.num)).set (i*5+2) (F9 v.Ag)).set (i*5+3) (.string v.str)).set (i*5+4) (J v.ref))=Oa (AY f i v) n:=by
  unfold Oa;rw[G0 (m:=5) (fun _=>rfl) hi oa];rw[G0 (m:=5) (hl _ _ (fun _=>rfl) rfl) hi oa,Ak,F2];rw[G0 (m:=5) (hl _ _ (fun _=>rfl) rfl) hi oa,Ak,F2];rw[G0 (m:=5) (hl _ _ (fun _=>rfl) rfl) hi oa,Ak,F2];rw[G0 (m:=5) (hl _ _ (fun _=>rfl) rfl) hi oa,Ak,F2];refine CW (fun q hq=>?_);by_cases eq:q=i
  ·subst eq;rw[Ak,Ak];rfl
  ·rw[Al _ _ eq,Al _ _ eq]
 rw[e]at h4;exact h4
theorem Rd.iO{Z:Nat->Prop}(h:Cp w B (S9 g t.nv c) t.nv t.V)(b:A.va=some (G g 0))(f:¬Z g)(j:bare t.d):Rd Z w A t:=fun w' hs hk=>by
 obtain⟨d1,d2,d3,_⟩:=j;obtain⟨cur,hb,_⟩:=AJ h rfl;have a:=Ah hb;have h':=Ae h (fun q e=>by cases e;exact hk g a f);refine⟨.inr ⟨g,0,b,At a hs,fun i hi=>?_⟩,.inl d1,.inl d2,.inl d3⟩;rw[Wx];exact Cp.at h' hi
def eE(s k:Nat):Vl:=⟨(s:Int)+5*(k:Int),(s:Int)+5*(k:Int)+1,floatOfInt .f64 ((s:Int)+5*(k:Int)+1+1),mark (s+5*k+3),(s:Int)+5*(k:Int)+1+1+1+1⟩
def cE(s k:Nat):Si:=⟨mark (s+5*k),(s:Int)+5*(k:Int)+1,(s:Int)+5*(k:Int)+1+1,(s:Int)+5*(k:Int)+1+1+1,(s:Int)+5*(k:Int)+1+1+1+1⟩
def P1(f:Nat->Vl)(j:Nat):Value:=((Kx (f (j/5)))[j%5]?).getD undef
def PR(f:Nat->Si)(j:Nat):Value:=((IZ (f (j/5)))[j%5]?).getD undef
theorem Tj(f:Nat->Vl)(k i:Nat)(hi:i<5):P1 f (k*5+i)=((Kx (f k))[i]?).getD undef:=by
 unfold P1;rw[show(k*5+i)/5=k by omega,show(k*5+i)%5=i by omega]
theorem SS(f:Nat->Si)(k i:Nat)(hi:i<5):PR f (k*5+i)=((IZ (f k))[i]?).getD undef:=by
 unfold PR;rw[show(k*5+i)/5=k by omega,show(k*5+i)%5=i by omega]
theorem iP{t:TypeId}{g:Nat->Value}{f:Nat->Vl}(h:w.rowIs b t Z g)(hN:n*5<=Z)(a:∀j,j<n*5->g j=P1 f j){i:Nat}(hi:i<n):I8 w b (i*5) (f i):=by
 have e:∀j,j<5->w.cell? (G b (i*5+j))=some (((Kx (f i))[j]?).getD undef):=fun j hj=>by
  rw[h.cell (i:=i*5+j) oa,a _ oa,Tj f i j hj]
 exact⟨e 0 oa,e 1 oa,e 2 oa,e 3 oa,e 4 oa⟩
theorem gZ{t:TypeId}{g:Nat->Value}{f:Nat->Si}(h:w.rowIs b t Z g)(hN:n*5<=Z)(a:∀j,j<n*5->g j=PR f j){i:Nat}(hi:i<n):jB w b (i*5) (f i):=by
 have e:∀j,j<5->w.cell? (G b (i*5+j))=some (((IZ (f i))[j]?).getD undef):=fun j hj=>by
  rw[h.cell (i:=i*5+j) oa,a _ oa,SS f i j hj]
 exact⟨e 0 oa,e 1 oa,e 2 oa,e 3 oa,e 4 oa⟩
theorem L5(b n cap Z s:Nat)(g:Nat->Value)(w:Y)(hA:w.rowIs b 43 Z g)(hN:n*5<=Z)(hn:n<=2000000000)(hs:s<=100000000000000):
  C9 121 #[S9 b n cap,J (s:Int)] w fun e w'=>(e=.returned (J ((s:Int)+5*(n:Int)))/\∃g',w'.rowIs b 43 Z g'/\∀j,j<n*5->g' j=P1 (eE s) j)/\Bu b w w':=by
 have B:=O hA;clear hA
 go_enter func121,ntmps121
 go_wp2;go_loopw [1,5] (fun q i wr=>∃(k:Nat) (g:Nat->Value),k<=n/\i=J (k:Int)/\q=J ((s:Int)+5*(k:Int))/\Bu b w wr/\wr.rowIs b 43 Z g/\∀j,j<k*5->g j=P1 (eE s) j) (fun _ i _=>n-(intOf i).toNat)
 case atStart=>exact⟨0,g,oa,rfl,od,Bu.refl _ _,B,fun j hj=>oa⟩
 case round=>
  obtain⟨k,g,hk,rfl,rfl,hb,a,l⟩:=hrel;by_cases o:k<n
  ·have p:=a.lt;have d0:=a.cell (i:=k*5) oa;have e0:=a.frozen (k*5);have d1:=a.cell (i:=k*5+1) oa;have e1:=a.frozen (k*5+1);have d2:=a.cell (i:=k*5+2) oa;have e2:=a.frozen (k*5+2);have d3:=a.cell (i:=k*5+3) oa;have e3:=a.frozen (k*5+3);have d4:=a.cell (i:=k*5+4) oa;have A:=a.frozen (k*5+4);have r:∀w:World,_:=fun w=>A6 (s+5*k+3) oa w;rw[show((s+5*k+3:Nat):Int)=(s:Int)+5*(k:Int)+1+1+1 by omega]at r;have C:=O r;have t:=O hb;have m:=O a;have D:=O l;clear hb a r l;go_wp2_with fail;refine(C _).mono ?_;rintro e w1 ⟨rfl,f⟩;have c:=((((m.set (k*5) (J ((s:Int)+5*(k:Int)))).set (k*5+1) (J ((s:Int)+5*(k:Int)+1))).set (k*5+2) (F9 (floatOfInt .f64 ((s:Int)+5*(k:Int)+1+1))))).of_block (f.block b (by simpa using p));have u:=O ((((t.trans (Bu.set b (k*5) _ (J ((s:Int)+5*(k:Int))))).trans (Bu.set b (k*5+1) _ (J ((s:Int)+5*(k:Int)+1)))).trans (Bu.set b (k*5+2) _ (F9 (floatOfInt .f64 ((s:Int)+5*(k:Int)+1+1))))).trans (Bu.of f));have v:=O c;have E:=c.lt;clear f d0 e0 d1 e1 d2 e2 d3 e3 d4 A;have d3:=c.cell (i:=k*5+3) oa;have e3:=c.frozen (k*5+3);have d4:=c.cell (i:=k*5+4) oa;have A:=c.frozen (k*5+4);clear c;go_wp2;go_roundw
   case rel=>
    refine⟨k+1,_,oa,oh,oh,((u.trans (Bu.set b (k*5+3) _ (.string (mark (s+5*k+3))))).trans (Bu.set b (k*5+4) _ (J ((s:Int)+5*(k:Int)+1+1+1+1)))),((v.set (k*5+3) (.string (mark (s+5*k+3)))).set (k*5+4) (J ((s:Int)+5*(k:Int)+1+1+1+1))),fun j hj=>?_⟩;by_cases x:j<k*5
    ·have d:∀i,i<5->j≠k*5+i:=fun i _=>oa;simp only[show j≠k*5 by omega,d 1 oa,d 2 oa,d 3 oa,d 4 oa,Tn];exact D j x
    ·obtain⟨i,hi,rfl⟩:∃i,i<5/\j=k*5+i:=⟨j-k*5,oa,oa⟩;rw[Tj _ k i hi];rcases(by omega:i=0\/i=1\/i=2\/i=3\/i=4)with rfl|rfl|rfl|rfl|rfl<;>simp[Kx,eE]
   case measure=>simp[intOf];omega
  ·have h:k=n:=oa;have t:=O hb;have m:=O (And.intro a l);clear hb a l o;subst h;go_wp2;go_ret;exact⟨⟨rfl,_,m.1,m.2⟩,t⟩
theorem Nx(b n cap Z s:Nat)(g:Nat->Value)(w:Y)(hA:w.rowIs b 103 Z g)(hN:n*5<=Z)(hn:n<=2000000000)(hs:s<=100000000000000):
  C9 65 #[S9 b n cap,J (s:Int)] w fun e w'=>(e=.returned (J ((s:Int)+5*(n:Int)))/\∃g',w'.rowIs b 103 Z g'/\∀j,j<n*5->g' j=PR (cE s) j)/\Bu b w w':=by
 have B:=O hA;clear hA
 go_enter func65,ntmps65
 go_wp2;go_loopw [1,5] (fun q i wr=>∃(k:Nat) (g:Nat->Value),k<=n/\i=J (k:Int)/\q=J ((s:Int)+5*(k:Int))/\Bu b w wr/\wr.rowIs b 103 Z g/\∀j,j<k*5->g j=PR (cE s) j) (fun _ i _=>n-(intOf i).toNat)
 case atStart=>exact⟨0,g,oa,rfl,od,Bu.refl _ _,B,fun j hj=>oa⟩
 case round=>
  obtain⟨k,g,hk,rfl,rfl,hb,c,l⟩:=hrel;by_cases o:k<n
  ·have p:=c.lt;have d0:=c.cell (i:=k*5) oa;have e0:=c.frozen (k*5);have d1:=c.cell (i:=k*5+1) oa;have e1:=c.frozen (k*5+1);have d2:=c.cell (i:=k*5+2) oa;have e2:=c.frozen (k*5+2);have d3:=c.cell (i:=k*5+3) oa;have e3:=c.frozen (k*5+3);have d4:=c.cell (i:=k*5+4) oa;have A:=c.frozen (k*5+4);have r:∀w:World,_:=fun w=>A6 (s+5*k) oa w;rw[show((s+5*k:Nat):Int)=(s:Int)+5*(k:Int) by omega]at r;have C:=O r;have t:=O hb;have m:=O c;have D:=O l;clear hb c r l;go_wp2_with fail;refine(C _).mono ?_;rintro e w1 ⟨rfl,f⟩;have a:=(m).of_block (f.block b (by simpa using p));have u:=O (t.trans (Bu.of f));have v:=O a;have E:=a.lt;clear f d0 e0 d1 e1 d2 e2 d3 e3 d4 A;have d0:=a.cell (i:=k*5) oa;have e0:=a.frozen (k*5);have d1:=a.cell (i:=k*5+1) oa;have e1:=a.frozen (k*5+1);have d2:=a.cell (i:=k*5+2) oa;have e2:=a.frozen (k*5+2);have d3:=a.cell (i:=k*5+3) oa;have e3:=a.frozen (k*5+3);have d4:=a.cell (i:=k*5+4) oa;have A:=a.frozen (k*5+4);clear a;go_wp2;go_roundw
   case rel=>
    refine⟨k+1,_,oa,oh,oh,(((((u.trans (Bu.set b (k*5) _ (.string (mark (s+5*k))))).trans (Bu.set b (k*5+1) _ (J ((s:Int)+5*(k:Int)+1)))).trans (Bu.set b (k*5+2) _ (J ((s:Int)+5*(k:Int)+1+1)))).trans (Bu.set b (k*5+3) _ (J ((s:Int)+5*(k:Int)+1+1+1)))).trans (Bu.set b (k*5+4) _ (J ((s:Int)+5*(k:Int)+1+1+1+1)))),(((((v.set (k*5) (.string (mark (s+5*k)))).set (k*5+1) (J ((s:Int)+5*(k:Int)+1))).set (k*5+2) (J ((s:Int)+5*(k:Int)+1+1))).set (k*5+3) (J ((s:Int)+5*(k:Int)+1+1+1))).set (k*5+4) (J ((s:Int)+5*(k:Int)+1+1+1+1))),fun j hj=>?_⟩;by_cases x:j<k*5
    ·have d:∀i,i<5->j≠k*5+i:=fun i _=>oa;simp only[show j≠k*5 by omega,d 1 oa,d 2 oa,d 3 oa,d 4 oa,Tn];exact D j x
    ·obtain⟨i,hi,rfl⟩:∃i,i<5/\j=k*5+i:=⟨j-k*5,oa,oa⟩;rw[SS _ k i hi];rcases(by omega:i=0\/i=1\/i=2\/i=3\/i=4)with rfl|rfl|rfl|rfl|rfl<;>simp[IZ,cE]
   case measure=>simp[intOf];omega
  ·have h:k=n:=oa;have t:=O hb;have m:=O (And.intro c l);clear hb c l o;subst h;go_wp2;go_ret;exact⟨⟨rfl,_,m.1,m.2⟩,t⟩
theorem LX(a:T9)(n cap s:Nat)(w:Y)(hA:I4 w a n (eE s))(hn:n<=2000000000)(hs:s<=100000000000000):
  C9 189 #[.slice a n cap,J (s:Int)] w (R9 (J ((s:Int)+5*(n:Int))) w):=by
 have m:=O hA;clear hA
 go_enter func189,ntmps189
 go_wp2;go_loopw [1,5] (fun q i wr=>∃(k:Nat),k<=n/\i=J k/\q=J ((s:Int)+5*(k:Int))/\B9 w wr) (fun _ i _=>n-(intOf i).toNat)
 case atStart=>exact⟨0,oa,rfl,od,Cs _ _⟩
 case round=>
  obtain⟨k,hk,rfl,rfl,hb⟩:=hrel;by_cases d:k<n
  ·obtain⟨b,off,rfl,hl,hcs⟩:=m.resolve_left oa;have hx:b<wr.heap.size:=At hl hb.size;have hc:=(hcs k d).keep (w':=wr) (fun q=>hb.cell (p:=(G b q)) hl);have d0:wr.cell? (G b (off+k*5))=some (J ((s:Int)+5*(k:Int))):=hc.c0;have d1:wr.cell? (G b (off+k*5+1))=some (J ((s:Int)+5*(k:Int)+1)):=hc.c1;have d2:wr.cell? (G b (off+k*5+2))=some (F9 (floatOfInt .f64 ((s:Int)+5*(k:Int)+1+1))):=hc.c2;have d3:wr.cell? (G b (off+k*5+3))=some (.string (mark (s+5*k+3))):=hc.c3;have d4:wr.cell? (G b (off+k*5+4))=some (J ((s:Int)+5*(k:Int)+1+1+1+1)):=hc.c4;have g2:=Ys ((s:Int)+5*(k:Int)+1+1) oa oa;have f:∀w:World,_:=fun w=>A6 (s+5*k+3) oa w;rw[show((s+5*k+3:Nat):Int)=(s:Int)+5*(k:Int)+1+1+1 by omega]at f;have o:=O f;have e:=O hb;clear hb hc f hcs;go_wp2;refine qr wr ?_;refine N (h:=N (h:=N (h:=N (h:=N (h:=N (h:=?_))))));refine GS (fun K hK=>?_);go_simp;refine⟨_,fun w' g=>qk g (o _),hK _ ?_⟩;clear hK K;refine N (h:=?_);refine H7 ?_;intro w2 c;have j:=O (oo e c);have r:b<w2.heap.size:=At hx c.size;have c4:=ol c hx d4;clear c e d0 d1 d2 d3 d4;go_wp2;go_roundw
   case rel=>exact⟨k+1,oa,oh,oh,j⟩
   case measure=>simp[intOf];omega
  ·have l:k=n:=oa;have e:=O hb;clear hb d;subst l;go_wp2;go_ret;exact⟨rfl,e⟩
theorem Nc(a:T9)(n cap s:Nat)(w:Y)(hA:LS w a n (cE s))(hn:n<=2000000000)(hs:s<=100000000000000):
  C9 126 #[.slice a n cap,J (s:Int)] w (R9 (J ((s:Int)+5*(n:Int))) w):=by
 have m:=O hA;clear hA
 go_enter func126,ntmps126
 go_wp2;go_loopw [1,5] (fun q i wr=>∃(k:Nat),k<=n/\i=J k/\q=J ((s:Int)+5*(k:Int))/\B9 w wr) (fun _ i _=>n-(intOf i).toNat)
 case atStart=>exact⟨0,oa,rfl,od,Cs _ _⟩
 case round=>
  obtain⟨k,hk,rfl,rfl,hb⟩:=hrel;by_cases d:k<n
  ·obtain⟨b,off,rfl,hl,hcs⟩:=m.resolve_left oa;have hx:b<wr.heap.size:=At hl hb.size;have hc:=(hcs k d).keep (w':=wr) (fun q=>hb.cell (p:=(G b q)) hl);have d0:wr.cell? (G b (off+k*5))=some (.string (mark (s+5*k))):=hc.c0;have d1:wr.cell? (G b (off+k*5+1))=some (J ((s:Int)+5*(k:Int)+1)):=hc.c1;have d2:wr.cell? (G b (off+k*5+2))=some (J ((s:Int)+5*(k:Int)+1+1)):=hc.c2;have d3:wr.cell? (G b (off+k*5+3))=some (J ((s:Int)+5*(k:Int)+1+1+1)):=hc.c3;have d4:wr.cell? (G b (off+k*5+4))=some (J ((s:Int)+5*(k:Int)+1+1+1+1)):=hc.c4;have f:∀w:World,_:=fun w=>A6 (s+5*k) oa w;rw[show((s+5*k:Nat):Int)=(s:Int)+5*(k:Int) by omega]at f;have o:=O f;have e:=O hb;clear hb hc f hcs;go_wp2;refine qr wr ?_;refine N (h:=N (h:=N (h:=N (h:=N (h:=N (h:=?_))))));refine GS (fun K hK=>?_);go_simp;refine⟨_,fun w' g=>qk g (o _),hK _ ?_⟩;clear hK K;refine N (h:=?_);refine H7 ?_;intro w2 c;have j:=O (oo e c);have r:b<w2.heap.size:=At hx c.size;have c1:=ol c hx d1;have c2:=ol c hx d2;have c3:=ol c hx d3;have c4:=ol c hx d4;clear c e d0 d1 d2 d3 d4;go_wp2;go_roundw
   case rel=>exact⟨k+1,oa,oh,oh,j⟩
   case measure=>simp[intOf];omega
  ·have l:k=n:=oa;have e:=O hb;clear hb d;subst l;go_wp2;go_ret;exact⟨rfl,e⟩
theorem QC(b n cap s:Nat)(w:Y)(hl:b<w.heap.size)(hA:∀i,i<n->w.cell? (G b i)=some (J ((s+i:Nat):Int)))(hn:n<=2000000000)(hs:s<=100000000000000):
  C9 191 #[S9 b n cap,J (s:Int)] w (R9 (J ((s+n:Nat):Int)) w):=by
 have e:=O hA;clear hA
 go_enter func191,ntmps191
 go_wp2;go_loopw [1,5] (fun q i wr=>∃(k:Nat),k<=n/\i=J (k:Int)/\q=J ((s+k:Nat):Int)/\B9 w wr) (fun _ i _=>n-(intOf i).toNat)
 case atStart=>exact⟨0,oa,rfl,rfl,Cs _ _⟩
 case round=>
  obtain⟨k,hk,rfl,rfl,hb⟩:=hrel;have hx:b<wr.heap.size:=At hl hb.size;by_cases c:k<n
  ·have d0:=ol hb hl (e k c);have d:=O hb;clear hb;go_wp2;go_roundw
   case rel=>exact⟨k+1,oa,oh,oh,d⟩
   case measure=>simp[intOf];omega
  ·have a:k=n:=oa;subst a;have d:=O hb;clear hb;go_wp2;go_ret;exact⟨rfl,d⟩
theorem QR(s:Int)(w:Y):
  C9 123 #[N9,J s] w fun e w'=>e=.returned (J s)/\w'=w:=by
 go_enter func123,ntmps123
 go_wp2;go_loopw [1,5] (fun q i wr=>q=J s/\i=J 0/\wr=w) (fun _ _ _=>0)
 case atStart=>exact⟨rfl,rfl,rfl⟩
 case round=>
  obtain⟨rfl,rfl,rfl⟩:=hrel;go_wp2;go_ret;exact⟨rfl,rfl⟩
theorem QD(s:Int)(w:Y):
  C9 191 #[N9,J s] w fun e w'=>e=.returned (J s)/\w'=w:=by
 go_enter func191,ntmps191
 go_wp2;go_loopw [1,5] (fun q i wr=>q=J s/\i=J 0/\wr=w) (fun _ _ _=>0)
 case atStart=>exact⟨rfl,rfl,rfl⟩
 case round=>
  obtain⟨rfl,rfl,rfl⟩:=hrel;go_wp2;go_ret;exact⟨rfl,rfl⟩
def Hb(f:Nat->Int)(n:Nat)(w:Y)(v:V9)(lo hi:Nat):Prop:=
 (n=0/\v=N9)\/∃b a Z g,v=S9 b n a/\lo<=b/\b<hi/\w.rowIs b 3 Z g/\n<=Z/\∀j,j<n->g j=J (f j)
theorem Hb.keep{f:Nat->Int}(h:Hb f n w v lo hi)(hk:∀b,v.ownBlock=some b->lo<=b->b<hi->w'.heap[b]?=w.heap[b]?):Hb f n w' v lo hi:=by
 rcases h with h|⟨b,a,Z,g,h1,h2,h3,h4,h5,c⟩
 ·exact .inl h
 ·exact .inr ⟨b,a,Z,g,h1,h2,h3,RC h4 (hk b (by rw[h1];rfl) h2 h3),h5,c⟩
theorem Hb.of{f:Nat->Int}(h:BG w B v n f):Hb f n w v B w.heap.size:=by
 have b:=h.lt;obtain⟨hl,⟨c,d⟩|⟨g',cap,cur,c,hb,a,h1,h2,h3,h4⟩⟩:=h
 ·exact .inl ⟨d,c⟩
 ·subst c;refine .inr ⟨g',cap,cap,fun j=>(cur[j]?).getD undef,rfl,hb,(b g' rfl).2,⟨cur,a,oa,fun i hi=>by simp[Aag (show i<cur.size by omega)]⟩,h1,fun j hj=>?_⟩;have h5:=F7 (f:=f) (n:=n) (i:=j) hj;rw[<-h4,AaG,DD oa,Array.getElem?_toList]at h5;show(cur[j]?).getD undef=_;rw[h5];rfl
theorem Hb.at{f:Nat->Int}(h:Hb f n w v lo hi):∃a c,v=.slice a n c/\UU w a n f:=by
 rcases h with⟨d,rfl⟩|⟨b,c,Z,g,h1,h2,h3,h4,h5,e⟩
 ·subst d;exact⟨_,_,rfl,.inl rfl⟩
 ·exact⟨_,_,h1,.inr ⟨b,0,rfl,Ok h4,fun i hi=>by rw[Wx,h4.cell oa,e i hi]⟩⟩
def Oj(f:Nat->Vl)(n:Nat)(w:Y)(v:V9)(lo hi:Nat):Prop:=
 (n=0/\v=N9)\/∃b a Z g,v=S9 b n a/\lo<=b/\b<hi/\w.rowIs b 43 Z g/\n*5<=Z/\∀j,j<n*5->g j=P1 f j
theorem Oj.keep{f:Nat->Vl}(h:Oj f n w v lo hi)(hk:∀b,v.ownBlock=some b->w'.heap[b]?=w.heap[b]?):Oj f n w' v lo hi:=by
 rcases h with h|⟨b,a,Z,g,rfl,h2,h3,h4,h5,c⟩
 ·exact .inl h
 ·exact .inr ⟨b,a,Z,g,rfl,h2,h3,RC h4 (hk b rfl),h5,c⟩
theorem Oj.at{f:Nat->Vl}(h:Oj f n w v lo hi):∃a c,v=.slice a n c/\I4 w a n f:=by
 rcases h with⟨d,rfl⟩|⟨b,c,Z,g,h1,h2,h3,h4,h5,e⟩
 ·subst d;exact⟨_,_,rfl,.inl rfl⟩
 ·exact⟨_,_,h1,.inr ⟨b,0,rfl,Ok h4,fun i hi=>by rw[Wx];exact iP h4 h5 e hi⟩⟩
theorem Kz.CD{f:Nat->Pr}(h:Kz f n w v lo hi)(hk:∀b,v.ownBlock=some b->w'.heap[b]?=w.heap[b]?):Kz f n w' v lo hi:=by
 rcases h with h|⟨b,a,Z,g,rfl,h2,h3,h4,h5,c⟩
 ·exact .inl h
 ·exact .inr ⟨b,a,Z,g,rfl,h2,h3,RC h4 (hk b rfl),h5,c⟩
theorem Hb.CD{f:Nat->Int}(h:Hb f n w v lo hi)(hk:∀b,v.ownBlock=some b->w'.heap[b]?=w.heap[b]?):Hb f n w' v lo hi:=by
 rcases h with h|⟨b,a,Z,g,rfl,h2,h3,h4,h5,c⟩
 ·exact .inl h
 ·exact .inr ⟨b,a,Z,g,rfl,h2,h3,RC h4 (hk b rfl),h5,c⟩
theorem Hb.VT{f:Nat->Int}(h:Hb f n w v lo hi):∃a c,v=.slice a n c/\UU w a n f:=by
 rcases h with⟨d,rfl⟩|⟨b,c,Z,g,h1,h2,h3,h4,h5,e⟩
 ·subst d;exact⟨_,_,rfl,.inl rfl⟩
 ·exact⟨_,_,h1,.inr ⟨b,0,rfl,Ok h4,fun i hi=>by rw[Wx,h4.cell oa,e i hi]⟩⟩
structure Bv (v:V9) (w w':Y):Prop where
 os:w'.os=w.os
 tape:w'.tape=w.tape
 output:w'.output=w.output
 size:w.heap.size<=w'.heap.size
 block:∀k,k<w.heap.size->v.ownBlock≠some k->w'.heap[k]?=w.heap[k]?
theorem Bv.Vt(h:Bu b w w'):Bv (S9 b n a) w w':=⟨h.os,h.tape,h.output,h.size,fun k hk hn=>h.block k hk (fun e=>hn (by rw[e];rfl))⟩
theorem Bv.same(v:V9)(w:Y):Bv v w w:=⟨rfl,rfl,rfl,Be _,fun _ _ _=>rfl⟩
theorem Nz(s:Int)(w:Y):
  C9 121 #[N9,J s] w fun e w'=>e=.returned (J s)/\w'=w:=by
 go_enter func121,ntmps121
 go_wp2;go_loopw [1,5] (fun q i wr=>q=J s/\i=J 0/\wr=w) (fun _ _ _=>0)
 case atStart=>exact⟨rfl,rfl,rfl⟩
 case round=>
  obtain⟨rfl,rfl,rfl⟩:=hrel;go_wp2;go_ret;exact⟨rfl,rfl⟩
theorem Nv(s:Int)(w:Y):
  C9 122 #[N9,J s] w fun e w'=>e=.returned (J s)/\w'=w:=by
 go_enter func122,ntmps122
 go_wp2;go_loopw [1,5] (fun q i wr=>q=J s/\i=J 0/\wr=w) (fun _ _ _=>0)
 case atStart=>exact⟨rfl,rfl,rfl⟩
 case round=>
  obtain⟨rfl,rfl,rfl⟩:=hrel;go_wp2;go_ret;exact⟨rfl,rfl⟩
theorem cB{f:Nat->Vl}(h:Oj f n w v lo hi)(hn:n<=2000000000)(hs:s<=100000000000000):
  C9 121 #[v,J (s:Int)] w fun e w'=>(e=.returned (J ((s+5*n:Nat):Int))/\Oj (eE s) n w' v lo hi)/\Bv v w w':=by
 rcases h with⟨c,rfl⟩|⟨b,a,Z,g,rfl,h2,h3,h4,h5,j⟩
 ·subst c;refine(Nz s w).mono fun e w' h=>?_;rw[h.2];exact⟨⟨by rw[h.1];rfl,.inl ⟨rfl,rfl⟩⟩,Bv.same _ _⟩
 ·refine(L5 b n a Z s g w h4 h5 oa hs).mono fun e w' h=>?_;obtain⟨⟨rfl,g',d,i⟩,hb⟩:=h;exact⟨⟨od,.inr ⟨b,a,Z,g',rfl,h2,h3,d,h5,i⟩⟩,Bv.Vt hb⟩
theorem YZ{f:Nat->Pr}(h:Kz f n w v lo hi)(hn:n<=2000000000)(hs:s<=100000000000000):
  C9 122 #[v,J (s:Int)] w fun e w'=>(e=.returned (J ((s+11*n:Nat):Int))/\Kz (eD s) n w' v lo hi)/\Bv v w w':=by
 rcases h with⟨c,rfl⟩|⟨b,a,Z,g,rfl,h2,h3,h4,h5,j⟩
 ·subst c;refine(Nv s w).mono fun e w' h=>?_;rw[h.2];exact⟨⟨by rw[h.1];rfl,.inl ⟨rfl,rfl⟩⟩,Bv.same _ _⟩
 ·refine(OQ b n a Z s g w h4 h5 oa hs).mono fun e w' h=>?_;obtain⟨⟨rfl,g',d,i⟩,hb⟩:=h;exact⟨⟨od,.inr ⟨b,a,Z,g',rfl,h2,h3,d,h5,i⟩⟩,Bv.Vt hb⟩
theorem Sv{f:Nat->Int}(h:Hb f n w v lo hi)(hn:n<=2000000000)(hs:s<=100000000000000):
  C9 123 #[v,J (s:Int)] w fun e w'=>(e=.returned (J ((s+n:Nat):Int))/\Hb (fun j=>((s+j:Nat):Int)) n w' v lo hi)/\Bv v w w':=by
 rcases h with⟨c,rfl⟩|⟨b,a,Z,g,rfl,h2,h3,h4,h5,k⟩
 ·subst c;refine(QR s w).mono fun e w' h=>?_;rw[h.2];exact⟨⟨by rw[h.1];rfl,.inl ⟨rfl,rfl⟩⟩,Bv.same _ _⟩
 ·refine(QQ b n a Z s g w h4 h5 oa hs).mono fun e w' h=>?_;obtain⟨⟨rfl,g',d,i⟩,hb⟩:=h;exact⟨⟨rfl,.inr ⟨b,a,Z,g',rfl,h2,h3,d,h5,i⟩⟩,Bv.Vt hb⟩
theorem bL(h:Oj (eE s) n w v lo hi)(hn:n<=2000000000)(hs:s<=100000000000000):
  C9 189 #[v,J (s:Int)] w (R9 (J ((s+5*n:Nat):Int)) w):=by
 obtain⟨a,b,rfl,hA⟩:=h.at;refine(LX a n b s w hA oa hs).mono fun e w' h=>?_;exact⟨by rw[h.1];simp,h.2⟩
theorem Nb(s:Int)(w:Y):
  C9 190 #[N9,J s] w fun e w'=>e=.returned (J s)/\w'=w:=by
 go_enter func190,ntmps190
 go_wp2;go_loopw [1,5] (fun q i wr=>q=J s/\i=J 0/\wr=w) (fun _ _ _=>0)
 case atStart=>exact⟨rfl,rfl,rfl⟩
 case round=>
  obtain⟨rfl,rfl,rfl⟩:=hrel;go_wp2;go_ret;exact⟨rfl,rfl⟩
theorem Yy(h:Kz (eD s) n w v lo hi)(hn:n<=2000000000)(hs:s<=100000000000000):
  C9 190 #[v,J (s:Int)] w (R9 (J ((s+11*n:Nat):Int)) w):=by
 rcases h with⟨a,rfl⟩|⟨b,c,Z,g,rfl,h2,h3,h4,h5,d⟩
 ·subst a;refine(Nb s w).mono fun e w' h=>?_;rw[h.2];exact⟨by rw[h.1];rfl,Cs _ _⟩
 ·refine(OC b n c s w (Ok h4) (fun i hi=>Y8 h4 h5 d hi) oa hs).mono fun e w' h=>?_;exact⟨by rw[h.1];simp,h.2⟩
theorem R4(h:Hb (fun j=>((s+j:Nat):Int)) n w v lo hi)(hn:n<=2000000000)(hs:s<=100000000000000):
  C9 191 #[v,J (s:Int)] w (R9 (J ((s+n:Nat):Int)) w):=by
 rcases h with⟨a,rfl⟩|⟨b,c,Z,g,rfl,h2,h3,h4,h5,d⟩
 ·subst a;refine(QD s w).mono fun e w' h=>?_;rw[h.2];exact⟨by rw[h.1];rfl,Cs _ _⟩
 ·exact QC b n c s w (Ok h4) (fun i hi=>by rw[h4.cell oa,d i hi]) oa hs
structure Hs where
 v:Value
 l:Value
 i:Value
 x:Value
def Hs.own(h:Hs)(q:Nat):Prop:=h.v.ownBlock=some q\/h.l.ownBlock=some q\/h.i.ownBlock=some q\/h.x.ownBlock=some q
structure XK (lo hi:Nat) (w:Y) (b o:Nat) (h:Hs) (t:Tb):Prop where
 c0:w.cell? (G b o)=some (J t.shape)
 c1:w.cell? (G b (o+1))=some h.v
 c2:w.cell? (G b (o+2))=some h.l
 c3:w.cell? (G b (o+3))=some h.i
 c4:w.cell? (G b (o+4))=some h.x
 c5:w.cell? (G b (o+5))=some (J t.d.used)
 c6:w.cell? (G b (o+6))=some (J t.d.live)
 c7:w.cell? (G b (o+7))=some (J t.d.turns)
 v:Oj t.V t.nv w h.v lo hi
 l:Kz t.d.L t.d.n w h.l lo hi
 i:Hb t.d.I t.d.m w h.i lo hi
 x:Hb t.d.X t.d.x w h.x lo hi
theorem XK.keep{h:Hs}(H:XK lo hi w b o h t)(hk:∀q,h.own q->w'.heap[q]?=w.heap[q]?)(hc:∀j,j<8->w'.cell? (G b (o+j))=w.cell? (G b (o+j))):XK lo hi w' b o h t:=
 ⟨(hc 0 oa).trans H.c0,(hc 1 oa).trans H.c1,(hc 2 oa).trans H.c2,(hc 3 oa).trans H.c3,(hc 4 oa).trans H.c4,(hc 5 oa).trans H.c5,(hc 6 oa).trans H.c6,(hc 7 oa).trans H.c7,
  H.v.keep (fun q e=>hk q (.inl e)),H.l.CD (fun q e=>hk q (.inr (.inl e))),H.i.CD (fun q e=>hk q (.inr (.inr (.inl e)))),H.x.CD (fun q e=>hk q (.inr (.inr (.inr e))))⟩
theorem XK.lt{h:Hs}(H:XK lo hi w b o h t){q:Nat}(hq:h.own q):q<w.heap.size/\lo<=q/\q<hi:=by
 rcases hq with e|e|e|e
 ·rcases H.v with⟨_,h1⟩|⟨b,a,Z,g,h1,h2,h3,h4,h5,c⟩
  ·rw[h1]at e;cases e
  ·rw[h1]at e;cases e;exact⟨Ok h4,h2,h3⟩
 ·rcases H.l with⟨_,h1⟩|⟨b,a,Z,g,h1,h2,h3,h4,h5,c⟩
  ·rw[h1]at e;cases e
  ·rw[h1]at e;cases e;exact⟨Ok h4,h2,h3⟩
 ·rcases H.i with⟨_,h1⟩|⟨b,a,Z,g,h1,h2,h3,h4,h5,c⟩
  ·rw[h1]at e;cases e
  ·rw[h1]at e;cases e;exact⟨Ok h4,h2,h3⟩
 ·rcases H.x with⟨_,h1⟩|⟨b,a,Z,g,h1,h2,h3,h4,h5,c⟩
  ·rw[h1]at e;cases e
  ·rw[h1]at e;cases e;exact⟨Ok h4,h2,h3⟩
theorem XK.at{h:Hs}(H:XK lo hi w b o h t):XY w b o t:=by
 obtain⟨va,vc,e0,r0⟩:=H.v.at;obtain⟨la,lc,e1,r1⟩:=H.l.at;obtain⟨ia,ic,e2,r2⟩:=H.i.VT;obtain⟨xa,xc,e3,a⟩:=H.x.VT;exact⟨va,vc,la,lc,ia,ic,xa,xc,⟨H.c0,H.c1.trans (by rw[e0]),H.c2.trans (by rw[e1]),H.c3.trans (by rw[e2]),H.c4.trans (by rw[e3]),H.c5,H.c6,H.c7⟩,r0,⟨r1,r2,a⟩⟩
structure dN (b n:Nat) (H:Nat->Hs):Prop where
 nb:∀i,i<n->¬(H i).own b
 ij:∀i j q,i<n->j<n->(H i).own q->(H j).own q->i=j
 vl:∀i q,i<n->(H i).v.ownBlock=some q->(H i).l.ownBlock≠some q
 vi:∀i q,i<n->(H i).v.ownBlock=some q->(H i).i.ownBlock≠some q
 vx:∀i q,i<n->(H i).v.ownBlock=some q->(H i).x.ownBlock≠some q
 li:∀i q,i<n->(H i).l.ownBlock=some q->(H i).i.ownBlock≠some q
 lx:∀i q,i<n->(H i).l.ownBlock=some q->(H i).x.ownBlock≠some q
 ix:∀i q,i<n->(H i).i.ownBlock=some q->(H i).x.ownBlock≠some q
structure Bm (b n:Nat) (H:Nat->Hs) (w w':Y):Prop where
 os:w'.os=w.os
 tape:w'.tape=w.tape
 output:w'.output=w.output
 size:w.heap.size<=w'.heap.size
 block:∀k,k<w.heap.size->k≠b->(∀i,i<n->¬(H i).own k)->w'.heap[k]?=w.heap[k]?
theorem Bm.refl(b n:Nat)(H:Nat->Hs)(w:Y):Bm b n H w w:=⟨rfl,rfl,rfl,Be _,fun _ _ _ _=>rfl⟩
theorem Bm.trans{H:Nat->Hs}{u v:Y}(h:Bm b n H u v)(k:Bm b n H v w):Bm b n H u w:=
 ⟨k.os.trans h.os,k.tape.trans h.tape,k.output.trans h.output,GO h.size k.size,fun i hi h1 h2=>(k.block i (At hi h.size) h1 h2).trans (h.block i hi h1 h2)⟩
def tl(t:Tb):Nat:=1+5*t.nv+11*t.d.n+t.d.m+t.d.x+3
def JI(f:Nat->Tb)(s:Nat):Nat->Nat
 |0=>s
 |i+1=>JI f s i+tl (f i)
def mkT(t:Tb)(s:Nat):Tb:=
 ⟨(s:Int),t.nv,eE (s+1),⟨t.d.n,eD (s+1+5*t.nv),t.d.m,fun j=>((s+1+5*t.nv+11*t.d.n+j:Nat):Int),t.d.x,fun j=>((s+1+5*t.nv+11*t.d.n+t.d.m+j:Nat):Int),
  ((s+1+5*t.nv+11*t.d.n+t.d.m+t.d.x:Nat):Int),((s+1+5*t.nv+11*t.d.n+t.d.m+t.d.x+1:Nat):Int),((s+1+5*t.nv+11*t.d.n+t.d.m+t.d.x+1+1:Nat):Int)⟩⟩
theorem Rc(f:Nat->Tb)(s k:Nat):JI f s k<=s+11*Iu f k:=by
 induction k with
 |zero=>exact Be _
 |succ k ih=>
  show JI f s k+tl (f k)<=s+11*(Iu f k+tw (f k));unfold tl tw dw;omega
theorem L0(b n cap Z lo hi s:Nat)(g0:Nat->Value)(f:Nat->Tb)(H:Nat->Hs)(w:Y)(hr:w.rowIs b 94 Z g0)(hN:n*8<=Z)(hT:∀i,i<n->XK lo hi w b (i*8) (H i) (f i))(hA:dN b n H)(hw:Iu f n<=2000000000)(hs:s<=10000000000000):
  C9 64 #[.slice (some (G b 0)) n cap,J (s:Int)] w fun e w'=>(e=.returned (J (JI f s n:Int))/\(∃g,w'.rowIs b 94 Z g)/\∀i,i<n->XK lo hi w' b (i*8) (H i) (mkT (f i) (JI f s i)))/\Bm b n H w w':=by
 have cc:=ZV f n;have HR:=O hr;have HT:=O hT;have P:=O hA;clear hr hT hA
 go_enter func64,ntmps64
 go_wp2;go_loopw [1,5] (fun q i wr=>∃(k:Nat),k<=n/\i=J (k:Int)/\q=J (JI f s k:Int)/\(∃g,wr.rowIs b 94 Z g)/\(∀i,i<n->XK lo hi wr b (i*8) (H i) (if i<k then mkT (f i) (JI f s i)else f i))/\Bm b n H w wr) (fun _ i _=>n-(intOf i).toNat)
 case atStart=>exact⟨0,oa,rfl,rfl,⟨_,HR⟩,fun i hi=>by rw[C3 oa];exact HT i hi,Bm.refl _ _ _ _⟩
 case round=>
  obtain⟨k,hk,rfl,rfl,⟨g,C⟩,M,hM⟩:=hrel;by_cases a:k<n
  case neg=>
   have br:k=n:=oa;have D:=O M;have ae:=O C;have HM:=O hM;clear M C hM a;subst br;go_wp2;go_ret;exact⟨⟨rfl,⟨_,ae⟩,fun i hi=>by have:=z D i hi;rwa [DD hi]at this⟩,HM⟩
  have E:=M k a;rw[C3 (Nat.lt_irrefl k)]at E;have He:=VJ f a;have bt:tw (f k)=(f k).nv+((f k).d.n+(f k).d.m+(f k).d.x)+1:=rfl;have af:JI f s (k+1)=JI f s k+(1+5*(f k).nv+11*(f k).d.n+(f k).d.m+(f k).d.x+3):=rfl;have bu:=Rc f s k;obtain⟨r,ag⟩:∃r,r=JI f s k:=⟨_,rfl⟩;rw[<-ag]at af bu ⊢;have cd:r<=60000000000000:=oa;have bw:(f k).nv<=2000000000:=oa;have bx:(f k).d.n<=2000000000:=oa;have bz:(f k).d.m<=2000000000:=oa;have b0:(f k).d.x<=2000000000:=oa;have b1:=O af;have b2:=O ag;have A:=P.nb k a;have d0:=C.cell (i:=k*8) oa;have e0:=C.frozen (k*8);have d1:=E.c1;have d2:=E.c2;have d3:=E.c3;have d4:=E.c4;have ah:=Ok C;have B0:∀q,q≠b->(wr.setCell (G b (k*8)) (J (r:Int))).heap[q]?=wr.heap[q]?:=fun q hq=>A0 _ _ _ _ (by exact hq);have ao:Hid (Oj (f k).V (f k).nv (wr.setCell (G b (k*8)) (J (r:Int))) (H k).v lo hi):=O (E.v.keep (fun q e=>B0 q (fun c=>A (.inl (c▸e)))));have aq:Hid (Kz (f k).d.L (f k).d.n (wr.setCell (G b (k*8)) (J (r:Int))) (H k).l lo hi):=O (E.l.CD (fun q e=>B0 q (fun c=>A (.inr (.inl (c▸e))))));have ar:Hid (Hb (f k).d.I (f k).d.m (wr.setCell (G b (k*8)) (J (r:Int))) (H k).i lo hi):=O (E.i.CD (fun q e=>B0 q (fun c=>A (.inr (.inr (.inl (c▸e)))))));have au:Hid (Hb (f k).d.X (f k).d.x (wr.setCell (G b (k*8)) (J (r:Int))) (H k).x lo hi):=O (E.x.CD (fun q e=>B0 q (fun c=>A (.inr (.inr (.inr (c▸e)))))));have av:Hid (∀q,(H k).own q->q<wr.heap.size):=O (fun q hq=>(E.lt hq).1);have D:=O M;have ae:=O C;have HM:=O hM;have b3:=O B0;clear M C hM E He bt af ag B0;go_wp2_with fail;have B:=cB (s:=r+1) ao bw oa;rw[show((r+1:Nat):Int)=(r:Int)+1 by omega]at B;refine B.mono ?_;rintro e w1 ⟨⟨rfl,hv⟩,Q⟩;have l1:b<w1.heap.size:=At (by simpa using ah) Q.size;have aw:=Q.block b (by simpa using ah) (fun c=>A (.inl c));have ai:Hid (∀q,w1.cell? (G b q)=(wr.setCell (G b (k*8)) (J (r:Int))).cell? (G b q)):=O (fun q=>As aw);have p2:w1.cell? (G b (k*8+2))=some (H k).l:=(ai _).trans ((Aa oa).trans d2);have p3:w1.cell? (G b (k*8+3))=some (H k).i:=(ai _).trans ((Aa oa).trans d3);have p4:w1.cell? (G b (k*8+4))=some (H k).x:=(ai _).trans ((Aa oa).trans d4);have ax:Hid (∀q,(H k).own q->q<w1.heap.size):=O (fun q hq=>At (by simpa using z av q hq) Q.size);have K1:∀q,(H k).own q->(H k).v.ownBlock≠some q->w1.heap[q]?=(wr.setCell (G b (k*8)) (J (r:Int))).heap[q]?:=fun q hq hn=>Q.block q (by simpa using z av q hq) hn;have ay:=O hv;have az:=O (aq.CD (fun q e=>K1 q (.inr (.inl e)) (fun c=>P.vl k q a c e)));have aM:=O (ar.CD (fun q e=>K1 q (.inr (.inr (.inl e))) (fun c=>P.vi k q a c e)));have a6:=O (au.CD (fun q e=>K1 q (.inr (.inr (.inr e))) (fun c=>P.vx k q a c e)));have o:=O Q;clear B Q hv aw K1 ao aq ar au d0 e0 d1 d2 d3 d4;go_wp2_with fail;have B:=YZ (s:=r+1+5*(f k).nv) az bx oa;refine B.mono ?_;rintro e w2 ⟨⟨rfl,hl⟩,R⟩;have l2:b<w2.heap.size:=At l1 R.size;have a7:=R.block b l1 (fun c=>A (.inr (.inl c)));have a8:Hid (∀q,w2.cell? (G b q)=w1.cell? (G b q)):=O (fun q=>As a7);have q3:=(a8 _).trans p3;have q4:=(a8 _).trans p4;have bb:Hid (∀q,(H k).own q->q<w2.heap.size):=O (fun q hq=>At (ax q hq) R.size);have K2:∀q,(H k).own q->(H k).l.ownBlock≠some q->w2.heap[q]?=w1.heap[q]?:=fun q hq hn=>R.block q (ax q hq) hn;have bc:=O (ay.keep (fun q e=>K2 q (.inl e) (fun c=>P.vl k q a e c)));have bd:=O hl;have bf:=O (aM.CD (fun q e=>K2 q (.inr (.inr (.inl e))) (fun c=>P.li k q a c e)));have bg:=O (a6.CD (fun q e=>K2 q (.inr (.inr (.inr e))) (fun c=>P.lx k q a c e)));have t:=O R;clear B R hl a7 K2 ay az aM a6 p2 p3 p4;go_wp2_with fail;have B:=Sv (s:=r+1+5*(f k).nv+11*(f k).d.n) bf bz oa;refine B.mono ?_;rintro e w3 ⟨⟨rfl,hi⟩,S⟩;have l3:b<w3.heap.size:=At l2 S.size;have bh:=S.block b l2 (fun c=>A (.inr (.inr (.inl c))));have b4:Hid (∀q,w3.cell? (G b q)=w2.cell? (G b q)):=O (fun q=>As bh);have t4:=(b4 _).trans q4;have b5:Hid (∀q,(H k).own q->q<w3.heap.size):=O (fun q hq=>At (bb q hq) S.size);have K3:∀q,(H k).own q->(H k).i.ownBlock≠some q->w3.heap[q]?=w2.heap[q]?:=fun q hq hn=>S.block q (bb q hq) hn;have bj:=O (bc.keep (fun q e=>K3 q (.inl e) (fun c=>P.vi k q a e c)));have bk:=O (bd.CD (fun q e=>K3 q (.inr (.inl e)) (fun c=>P.li k q a e c)));have bm:=O hi;have bn:=O (bg.CD (fun q e=>K3 q (.inr (.inr (.inr e))) (fun c=>P.ix k q a c e)));have u:=O S;clear B S hi bh K3 bc bd bf bg q3 q4;go_wp2_with fail;have B:=Sv (s:=r+1+5*(f k).nv+11*(f k).d.n+(f k).d.m) bn b0 oa;refine B.mono ?_;rintro e w4 ⟨⟨rfl,hx⟩,F⟩;have l4:b<w4.heap.size:=At l3 F.size;have aj:=F.block b l3 (fun c=>A (.inr (.inr (.inr c))));have cg:Hid (∀q,w4.cell? (G b q)=w3.cell? (G b q)):=O (fun q=>As aj);have K4:∀q,(H k).own q->(H k).x.ownBlock≠some q->w4.heap[q]?=w3.heap[q]?:=fun q hq hn=>F.block q (b5 q hq) hn;have b6:=O (bj.keep (fun q e=>K4 q (.inl e) (fun c=>P.vx k q a e c)));have b7:=O (bk.CD (fun q e=>K4 q (.inr (.inl e)) (fun c=>P.lx k q a e c)));have b8:=O (bm.CD (fun q e=>K4 q (.inr (.inr (.inl e))) (fun c=>P.ix k q a e c)));have b9:=O hx;have eb:w4.heap[b]?=(wr.setCell (G b (k*8)) (J (r:Int))).heap[b]?:=aj.trans ((O (p:=True) trivial |> fun _=>u.block b l2 (fun c=>A (.inr (.inr (.inl c))))).trans ((t.block b l1 (fun c=>A (.inr (.inl c)))).trans (o.block b (by simpa using ah) (fun c=>A (.inl c)))));have re:=RC (ae.set (k*8) (J (r:Int))) eb;have HO:Hid (∀q,q<wr.heap.size->q≠b->¬(H k).own q->w4.heap[q]?=wr.heap[q]?):=O (fun q hq h1 h2=>by
   have z1:=o.size;simp at z1;have z2:=t.size;have z3:=u.size;exact(F.block q oa (fun c=>h2 (.inr (.inr (.inr c))))).trans ((u.block q oa (fun c=>h2 (.inr (.inr (.inl c))))).trans ((t.block q oa (fun c=>h2 (.inr (.inl c)))).trans ((o.block q (by simpa using hq) (fun c=>h2 (.inl c))).trans (b3 q h1)))))
  have T:Hid (∀q,q≠k*8->w4.cell? (G b q)=wr.cell? (G b q)):=O (fun q hq=>(As eb).trans (Aa (Ne.symm hq)));have ca:Hid (w4.cell? (G b (k*8))=some (J (r:Int))):=O (by rw[re.cell oa];simp);have U:Hid (w4.os=wr.os/\w4.tape=wr.tape/\w4.output=wr.output/\wr.heap.size<=w4.heap.size):=O (by
   have z1:=o.size;simp at z1;have z2:=t.size;have z3:=u.size;exact⟨F.os.trans (u.os.trans (t.os.trans o.os)),F.tape.trans (u.tape.trans (t.tape.trans o.tape)),F.output.trans (u.output.trans (t.output.trans o.output)),oj F.size⟩)
  have d5:=re.cell (i:=k*8+5) oa;have e5:=re.frozen (k*8+5);have d6:=re.cell (i:=k*8+6) oa;have e6:=re.frozen (k*8+6);have d7:=re.cell (i:=k*8+7) oa;have e7:=re.frozen (k*8+7);have cb:=O re;obtain⟨x,ak⟩:∃x:Nat,x=r+1+5*(f k).nv+11*(f k).d.n+(f k).d.m+(f k).d.x:=⟨_,rfl⟩;have ch:x<=100000000000000:=oa;rw[<-ak];have W:=O ak;clear B F hx aj K4 bj bk bm bn t4 eb re ak o t u;go_wp2;go_roundw
  case rel=>
   have hS:∀q,q≠b->(((w4.setCell (G b (k*8+5)) (J (x:Int))).setCell (G b (k*8+6)) (J ((x:Int)+1))).setCell (G b (k*8+7)) (J ((x:Int)+1+1))).heap[q]?=w4.heap[q]?:=fun q hq=>
    (A0 _ _ _ _ (by exact hq)).trans ((A0 _ _ _ _ (by exact hq)).trans (A0 _ _ _ _ (by exact hq)))
   have hC:∀q,q≠k*8+5->q≠k*8+6->q≠k*8+7->(((w4.setCell (G b (k*8+5)) (J (x:Int))).setCell (G b (k*8+6)) (J ((x:Int)+1))).setCell (G b (k*8+7)) (J ((x:Int)+1+1))).cell? (G b q)=w4.cell? (G b q):=fun q h5 h6 h7=>
    (Aa (Ne.symm h7)).trans ((Aa (Ne.symm h6)).trans (Aa (Ne.symm h5)))
   have K:=((cb.set (k*8+5) (J (x:Int))).set (k*8+6) (J ((x:Int)+1))).set (k*8+7) (J ((x:Int)+1+1));have ad:∀q,(H k).own q->q≠b:=fun q hq e=>A (e▸hq);refine⟨k+1,oa,oh,?_,⟨_,K⟩,fun i hi=>?_,?_⟩
   ·rw[z b1];have:=z W
    congr 1
    omega
   ·by_cases e:i=k
    ·subst e;rw[DD (Nat.lt_succ_self _),<-z b2];refine⟨(hC _ oa oa oa).trans ca,(hC _ oa oa oa).trans ((T _ oa).trans ?_),(hC _ oa oa oa).trans ((T _ oa).trans ?_),(hC _ oa oa oa).trans ((T _ oa).trans ?_),(hC _ oa oa oa).trans ((T _ oa).trans ?_),?_,?_,?_,b6.keep (fun q h=>hS q (ad q (.inl h))),b7.CD (fun q h=>hS q (ad q (.inr (.inl h)))),b8.CD (fun q h=>hS q (ad q (.inr (.inr (.inl h))))),b9.CD (fun q h=>hS q (ad q (.inr (.inr (.inr h)))))⟩
     ·exact(D i hi).c1
     ·exact(D i hi).c2
     ·exact(D i hi).c3
     ·exact(D i hi).c4
     ·rw[K.cell oa];simp[mkT,z W]
     ·rw[K.cell oa];simp[mkT,z W]
     ·rw[K.cell oa];simp[mkT,z W]
    ·have bp:=z D i hi;have e2:(if i<k+1 then mkT (f i) (JI f s i)else f i)=(if i<k then mkT (f i) (JI f s i)else f i):=by
      by_cases h:i<k
      ·rw[DD h,DD oa]
      ·rw[C3 h,C3 oa]
     rw[e2];refine bp.keep (fun q hq=>?_) (fun j hj=>(hC _ oa oa oa).trans (T _ oa));have bq:q≠b:=fun c=>P.nb i hi (c▸hq);exact(hS q bq).trans (HO q (bp.lt hq).1 bq (fun c=>e (P.ij i k q hi a hq c)))
   ·refine HM.trans ⟨U.1,U.2.1,U.2.2.1,by simpa using U.2.2.2,fun q hq h1 h2=>(hS q h1).trans (HO q hq h1 (h2 k a))⟩
  case measure=>simp[intOf];omega
def Gh(v0 v1 v2:V9)(b:Nat):Prop:=v0.ownBlock=some b\/v1.ownBlock=some b\/v2.ownBlock=some b
structure AH (w:Y) (c o B:Nat) (v0 v1 v2:V9) (d:Dc):Prop where
 lt:c<w.heap.size
 c0:w.cell? (G c o)=some v0
 c1:w.cell? (G c (o+1))=some v1
 c2:w.cell? (G c (o+2))=some v2
 c3:w.cell? (G c (o+3))=some (J d.used)
 c4:w.cell? (G c (o+4))=some (J d.live)
 c5:w.cell? (G c (o+5))=some (J d.turns)
 fz:∀q,w.frozen? (G c q)=false
 log:Ck w B v0 d.n d.L
 ints:BG w B v1 d.m d.I
 index:BG w B v2 d.x d.X
 ap:∀q,v1.ownBlock=some q->v2.ownBlock≠some q
 nc:¬Gh v0 v1 v2 c
 base:B<=w.heap.size
def XI(w w':Y)(c:Nat):Prop:=∀cs ty,w.heap[c]?=some (.cells cs ty (0,0))->∃a,w'.heap[c]?=some (.cells a ty (0,0))/\a.size=cs.size
theorem XI.same(h:w'.heap[c]?=w.heap[c]?):XI w w' c:=fun cs ty e=>⟨cs,h.trans e,rfl⟩
theorem XI.trans{a:Y}(h:XI w w' c)(k:XI w' a c):XI w a c:=fun cs ty e=>by
 obtain⟨d,h1,h2⟩:=h cs ty e;obtain⟨b,k1,k2⟩:=k d ty h1;exact⟨b,k1,k2.trans h2⟩
theorem XI.set(w:Y)(c:Nat)(a:Addr)(u:V9):XI w (w.setCell a u) c:=fun cs ty e=>by
 by_cases h:c=a.block
 ·subst h;exact⟨if a.spot.isSome=true then cs else cs.setIfInBounds a.off u,by simp[World.setCell,Array.getElem?_modify,e],by split<;>simp⟩
 ·exact⟨cs,(A0 _ _ _ _ h).trans e,rfl⟩
structure CQ (c o:Nat) (v0 v1 v2:V9) (w:Y) (u0 u1 u2:V9) (w':Y):Prop where
 os:w'.os=w.os
 tape:w'.tape=w.tape
 output:w'.output=w.output
 size:w.heap.size<=w'.heap.size
 block:∀b,b<w.heap.size->b≠c->¬Gh v0 v1 v2 b->w'.heap[b]?=w.heap[b]?
 cell:∀q,(q<o\/o+6<=q)->w'.cell? (G c q)=w.cell? (G c q)
 sub:∀b,Gh u0 u1 u2 b->Gh v0 v1 v2 b\/w.heap.size<=b
 ty:XI w w' c
theorem CQ.refl(c o:Nat)(v0 v1 v2:V9)(w:Y):CQ c o v0 v1 v2 w v0 v1 v2 w:=⟨rfl,rfl,rfl,Be _,fun _ _ _ _=>rfl,fun _ _=>rfl,fun _ h=>.inl h,.same rfl⟩
theorem CQ.trans{t0 t1 t2:V9}{a:Y}(h:CQ c o v0 v1 v2 w u0 u1 u2 w')(k:CQ c o u0 u1 u2 w' t0 t1 t2 a):CQ c o v0 v1 v2 w t0 t1 t2 a:=
 ⟨k.os.trans h.os,k.tape.trans h.tape,k.output.trans h.output,GO h.size k.size,fun b hb hc d=>(k.block b (At hb h.size) hc (fun e=>(h.sub b e).elim d (fun e'=>absurd hb oa))).trans (h.block b hb hc d),fun q hq=>(k.cell q hq).trans (h.cell q hq),fun b hb=>(k.sub b hb).elim (h.sub b) (fun e=>.inr (GO h.size e)),h.ty.trans k.ty⟩
theorem CQ.Ar(h:B9 w w')(hc:c<w.heap.size):CQ c o v0 v1 v2 w v0 v1 v2 w':=
 ⟨h.os,h.tape,h.output,h.size,fun b hb _ _=>h.block b hb,fun q _=>h.cell (p:=(G c q)) hc,fun _ e=>.inl e,.same (h.block c hc)⟩
theorem AH.Up(h:AH w c o B v0 v1 v2 d){b:Nat}(e:Gh v0 v1 v2 b):B<=b/\b<w.heap.size:=by
 rcases e with e|e|e
 ·exact h.log.lt b e
 ·exact h.ints.lt b e
 ·exact h.index.lt b e
theorem AH.below(h:AH w c o B v0 v1 v2 d)(hb:B9 w w'):AH w' c o B v0 v1 v2 d:=by
 have e:∀q,w'.cell? (G c q)=w.cell? (G c q):=fun q=>hb.cell (p:=(G c q)) h.lt;exact⟨At h.lt hb.size,(e _).trans h.c0,(e _).trans h.c1,(e _).trans h.c2,(e _).trans h.c3,(e _).trans h.c4,(e _).trans h.c5,fun q=>om hb h.lt (h.fz q),Ed h.log hb.size (fun q _ hq=>hb.block q hq),Ed h.ints hb.size (fun q _ hq=>hb.block q hq),Ed h.index hb.size (fun q _ hq=>hb.block q hq),h.ap,h.nc,GO h.base hb.size⟩
theorem AH.ptr(h:AH w c o B v0 v1 v2 d):∃la lc ia ic xa xc,v0=.slice la d.n lc/\v1=.slice ia d.m ic/\v2=.slice xa d.x xc/\KC w c o la lc ia ic xa xc d:=by
 obtain⟨la,lc,e0,a⟩:=h.log.at;obtain⟨ia,ic,e1,b⟩:=h.ints.at;obtain⟨xa,xc,e2,e⟩:=h.index.at;subst e0 e1 e2;exact⟨la,lc,ia,ic,xa,xc,rfl,rfl,rfl,h.lt,h.c0,h.c1,h.c2,h.c3,h.c4,h.c5,a,b,e⟩
theorem AH.of_same{e:Dc}(h:AH w c o B v0 v1 v2 d)(n:e.n=d.n)(L:∀i,i<d.n->e.L i=d.L i)(m:e.m=d.m)(I:∀i,i<d.m->e.I i=d.I i)(x:e.x=d.x)(X:∀i,i<d.x->e.X i=d.X i)(hu:e.used=d.used)(hl:e.live=d.live)(b:e.turns=d.turns):AH w c o B v0 v1 v2 e:=by
 have k:∀(f g:Nat->Pr) (n:Nat),(∀i,i<n->f i=g i)->pL f n=pL g n:=by
  intro f g n a
  induction n with
  |zero=>rfl
  |succ n ih=>show pL f n++Db (f n)=pL g n++Db (g n);rw[ih (fun j hj=>a j oa),a n oa]
 have hi:∀(f g:Nat->Int) (n:Nat),(∀i,i<n->f i=g i)->iL f n=iL g n:=by
  intro f g n a
  induction n with
  |zero=>rfl
  |succ n ih=>show iL f n++[_]=iL g n++[_];rw[ih (fun j hj=>a j oa),a n oa]
 refine⟨h.lt,h.c0,h.c1,h.c2,by rw[hu];exact h.c3,by rw[hl];exact h.c4,by rw[b];exact h.c5,h.fz,?_,?_,?_,h.ap,h.nc,h.base⟩
 ·show w.ownsRow _ _ _ _ e.n (pL e.L e.n);rw[n,k e.L d.L d.n L];exact h.log
 ·show w.ownsRow _ _ _ _ e.m (iL e.I e.m);rw[m,hi e.I d.I d.m I];exact h.ints
 ·show w.ownsRow _ _ _ _ e.x (iL e.X e.x);rw[x,hi e.X d.X d.x X];exact h.index
theorem BG.form{f:Nat->Int}(h:BG w B v n f)(hn:0<n):∃g a,v=S9 g n a/\B<=g/\g<w.heap.size/\n<=a/\(∀i,i<n->w.cell? (G g i)=some (J (f i)))/\∀q,w.frozen? (G g q)=false:=by
 have h':=h;obtain⟨hl,⟨b,d⟩|⟨g,cap,cur,b,hb,c,h1,h2,h3,h4⟩⟩:=h'
 ·omega
 ·subst b;exact⟨g,cap,rfl,hb,(h.lt g rfl).2,h1,fun i hi=>by rw[IH h _ oa,F7 hi],fun q=>World.ownsRow.frozenAt h q⟩
theorem Ck.form{f:Nat->Pr}(h:Ck w B v n f)(hn:0<n):∃g a,v=S9 g n a/\B<=g/\g<w.heap.size/\n<=a/\(∀i,i<n->Hc w g (i*11) (f i))/\∀q,w.frozen? (G g q)=false:=by
 have h':=h;obtain⟨hl,⟨b,d⟩|⟨g,cap,cur,b,hb,c,h1,h2,h3,h4⟩⟩:=h'
 ·omega
 ·subst b;refine⟨g,cap,rfl,hb,(h.lt g rfl).2,h1,fun i hi=>Hc.of fun j u hu=>?_,fun q=>World.ownsRow.frozenAt h q⟩;have hj:j<11:=by
   have:=(It.1 hu).1;simpa[Db]using this
  rw[IH h _ oa,Ig hi hj,hu]
theorem fO(f:Nat->Int)(n i:Nat)(x:Int)(hi:i<n):(iL f n).set i (J x)=iL (AP f i x) n:=by
 apply AaQ;intro q;rw[List.getElem?_set];by_cases hq:q<n
 ·by_cases e:i=q
  ·subst e;rw[DD rfl,DD (by rw[BL];omega),F7 hq,Ao]
  ·rw[C3 e,F7 hq,F7 hq,Af _ _ (fun e'=>e e'.symm)]
 ·rw[C3 oa,NB (by rw[BL];omega),NB (by rw[BL];omega)]
theorem BG.set{f:Nat->Int}(h:BG w B (S9 g n a) n f){i:Nat}(hi:i<n)(x:Int):BG (w.setCell (G g i) (J x)) B (S9 g n a) n (AP f i x):=by
 have h1:=(X9 h i (J x)).1;rw[fO f n i x hi]at h1;exact h1
theorem A7{size:Nat}(h:w.ownsRow B e size v n xs){a:Addr}(u:V9)(b:v.ownBlock≠some a.block):(w.setCell a u).ownsRow B e size v n xs:=
 World.ownsRow.kept h (DN w a u) (.inr b)
theorem Dy{B':Nat}{f:Nat->Pr}{f':Nat->Int}(h:Ck w B v n f)(h':BG w B' v' n' f'){q:Nat}(e:v.ownBlock=some q):v'.ownBlock≠some q:=by
 intro e';obtain⟨_,⟨rfl,_⟩|⟨g,cap,cur,rfl,hb,b,_⟩⟩:=h
 ·cases e
 ·obtain⟨_,⟨rfl,_⟩|⟨g',c,d,rfl,i,a,_⟩⟩:=h'
  ·cases e'
  ·simp[Value.ownBlock]at e e';subst e e';rw[b]at a;cases a
theorem Cq(h:w.cell? (G b o)=some u):(w.setCell (G b o) v).cell? (G b o)=some v:=NX _ _ _ (by rw[h];rfl)
theorem CY(u:V9)(hq:o<=q/\q<o+6)(hs:∀b,Gh u0 u1 u2 b->Gh v0 v1 v2 b\/w.heap.size<=b):CQ c o v0 v1 v2 w u0 u1 u2 (w.setCell (G c q) u):=
 ⟨rfl,rfl,rfl,od,fun b _ hc _=>A0 _ _ _ _ (by exact hc),fun p a=>Aa oa,hs,.set _ _ _ _⟩
theorem EL(u:V9)(a:Gh v0 v1 v2 g)(hc:g≠c):CQ c o v0 v1 v2 w v0 v1 v2 (w.setCell (G g q) u):=
 ⟨rfl,rfl,rfl,od,fun b _ _ d=>A0 _ _ _ _ (fun e=>d (by have e:b=g:=e;rw[e];exact a)),fun p _=>Aq hc,fun b e=>.inl e,.set _ _ _ _⟩
section
variable {w:Y} {c o B:Nat} {v0 v1 v2:V9} {d:Dc}
theorem AH.Dr(h:AH w c o B v0 v1 v2 d){q:Nat}{u:V9}{u0 u1 u2:V9}{e:Dc}
  (g0:(w.setCell (G c q) u).cell? (G c o)=some u0) (g1:(w.setCell (G c q) u).cell? (G c (o+1))=some u1) (g2:(w.setCell (G c q) u).cell? (G c (o+2))=some u2)
  (g3:(w.setCell (G c q) u).cell? (G c (o+3))=some (J e.used)) (g4:(w.setCell (G c q) u).cell? (G c (o+4))=some (J e.live)) (g5:(w.setCell (G c q) u).cell? (G c (o+5))=some (J e.turns))
  (l:Ck w B u0 e.n e.L) (i:BG w B u1 e.m e.I) (x:BG w B u2 e.x e.X) (ap:∀q,u1.ownBlock=some q->u2.ownBlock≠some q) (nc:¬Gh u0 u1 u2 c):AH (w.setCell (G c q) u) c o B u0 u1 u2 e:=
 ⟨by simpa using h.lt,g0,g1,g2,g3,g4,g5,fun p=>by rw[TC];exact h.fz p,A7 l _ (fun e=>nc (.inl e)),A7 i _ (fun e=>nc (.inr (.inl e))),A7 x _ (fun e=>nc (.inr (.inr e))),ap,nc,by simpa using h.base⟩
theorem AH.iF(h:AH w c o B v0 v1 v2 d){u:V9}{n:Nat}{L:Nat->Pr}(l:Ck w B u n L)(nc:u.ownBlock≠some c):AH (w.setCell (G c o) u) c o B u v1 v2 {d with n:=n,L:=L}:=
 h.Dr (Cq h.c0) ((Aa oa).trans h.c1) ((Aa oa).trans h.c2) ((Aa oa).trans h.c3) ((Aa oa).trans h.c4) ((Aa oa).trans h.c5) l h.ints h.index h.ap (fun e=>e.elim nc (fun e=>h.nc (.inr e)))
theorem AH.Q4(h:AH w c o B v0 v1 v2 d){u:V9}{m:Nat}{I:Nat->Int}(l:BG w B u m I)(nc:u.ownBlock≠some c)(ap:∀q,u.ownBlock=some q->v2.ownBlock≠some q):AH (w.setCell (G c (o+1)) u) c o B v0 u v2 {d with m:=m,I:=I}:=
 h.Dr ((Aa oa).trans h.c0) (Cq h.c1) ((Aa oa).trans h.c2) ((Aa oa).trans h.c3) ((Aa oa).trans h.c4) ((Aa oa).trans h.c5) h.log l h.index ap (fun e=>e.elim (fun e=>h.nc (.inl e)) (fun e=>e.elim nc (fun e=>h.nc (.inr (.inr e)))))
theorem AH.setIndex(h:AH w c o B v0 v1 v2 d){u:V9}{x:Nat}{X:Nat->Int}(l:BG w B u x X)(nc:u.ownBlock≠some c)(ap:∀q,v1.ownBlock=some q->u.ownBlock≠some q):AH (w.setCell (G c (o+2)) u) c o B v0 v1 u {d with x:=x,X:=X}:=
 h.Dr ((Aa oa).trans h.c0) ((Aa oa).trans h.c1) (Cq h.c2) ((Aa oa).trans h.c3) ((Aa oa).trans h.c4) ((Aa oa).trans h.c5) h.log h.ints l ap (fun e=>e.elim (fun e=>h.nc (.inl e)) (fun e=>e.elim (fun e=>h.nc (.inr (.inl e))) nc))
theorem AH.Km(h:AH w c o B v0 v1 v2 d)(u:Int):AH (w.setCell (G c (o+3)) (J u)) c o B v0 v1 v2 {d with used:=u}:=
 h.Dr ((Aa oa).trans h.c0) ((Aa oa).trans h.c1) ((Aa oa).trans h.c2) (Cq h.c3) ((Aa oa).trans h.c4) ((Aa oa).trans h.c5) h.log h.ints h.index h.ap h.nc
theorem AH.G3(h:AH w c o B v0 v1 v2 d)(u:Int):AH (w.setCell (G c (o+4)) (J u)) c o B v0 v1 v2 {d with live:=u}:=
 h.Dr ((Aa oa).trans h.c0) ((Aa oa).trans h.c1) ((Aa oa).trans h.c2) ((Aa oa).trans h.c3) (Cq h.c4) ((Aa oa).trans h.c5) h.log h.ints h.index h.ap h.nc
theorem AH.NV(h:AH w c o B v0 v1 v2 d)(u:Int):AH (w.setCell (G c (o+5)) (J u)) c o B v0 v1 v2 {d with turns:=u}:=
 h.Dr ((Aa oa).trans h.c0) ((Aa oa).trans h.c1) ((Aa oa).trans h.c2) ((Aa oa).trans h.c3) ((Aa oa).trans h.c4) (Cq h.c5) h.log h.ints h.index h.ap h.nc
theorem AH.gX(h:AH w c o B v0 v1 v2 d){g q:Nat}{u:V9}(a:Gh v0 v1 v2 g){e:Dc}(hu:e.used=d.used)(hl:e.live=d.live)(b:e.turns=d.turns)
  (l:Ck (w.setCell (G g q) u) B v0 e.n e.L) (i:BG (w.setCell (G g q) u) B v1 e.m e.I) (x:BG (w.setCell (G g q) u) B v2 e.x e.X):AH (w.setCell (G g q) u) c o B v0 v1 v2 e:=by
 have hc:g≠c:=fun e=>h.nc (e▸a);exact⟨by simpa using h.lt,(Aq hc).trans h.c0,(Aq hc).trans h.c1,(Aq hc).trans h.c2,by rw[hu];exact(Aq hc).trans h.c3,by rw[hl];exact(Aq hc).trans h.c4,by rw[b];exact(Aq hc).trans h.c5,fun p=>by rw[TC];exact h.fz p,l,i,x,h.ap,h.nc,by simpa using h.base⟩
end
theorem AH.SN(h:AH w c o B v0 v1 (S9 g d.x a) d){i:Nat}(hi:i<d.x)(x:Int):AH (w.setCell (G g i) (J x)) c o B v0 v1 (S9 g d.x a) {d with X:=AP d.X i x}:=
 h.gX (.inr (.inr rfl)) rfl rfl rfl (A7 h.log _ (fun e=>Dy h.log h.index e rfl)) (A7 h.ints _ (fun e=>h.ap _ e rfl)) (h.index.set hi x)
theorem AH.Xb(h:AH w c o B v0 (S9 g d.m a) v2 d){i:Nat}(hi:i<d.m)(x:Int):AH (w.setCell (G g i) (J x)) c o B v0 (S9 g d.m a) v2 {d with I:=AP d.I i x}:=
 h.gX (.inr (.inl rfl)) rfl rfl rfl (A7 h.log _ (fun e=>Dy h.log h.ints e rfl)) (h.ints.set hi x) (A7 h.index _ (fun e=>h.ap _ rfl e))
theorem cY(ob:Obj)(u:V9)(hc:c<w.heap.size)(hq:o<=q/\q<o+6)(hs:∀b,Gh u0 u1 u2 b->Gh v0 v1 v2 b\/w.heap.size<=b):CQ c o v0 v1 v2 w u0 u1 u2 ((w.alloc ob).setCell (G c q) u):=
 ⟨rfl,rfl,rfl,od,fun b hb hc _=>(A0 _ _ _ _ (by exact hc)).trans (DO _ _ _ hb),fun p a=>(Aa oa).trans (GP _ _ _ (by exact hc)),hs,(XI.same (DO _ _ _ hc)).trans (.set _ _ _ _)⟩
theorem Li{w3:Y}{row:Option Nat}(u:V9)(a:w.grownBy w3 row)(d:∀b,row=some b->Gh v0 v1 v2 b\/w.heap.size<=b)(hc:c<w.heap.size)(hn:row≠some c)(hq:o<=q/\q<o+6)(hs:∀b,Gh u0 u1 u2 b->Gh v0 v1 v2 b\/w.heap.size<=b):CQ c o v0 v1 v2 w u0 u1 u2 (w3.setCell (G c q) u):=
 ⟨a.os,a.tape,a.output,by simpa using a.size,fun b hb hc f=>(A0 _ _ _ _ (by exact hc)).trans (a.block b hb (fun e=>(d b e.symm).elim f (fun e'=>oa))),fun p g=>(Aa oa).trans (As (a.block c hc (fun e=>hn e.symm))),hs,(XI.same (a.block c hc (fun e=>hn e.symm))).trans (.set _ _ _ _)⟩
theorem bP(n:Nat):(madeCells #[Value.int .i64 0] n).toList=iL (fun _=>0) n:=by
 rw[toList_madeCells_one]
 induction n with
 |zero=>rfl
 |succ n ih=>rw[List.replicate_succ'];show _=iL (fun _=>0) n++[J 0];rw[<-ih]
theorem BG.made(w:Y)(B n:Nat)(hb:B<=w.heap.size)(hn:n<=4194304):BG (w.alloc (.cells (madeCells #[Value.int .i64 0] n) 3)) B (S9 w.heap.size n n) n (fun _=>0):=by
 have h:=World.ownsRow_lit (base:=B) (e:=3) (size:=1) w (madeCells #[Value.int .i64 0] n) n hb (by unfold maxLen;omega) (by rw[size_madeCells];omega);rw[bP]at h;exact h
theorem BG.cut(h:BG w B (S9 g m b) m I){n:Nat}(hn:n<=m):BG w B (S9 g n b) n I:=by
 obtain⟨hl,⟨c,i⟩|⟨g',cap,cur,c,hb,a,h1,h2,h3,h4⟩⟩:=h
 ·cases c
 ·cases c;refine⟨by rw[BL];omega,.inr ⟨g,b,cur,rfl,hb,a,oa,h2,h3,?_⟩⟩;have e:∀j,iL I (n+j)=iL I n++(iL I (n+j)).drop n:=by
   intro j;have d:iL I n<+:iL I (n+j):=by
    induction j with
    |zero=>exact List.prefix_refl _
    |succ j ih=>exact ih.trans (List.prefix_append _ _)
   obtain⟨t,f⟩:=d;rw[<-f]
   congr 1
   rw[List.drop_append_of_le_length (by rw[BL];omega),List.drop_of_length_le (by rw[BL];omega)];rfl
  have e':=e (m-n);rw[show n+(m-n)=m by omega]at e';have:cur.toList.take (n*1)=(cur.toList.take (m*1)).take n:=by rw[List.take_take];congr 1;omega
  rw[this,h4,e',List.take_append_of_le_length (by rw[BL];omega),List.take_of_length_le (by rw[BL];omega)]
def Ks(h:Hs)(t:Tb):List Value:=[J t.shape,h.v,h.l,h.i,h.x,J t.d.used,J t.d.live,J t.d.turns]
def UK(H:Nat->Hs)(T:Nat->Tb)(n:Nat):List Value:=JF (fun i=>Ks (H i) (T i)) n
theorem UL(H:Nat->Hs)(T:Nat->Tb)(n:Nat):(UK H T n).length=n*8:=Ch (m:=8) (f:=fun i=>Ks (H i) (T i)) (fun _=>rfl) n
theorem Kr{H:Nat->Hs}(hi:i<n)(hj:j<8):(UK H T n)[i*8+j]?=(Ks (H i) (T i))[j]?:=GZ (m:=8) (fun _=>rfl) hi hj
theorem Xt{H H':Nat->Hs}{T':Nat->Tb}(h:∀i,i<n->Ks (H i) (T i)=Ks (H' i) (T' i)):UK H T n=UK H' T' n:=CW h
theorem ZU(H:Nat->Hs)(T:Nat->Tb)(n:Nat)(h:Hs)(t:Tb):UK H T n++Ks h t=UK (AY H n h) (AY T n t) (n+1):=by
 unfold UK;rw[JF,Ak,Ak,CW (f:=fun i=>Ks (H i) (T i)) (g:=fun i=>Ks (AY H n h i) (AY T n t i)) (fun i hi=>by rw[Al _ _ oa,Al _ _ oa])]
abbrev Rp(w:Y)(B:Nat)(v:V9)(n:Nat)(H:Nat->Hs)(T:Nat->Tb):Prop:=w.ownsRow B 94 8 v n (UK H T n)
def A5(c:Nat)(vF vT vS:V9)(H:Nat->Hs)(n k:Nat):Prop:=k=c\/vF.ownBlock=some k\/vT.ownBlock=some k\/vS.ownBlock=some k\/∃i,i<n/\(H i).own k
structure SM (w:Y) (c B:Nat) (vF vT vS:V9) (H:Nat->Hs) (s:AK):Prop where
 base:B<=c
 BB:w.heap[c]?=some (.cells #[vF,vT,vS] 42 (0,0))
 f:Ev w B vF s.nf s.F
 t:Rp w B vT s.nt H s.T
 si:Lq w B vS s.ns s.S
 v:∀i,i<s.nt->Cp w B (H i).v (s.T i).nv (s.T i).V
 l:∀i,i<s.nt->Ck w B (H i).l (s.T i).d.n (s.T i).d.L
 i:∀i,i<s.nt->BG w B (H i).i (s.T i).d.m (s.T i).d.I
 x:∀i,i<s.nt->BG w B (H i).x (s.T i).d.x (s.T i).d.X
 ap:∀i,i<s.nt->∀q,(H i).i.ownBlock=some q->(H i).x.ownBlock≠some q
 ij:∀i j q,i<s.nt->j<s.nt->(H i).own q->(H j).own q->i=j
section
variable {w w' X w3:Y} {c B:Nat} {vF vT vS:V9} {H:Nat->Hs} {s:AK}
theorem SM.lt(h:SM w c B vF vT vS H s):c<w.heap.size:=Ah h.BB
theorem SM.row(h:SM w c B vF vT vS H s){i q:Nat}(hi:i<s.nt)(e:(H i).own q):B<=q/\q<w.heap.size/\∃cur ty,w.heap[q]?=some (.cells cur ty (0,0))/\(ty=43\/ty=96\/ty=3):=by
 rcases e with e|e|e|e
 ·obtain⟨cur,h1,h2⟩:=AJ (h.v i hi) e;exact⟨h2,Ah h1,cur,_,h1,.inl rfl⟩
 ·obtain⟨cur,h1,h2⟩:=AJ (h.l i hi) e;exact⟨h2,Ah h1,cur,_,h1,.inr (.inl rfl)⟩
 ·obtain⟨cur,h1,h2⟩:=AJ (h.i i hi) e;exact⟨h2,Ah h1,cur,_,h1,.inr (.inr rfl)⟩
 ·obtain⟨cur,h1,h2⟩:=AJ (h.x i hi) e;exact⟨h2,Ah h1,cur,_,h1,.inr (.inr rfl)⟩
theorem SM.Ol(h:SM w c B vF vT vS H s){k:Nat}(hk:A5 c vF vT vS H s.nt k):B<=k/\k<w.heap.size:=by
 rcases hk with rfl|e|e|e|⟨i,hi,e⟩
 ·exact⟨h.base,h.lt⟩
 ·exact h.f.lt k e
 ·exact h.t.lt k e
 ·exact h.si.lt k e
 ·exact⟨(h.row hi e).1,(h.row hi e).2.1⟩
theorem SM.keep(h:SM w c B vF vT vS H s)(hk:∀k,A5 c vF vT vS H s.nt k->w'.heap[k]?=w.heap[k]?):SM w' c B vF vT vS H s:=
 ⟨h.base,(hk c (.inl rfl)).trans h.BB,Ae h.f fun g e=>hk g (.inr (.inl e)),Ae h.t fun g e=>hk g (.inr (.inr (.inl e))),Ae h.si fun g e=>hk g (.inr (.inr (.inr (.inl e)))),
  fun i hi=>Ae (h.v i hi) fun g e=>hk g (.inr (.inr (.inr (.inr ⟨i,hi,.inl e⟩)))),fun i hi=>Ae (h.l i hi) fun g e=>hk g (.inr (.inr (.inr (.inr ⟨i,hi,.inr (.inl e)⟩)))),
  fun i hi=>Ae (h.i i hi) fun g e=>hk g (.inr (.inr (.inr (.inr ⟨i,hi,.inr (.inr (.inl e))⟩)))),fun i hi=>Ae (h.x i hi) fun g e=>hk g (.inr (.inr (.inr (.inr ⟨i,hi,.inr (.inr (.inr e))⟩)))),h.ap,h.ij⟩
theorem SM.below(h:SM w c B vF vT vS H s)(hb:B9 w w'):SM w' c B vF vT vS H s:=h.keep fun k hk=>hb.block k (h.Ol hk).2
theorem SM.apart(h:SM w c B vF vT vS H s){i q:Nat}(hi:i<s.nt)(e:(H i).own q):q≠c/\vF.ownBlock≠some q/\vT.ownBlock≠some q/\vS.ownBlock≠some q:=by
 obtain⟨_,_,cur,ty,hb,a⟩:=h.row hi e;refine⟨fun e=>?_,fun e=>?_,fun e=>?_,fun e=>?_⟩
 ·subst e;rw[h.BB]at hb;cases hb;revert a;decide
 ·obtain⟨b,hc,_⟩:=AJ h.f e;rw[hc]at hb;cases hb;revert a;decide
 ·obtain⟨b,hc,_⟩:=AJ h.t e;rw[hc]at hb;cases hb;revert a;decide
 ·obtain⟨b,hc,_⟩:=AJ h.si e;rw[hc]at hb;cases hb;revert a;decide
theorem SM.A9(h:SM w c B vF vT vS H s){e b Z n:Nat}{v:V9}{xs:List Value}(h':w.ownsRow b e Z v n xs)(a:e≠42):v.ownBlock≠some c:=by
 intro hq;obtain⟨cur,hb,_⟩:=AJ h' hq;rw[h.BB]at hb;cases hb;exact a rfl
theorem SM.table(h:SM w c B vF vT vS H s){i:Nat}(hi:i<s.nt){h':Hs}{t':Tb}
  (a:w'.os=w.os/\w'.tape=w.tape/\w'.output=w.output/\w.heap.size<=w'.heap.size)
  (hk:∀k,k<w.heap.size->vT.ownBlock≠some k->¬(H i).own k->w'.heap[k]?=w.heap[k]?)
  (A:Rp w' B vT s.nt (AY H i h') (AY s.T i t')) (C:Cp w' B h'.v t'.nv t'.V) (hl:Ck w' B h'.l t'.d.n t'.d.L) (r:BG w' B h'.i t'.d.m t'.d.I) (hx:BG w' B h'.x t'.d.x t'.d.X) (D:∀q,h'.i.ownBlock=some q->h'.x.ownBlock≠some q)
  (u:∀q,h'.own q->(H i).own q\/w.heap.size<=q):
  SM w' c B vF vT vS (AY H i h') (BW s i t')/\Br (A5 c vF vT vS H s.nt) w (A5 c vF vT vS (AY H i h') s.nt) w':=by
 have E:w'.heap[c]?=w.heap[c]?:=hk c h.lt (h.A9 h.t oc) (fun e=>(h.apart hi e).1 rfl);have F:∀g,vF.ownBlock=some g->w'.heap[g]?=w.heap[g]?:=fun g e=>hk g (h.f.lt g e).2 (BV h.f h.t oc e) (fun e'=>(h.apart hi e').2.1 e);have ks:∀g,vS.ownBlock=some g->w'.heap[g]?=w.heap[g]?:=fun g e=>hk g (h.si.lt g e).2 (BV h.si h.t oc e) (fun e'=>(h.apart hi e').2.2.2 e);have p:∀j g,j<s.nt->j≠i->(H j).own g->w'.heap[g]?=w.heap[g]?:=fun j g hj b e=>hk g (h.row hj e).2.1 (h.apart hj e).2.2.1 (fun e'=>b (h.ij j i g hj hi e e'));refine⟨⟨h.base,E.trans h.BB,Ae h.f F,A,Ae h.si ks,fun j hj=>?_,fun j hj=>?_,fun j hj=>?_,fun j hj=>?_,fun j hj=>?_,fun j k q hj o e e'=>?_⟩,⟨a.1,a.2.1,a.2.2.1,a.2.2.2,fun k k1 k2=>hk k k1 (fun e=>k2 (.inr (.inr (.inl e)))) (fun e=>k2 (.inr (.inr (.inr (.inr ⟨i,hi,e⟩))))),fun k e=>?_⟩⟩
 ·show Cp w' B (AY H i h' j).v (AY s.T i t' j).nv (AY s.T i t' j).V;by_cases e:j=i
  ·subst e;rw[Ak,Ak];exact C
  ·rw[Al _ _ e,Al _ _ e];exact Ae (h.v j hj) fun g e2=>p j g hj e (.inl e2)
 ·show Ck w' B (AY H i h' j).l (AY s.T i t' j).d.n (AY s.T i t' j).d.L;by_cases e:j=i
  ·subst e;rw[Ak,Ak];exact hl
  ·rw[Al _ _ e,Al _ _ e];exact Ae (h.l j hj) fun g e2=>p j g hj e (.inr (.inl e2))
 ·show BG w' B (AY H i h' j).i (AY s.T i t' j).d.m (AY s.T i t' j).d.I;by_cases e:j=i
  ·subst e;rw[Ak,Ak];exact r
  ·rw[Al _ _ e,Al _ _ e];exact Ae (h.i j hj) fun g e2=>p j g hj e (.inr (.inr (.inl e2)))
 ·show BG w' B (AY H i h' j).x (AY s.T i t' j).d.x (AY s.T i t' j).d.X;by_cases e:j=i
  ·subst e;rw[Ak,Ak];exact hx
  ·rw[Al _ _ e,Al _ _ e];exact Ae (h.x j hj) fun g e2=>p j g hj e (.inr (.inr (.inr e2)))
 ·show∀q,(AY H i h' j).i.ownBlock=some q->(AY H i h' j).x.ownBlock≠some q;by_cases e:j=i
  ·subst e;rw[Ak];exact D
  ·rw[Al _ _ e];exact h.ap j hj
 ·have new:∀j q,j<s.nt->j≠i->(H j).own q->¬h'.own q:=fun j q hj b e e'=>by
   rcases u q e' with e2|e2
   ·exact b (h.ij j i q hj hi e e2)
   ·have:=(h.row hj e).2.1;omega
  by_cases e1:j=i
  ·subst e1;rw[Ak]at e;by_cases e2:k=j
   ·exact e2.symm
   ·rw[Al _ _ e2]at e';exact absurd e (new k q o e2 e')
  ·rw[Al _ _ e1]at e;by_cases e2:k=i
   ·subst e2;rw[Ak]at e';exact absurd e' (new j q hj e1 e)
   ·rw[Al _ _ e2]at e';exact h.ij j k q hj o e e'
 ·rcases e with e|e|e|e|⟨j,hj,e⟩
  ·exact .inl (.inl e)
  ·exact .inl (.inr (.inl e))
  ·exact .inl (.inr (.inr (.inl e)))
  ·exact .inl (.inr (.inr (.inr (.inl e))))
  ·by_cases e1:j=i
   ·subst e1;rw[Ak]at e;exact(u k e).elim (fun e=>.inl (.inr (.inr (.inr (.inr ⟨j,hj,e⟩))))) .inr
   ·rw[Al _ _ e1]at e;exact .inl (.inr (.inr (.inr (.inr ⟨j,hj,e⟩))))
end
theorem WW{e:TypeId}(h:w.ownsRow B e Z (S9 g n c) n xs)(hc:XI w w' g)(hl:ys.length=n*Z)(hy:∀j,j<n*Z->w'.cell? (G g j)=ys[j]?):w'.ownsRow B e Z (S9 g n c) n ys:=by
 obtain⟨_,⟨d,i⟩|⟨g',cap,cur,d,hb,a,h1,h2,h3,h4⟩⟩:=h
 ·cases d
 ·cases d;obtain⟨b,k1,k2⟩:=hc cur e a;refine⟨hl,.inr ⟨g,c,b,rfl,hb,k1,h1,h2,k2.trans h3,?_⟩⟩;have f:n*Z<=b.size:=by rw[k2,h3];exact VC _ h1
  refine AaQ fun j=>?_;rw[AaG];by_cases hj:j<n*Z
  ·rw[DD hj,<-hy j hj,MM w' g j _ _ _ k1];simp
  ·rw[C3 hj,NB oa]
section
variable {w w':Y} {c B:Nat} {vF vT vS:V9} {H:Nat->Hs} {s:AK}
theorem SM.cells(h:SM w c B vF vT vS H s):w.cell? (G c 0)=some vF/\w.cell? (G c 1)=some vT/\w.cell? (G c 2)=some vS/\∀q,w.frozen? (G c q)=false:=
 ⟨by simp[World.cell?,h.BB],by simp[World.cell?,h.BB],by simp[World.cell?,h.BB],fun q=>by simp[World.frozen?,h.BB]⟩
theorem SM.CP(h:SM w c B vF vT vS H s){t:Nat}(d:t<s.nt):∃g e,vT=.slice (some (G g 0)) s.nt e/\g<w.heap.size/\B<=g/\(∀j u,(Ks (H t) (s.T t))[j]?=some u->w.cell? (G g (t*8+j))=some u)/\∀q,w.frozen? (G g q)=false:=by
 obtain⟨hl,⟨b,f⟩|⟨g,cap,cur,b,hb,a,h1,h2,h3,h4⟩⟩:=id h.t
 ·omega
 ·refine⟨g,cap,b,Ah a,hb,fun j u hu=>?_,fun q=>by simp[World.frozen?,a]⟩;have hj:j<8:=(It.1 hu).1;rw[IH (b▸h.t) (t*8+j) oa,Kr d hj,hu]
theorem SM.iI(h:SM w c B vF vT vS H s){g a:Nat}(b:vT=.slice (some (G g 0)) s.nt a){j:Nat}(hj:j<s.nt*8):w.cell? (G g j)=(UK H s.T s.nt)[j]?:=by
 rw[IH (b▸h.t) j hj]
theorem SM.F1(h:SM w c B vF vT vS H s){i:Nat}(hi:i<s.ns):∃g d,vS=.slice (some (G g 0)) s.ns d/\g<w.heap.size/\B<=g/\(∀j u,(IZ (s.S i))[j]?=some u->w.cell? (G g (i*5+j))=some u)/\∀q,w.frozen? (G g q)=false:=by
 obtain⟨hl,⟨b,e⟩|⟨g,cap,cur,b,hb,a,h1,h2,h3,h4⟩⟩:=id h.si
 ·omega
 ·refine⟨g,cap,b,Ah a,hb,fun j u hu=>?_,fun q=>by simp[World.frozen?,a]⟩;have hj:j<5:=(It.1 hu).1;rw[IH (b▸h.si) (i*5+j) oa,Mt hi hj,hu]
theorem SM.M0(h:SM w c B vF vT vS H s)(hn:0<s.nf):∃g d,vF=.slice (some (G g 0)) s.nf d/\g<w.heap.size/\B<=g/\Cl w g s.nf s.F:=by
 obtain⟨hl,⟨b,e⟩|⟨g,cap,cur,b,hb,a,h1,h2,h3,h4⟩⟩:=id h.f
 ·omega
 ·exact⟨g,cap,b,Ah a,hb,(Ev.in (b▸h.f)).2⟩
theorem SM.jH(h:SM w c B vF vT vS H s){t:Nat}(a:t<s.nt){g f:Nat}(b:vT=S9 g s.nt f):AH w g (t*8+2) B (H t).l (H t).i (H t).x (s.T t).d:=by
 obtain⟨g',j,hv',k,hb,hc,hf⟩:=h.CP a;rw[b]at hv';cases hv';refine⟨k,hc 2 _ rfl,hc 3 _ rfl,hc 4 _ rfl,hc 5 _ rfl,hc 6 _ rfl,hc 7 _ rfl,hf,h.l t a,h.i t a,h.x t a,h.ap t a,?_,by have:=h.base;have:=h.lt;omega⟩;rintro(e|e|e)
 ·exact(h.apart a (.inr (.inl e))).2.2.1 (by rw[b];rfl)
 ·exact(h.apart a (.inr (.inr (.inl e)))).2.2.1 (by rw[b];rfl)
 ·exact(h.apart a (.inr (.inr (.inr e)))).2.2.1 (by rw[b];rfl)
theorem SM.mF(h:SM w c B vF vT vS H s){t:Nat}(a:t<s.nt){g D:Nat}(n:vT=S9 g s.nt D){u0 u1 u2:V9}{u:Dc}(f:AH w' g (t*8+2) B u0 u1 u2 u)(b:CQ g (t*8+2) (H t).l (H t).i (H t).x w u0 u1 u2 w'):
  SM w' c B vF vT vS (AY H t ⟨(H t).v,u0,u1,u2⟩) (BW s t {s.T t with d:=u})/\Br (A5 c vF vT vS H s.nt) w (A5 c vF vT vS (AY H t ⟨(H t).v,u0,u1,u2⟩) s.nt) w':=by
 have hD:=h.jH a n;have m:∀q,Gh (H t).l (H t).i (H t).x q->(H t).own q:=fun q e=>.inr e;have o:∀q,(H t).v.ownBlock=some q->w'.heap[q]?=w.heap[q]?:=fun q e=>by
  obtain⟨cur,hc,_⟩:=AJ (h.v t a) e;refine b.block q (Ah hc) (fun e'=>(h.apart a (.inl e)).2.2.1 (by rw[n,e'];rfl)) ?_;rintro(e'|e'|e')
  ·exact BV (h.v t a) (h.l t a) oc e e'
  ·exact BV (h.v t a) (h.i t a) oc e e'
  ·exact BV (h.v t a) (h.x t a) oc e e'
 refine h.table a ⟨b.os,b.tape,b.output,b.size⟩ (fun k k1 k2 k3=>b.block k k1 (fun e=>k2 (by rw[n,e];rfl)) (fun e=>k3 (m k e))) ?_ (Ae (h.v t a) o) f.log f.ints f.index f.ap (fun q e=>?_)
 ·have A:=h.t;rw[n]at A ⊢;refine WW A b.ty (UL _ _ _) fun j hj=>?_;obtain⟨i,r,C,p⟩:∃i r,r<8/\j=i*8+r:=⟨j/8,j%8,TO _ oc,oa⟩;subst p;have hi:i<s.nt:=oa;rw[Kr hi C];by_cases e:i=t
  ·subst e;rw[Ak,Ak];rcases(by omega:r=0\/r=1\/r=2\/r=3\/r=4\/r=5\/r=6\/r=7)with rfl|rfl|rfl|rfl|rfl|rfl|rfl|rfl
   ·rw[b.cell _ (.inl oa),h.iI n hj,Kr hi oc];rfl
   ·rw[b.cell _ (.inl oa),h.iI n hj,Kr hi oc];rfl
   ·exact f.c0
   ·exact f.c1
   ·exact f.c2
   ·exact f.c3
   ·exact f.c4
   ·exact f.c5
  ·rw[Al _ _ e,Al _ _ e,b.cell _ oa,h.iI n hj,Kr hi C]
 ·rcases e with e|e
  ·exact .inl (.inl e)
  ·rcases b.sub q e with e'|e'
   ·exact .inl (m q e')
   ·exact .inr e'
end
def QN(Q:Exit->Act->World->Prop):Exit->Act->World->Prop
 |.normal,a,w=>Q .normal a w
 |_,_,_=>False
theorem QN.no:¬LetsOut (QN Q):=fun⟨a,w,h⟩=>h
theorem QN.normal{a:Act}(h:Q .normal a w):QN Q .normal a w:=h
section
variable {P:Program} {ops:Array Oper} {md:Region.Mode}
theorem tk(i:Nat){oi:Oper}{v:V9}{fuel:Nat}{listed:Array Bool}{a:Act}{w:Y}(b:l.drop i=oi::rest)(hc:(Region.noSelect l.toArray&&Region.free md l.toArray listed i&&(Region.ready md l.toArray listed).contains i)=true)
  (c:Region.wanted oi (yielded l.toArray a.tmps)=true) (hy:∀w,S w->(execOp a.eval oi).run P w=.ok (.value v) w) (d:S w) (h:wpAnyH P md l.toArray (QN Q) S fuel (listed.setIfInBounds i true) (a.put oi.dst v) w):wpAnyH P md l.toArray (QN Q) S (fuel+1) listed a w:=by
 simp only[To]at hc;have hi:l.toArray[i]?=some oi:=by
  have h1:(l.drop i)[0]?=some oi:=by rw[b];rfl
  rw[List.getElem?_drop]at h1;simpa using h1
 exact wpAnyH_take hi hc.1.1 hc.1.2 hc.2 (fun _ _ _ h=>h) (Or.inl ⟨c,hy⟩) d h
theorem QN.imp:∀(e:Exit) (a:Act) (w:Y),QN Q e a w->Q e a w:=fun e a w h=>by
 cases e<;>first|exact h|exact False.elim h
theorem Dh{a:Act}(S:World->Prop)(b:P.follows .mixedOrders=true)(h:wpAnyH P .any ops (QN Q) S ops.size (Array.replicate ops.size false) a {w with drawn:=w.drawn+1}):(Code.region id ops true).wp P Q a w:=
 Code.wp_mono QN.imp (wp_region_held b h)
end
theorem tz{P:Program}(i:Nat){oi:Oper}{v:V9}{fuel:Nat}{listed:Array Bool}{a b:Act}{w:Y}(c:l.drop i=oi::rest:=by rfl)(hc:(Region.noSelect l.toArray&&Region.free md l.toArray listed i&&(Region.ready md l.toArray listed).contains i)=true:=by kernel_rfl)(d:Region.wanted oi (yielded l.toArray a.tmps)=true:=by rfl)(hy:∀w,S w->(execOp a.eval oi).run P w=.ok (.value v) w:=by(intro w' hs;(repeat(obtain⟨_,hs⟩:=hs));go_simp;try with_reducible rfl))(e:S w:=by assumption)(hb:a.put oi.dst v=b:=by(simp only[pS];rfl))(h:wpAnyH P md l.toArray (QN Q) S fuel (listed.setIfInBounds i true) b w):wpAnyH P md l.toArray (QN Q) S (fuel+1) listed a w:=tk i c hc d hy e (hb▸h)
theorem ry{P:Program}(i:Nat){fuel:Nat}{listed:Array Bool}{a:Act}{w:Y}{o:Oper}(h:∀b:Act->World->Prop,Shut (∀a w,S w->(S w->wpAnyH P md ops Q S fuel (listed.setIfInBounds i true) a w)->b a w)->if Region.wanted o (yielded ops a.tmps)=true then Oper.wp P o a w b Q else b (a.put o.dst undef) w)(c:ops[i]?=some o:=by rfl)(d:Region.ready md ops listed=[i]:=by kernel_rfl):wpAnyH P md ops Q S (fuel+1) listed a w:=AaE d od (.cons c h .nil)
theorem Hl{P:Program}{a:Act}(S:World->Prop)(h:wpAnyH P .any ops (QN Q) S ops.size (Array.replicate ops.size false) a (World.drew w))(b:P.follows .mixedOrders=true:=by kernel_rfl):(Code.region id ops true).wp P Q a w:=Dh S b h
theorem Fj{P:Program}{fuel:Nat}{listed:Array Bool}{a:Act}(h:Q .normal a w)(b:Region.ready md ops listed=[]:=by kernel_rfl):wpAnyH P md ops (QN Q) S fuel listed a w:=wpAnyH_done b (QN.normal h) fuel
end Go.Proofs.YtgmlkfgfjjggnaaGreatDoor
