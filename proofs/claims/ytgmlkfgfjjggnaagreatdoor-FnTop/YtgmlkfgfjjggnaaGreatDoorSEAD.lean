import Derived.Test.YtgmlkfgfjjggnaaGreatDoorSEAC
set_option linter.all false
set_option maxHeartbeats 40000000
set_option maxRecDepth 100000
namespace Go.Proofs.YtgmlkfgfjjggnaaGreatDoor
open Go.Proofs.Tryz
open Go.RowKit
attribute [local go_sem] AA Aw
section
open Go.RowKit Go.Shelf
attribute [local go_sem] Oper.semAt_some
structure KX (M:Nat->Prop) (n:Nat) (A B:Y):Prop where
 CH:Below n A B
 BR:∀b,b<A.heap.size->¬M b->B.heap[b]?=A.heap[b]?
theorem KX.refl(M:Nat->Prop)(n:Nat)(A:Y):KX M n A A:=⟨DD _ _,fun _ _ _=>rfl⟩
theorem KX.trans{M:Nat->Prop}{n:Nat}{A B C:Y}(h:KX M n A B)(k:KX M n B C):KX M n A C:=⟨h.CH.trans k.CH,fun b hb a=>(k.BR b (Be hb h.CH.size) a).trans (h.BR b hb a)⟩
theorem KX.mono{M M':Nat->Prop}{n:Nat}{A B:Y}(h:KX M n A B)(e:∀b,b<A.heap.size->M b->M' b):KX M' n A B:=⟨h.CH,fun b hb a=>h.BR b hb (fun c=>a (e b hb c))⟩
theorem KX.Ay{M:Nat->Prop}{n:Nat}{A B:Y}(h:B9 A B)(hn:n<=A.heap.size):KX M n A B:=⟨h.mono hn,fun b hb _=>h.block b hb⟩
theorem KX.setCell{M:Nat->Prop}{n:Nat}{A B:Y}(h:KX M n A B){g q:Nat}(hg:n<=g)(c:g<A.heap.size->M g)(u:V9):KX M n A (B.setCell (G g q) u):=
 ⟨h.CH.setCell (by exact hg) _,fun b hb a=>(At _ _ _ _ (by intro e;have e:b=g:=e;subst e;exact a (c hb))).trans (h.BR b hb a)⟩
theorem KX.alloc{M:Nat->Prop}{n:Nat}{A B:Y}(h:KX M n A B)(hn:n<=A.heap.size)(o:Obj):KX M n A (B.alloc o):=
 ⟨h.CH.alloc (FZ hn h.CH.size) _,fun b hb a=>(Fs _ _ _ (Be hb h.CH.size)).trans (h.BR b hb a)⟩
theorem KX.drew{M:Nat->Prop}{n:Nat}{A B:Y}(h:KX M n A B):KX M n A B.drew:=⟨h.CH.drew,h.BR⟩
theorem KX.grown{M:Nat->Prop}{n:Nat}{A B C:Y}{row:Option Nat}(h:KX M n A B)(hg:B.grownBy C row)(hn:n<=A.heap.size)(a:∀r,row=some r->A.heap.size<=r\/(n<=r/\M r)):KX M n A C:=
 ⟨h.CH.grown hg (FZ hn h.CH.size) (fun k e=>by rcases a k e with h'|h'<;>omega),fun b hb c=>(hg.block b (Be hb h.CH.size) (fun e=>by
  rcases a b e.symm with h'|h'
  ·omega
  ·exact c h'.2)).trans (h.BR b hb c)⟩
def LR(n0 bk R2 x:Nat)(k:Vl)(e:Nat)(W:Y):Prop:=
 W.cell? (G n0 0)=some (.pointer (some (G bk 2)))/\W.cell? (G bk 3)=some (S9 R2 x x)/\W.cell? (G (n0+1) 0)=some (J k.kind)/\W.cell? (G (n0+1) 1)=some (J k.num)/\W.cell? (G (n0+1) 2)=some (F9 k.Ae)/\W.cell? (G (n0+1) 3)=some (.string k.str)/\W.cell? (G (n0+1) 4)=some (J k.ref)/\W.cell? (G (n0+1+1) 0)=some (Q9 e)
theorem LR.block{n0 bk R2 x e:Nat}{k:Vl}{W W':Y}(h:LR n0 bk R2 x k e W)(hb:∀b,b<n0+3->b=n0\/b=n0+1\/b=n0+1+1\/b=bk->W'.heap[b]?=W.heap[b]?)(hl:bk<n0):LR n0 bk R2 x k e W':=by
 obtain⟨a,s1,s2,c,d,f,g,i⟩:=h;have k0:=hb n0 (by omega) (by omega);have k1:=hb (n0+1) (by omega) (by omega);have k2:=hb (n0+1+1) (by omega) (by omega);have k3:=hb bk (by omega) (by omega);exact⟨(As k0).trans a,(As k3).trans s1,(As k1).trans s2,(As k1).trans c,(As k1).trans d,(As k1).trans f,(As k1).trans g,(As k2).trans i⟩
theorem JA(T:World->Prop)(R:DT T)(bk:Nat)(r0 r1:V9)(R2:Nat)(E S:Nat->Nat)(d:Dc)(k:Vl)(p h:Nat)(hh:NV T k h)(w:Y)(hT:T w)(hM:AD w bk r0 r1 R2 E S d)(hS:Small d)(hX:∀j,j<d.x->d.X j=0\/d.X j=-1\/0<d.X j)(hk:(d.L p).key=k)(hu:Cd d.X d.x<d.x)(ax:0<=d.used)(ay:d.used<=4194304):
  C9 307 #[.pointer (some (G bk 2)),V k.kind k.num k.Ae k.str k.ref,Q9 (E p)] w fun e w'=>((∃u,e=.returned u)/\∃a S',C5 d.x d.X (h%d.x)=some a/\AD w' bk r0 r1 R2 E S' {d with X:=Bm d.X a ((p:Int)+1),used:=if d.X a=0 then d.used+1 else d.used})/\KX (fun b=>b=bk\/b=R2) bk w w':=by
 have hx:=hS.x;refine(VC (n:=10)).1 ?_;refine AaP func307 rfl trivial ?_ rfl;simp only[ntmps307,Aas,Aad,UP,Nat.reduceAdd,Nat.reduceSub,Aag,Aaf,Aat,Aak,So,Aal]
 gi_wp2_with (refine⟨trivial,?_⟩;gi_at_call 297;refine(VC.2 (Qn (some (G bk 2)) k _)).mono ?_;rintro e w' ⟨rfl,rfl⟩)
 obtain⟨u,g⟩:∃u,u=((((w.alloc (.cells #[.pointer (some (G bk 2))] 377)).alloc (.cells #[J k.kind,J k.num,F9 k.Ae,.string k.str,J k.ref] 43)).alloc (.cells #[Q9 (E p)] 292)).alloc (.cells #[.pointer (some (G bk 2))] 377)).alloc (.cells #[J k.kind,J k.num,F9 k.Ae,.string k.str,J k.ref] 43):=⟨_,rfl⟩;rw[<-g];have zu:u.heap.size=w.heap.size+5:=by rw[g];simp
 have bu:B9 w u:=by rw[g];exact((((n9).alloc (by simp) _).alloc (by simp;omega) _).alloc (by simp;omega) _).alloc (by simp;omega) _
 have n0:u.cell? (y w 0)=some (.pointer (some (G bk 2))):=by rw[g];simp[go_sem]
 have i0:u.cell? (Y9 w 0)=some (J k.kind):=by rw[g];simp[go_sem]
 have i1:u.cell? (Y9 w 1)=some (J k.num):=by rw[g];simp[go_sem]
 have i2:u.cell? (Y9 w 2)=some (F9 k.Ae):=by rw[g];simp[go_sem]
 have i3:u.cell? (Y9 w 3)=some (.string k.str):=by rw[g];simp[go_sem]
 have i4:u.cell? (Y9 w 4)=some (J k.ref):=by rw[g];simp[go_sem]
 have af:u.cell? (Z9 w 0)=some (Q9 (E p)):=by rw[g];simp[go_sem]
 have m0:u.cell? (G (w.heap.size+1+1+1) 0)=some (.pointer (some (G bk 2))):=by rw[g];simp[go_sem]
 have j0:u.cell? (G (w.heap.size+1+1+1+1) 0)=some (J k.kind):=by rw[g];simp[go_sem]
 have j1:u.cell? (G (w.heap.size+1+1+1+1) 1)=some (J k.num):=by rw[g];simp[go_sem]
 have j2:u.cell? (G (w.heap.size+1+1+1+1) 2)=some (F9 k.Ae):=by rw[g];simp[go_sem]
 have j3:u.cell? (G (w.heap.size+1+1+1+1) 3)=some (.string k.str):=by rw[g];simp[go_sem]
 have j4:u.cell? (G (w.heap.size+1+1+1+1) 4)=some (J k.ref):=by rw[g];simp[go_sem]
 have M:=hM.below bu;have ag:=R _ _ hT bu;have m:=hM.lt;have av:=hM.JP;have az:∀(W:Y),B9 w W->bk<W.heap.size:=fun W h=>Be m h.size
 clear g;refine AaO rfl (by decide) (gf:=308) (lb:=#[Q9 (w.heap.size+1+1+1),Q9 (w.heap.size+1+1+1+1)]) rfl trivial (enters_of func308 (by kernel_rfl) rfl)
  (Mv 9 (by decide) T R bk R2 (w.heap.size+1+1+1) (w.heap.size+1+1+1+1) d k h w.heap.size hh u ag hx m0 M.c2 M.c3 j0 j1 j2 j3 j4) belowK_t (belowK_b (by omega)) (DD _ _) (fun _=>rfl)
  (fun pre W=>((∀Z∈pre,0<d.X Z.1)/\W.cell? (y w 0)=some (.pointer (some (G bk 2)))/\W.cell? (Y9 w 0)=some (J k.kind)/\W.cell? (Y9 w 1)=some (J k.num)/\W.cell? (Y9 w 2)=some (F9 k.Ae)/\W.cell? (Y9 w 3)=some (.string k.str)/\W.cell? (Y9 w 4)=some (J k.ref)/\W.cell? (Z9 w 0)=some (Q9 (E p)))/\B9 w W)
  (fun c pre W=>(c=.ret/\(∃f a,pre=f++[a]/\(∀Z∈f,0<d.X Z.1)/\d.X a.1<=0/\∃S',AD W bk r0 r1 R2 E S' {d with X:=Bm d.X a.1 ((p:Int)+1),used:=if d.X a.1=0 then d.used+1 else d.used}))/\KX (fun b=>b=bk\/b=R2) bk w W)
  (OwnFrom.and (Own.from (fun s A B row hs hg o=>⟨hs.1,IF hs.2.1 hg o,IF hs.2.2.1 hg o,IF hs.2.2.2.1 hg o,IF hs.2.2.2.2.1 hg o,IF hs.2.2.2.2.2.1 hg o,IF hs.2.2.2.2.2.2.1 hg o,IF hs.2.2.2.2.2.2.2 hg o⟩) _) (ownFrom_below (A0 _) (by omega)))
  (fun c=>OwnFrom.and (Own.from (fun s A B row hs hg o=>⟨hs.1,by obtain⟨f,a,h1,h2,h3,S',h4⟩:=hs.2;exact⟨f,a,h1,h2,h3,S',h4.grown hg o⟩⟩) _) (fun s W W' row hs hg o=>hs.grown hg (by omega) (fun k e=>.inl (by have:=(o k e).1;omega))))
  ⟨⟨by simp,n0,i0,i1,i2,i3,i4,af⟩,bu⟩
  ?a1 ?assign ?body ?done ?stop
 case assign=>
  intro l x W K hK
  gi_wp2
  exact hK
 case body=>
  rintro l pre ⟨a,v⟩ W ⟨⟨U,g0,e0,e1,e2,e3,e4,s0⟩,C⟩ _;have i:=hM.below C;have c3:=i.c3;have c4:=i.c4;have f4:=i.fz 4;obtain⟨g',aM,e',_,lR,_,ah,ai⟩:=i.slots.form (by omega);cases e';have p0:=ah a v;have q0:=ai a;have F:=i.sl a v;have lW:bk<W.heap.size:=i.lt;have nR:R2≠bk:=by have:=i.JP.1;omega
  have a6:bk≠R2:=fun e=>nR e.symm
  have z0:=Hi _ _ g0;have z1:=Hi _ _ e0;have z2:=Hi _ _ s0;dsimp only at z0 z1 z2;have HP:=O U;have ad:=O C;have aj:=O i;have HK:=O hk;have a7:=i.JP.1;clear U C n0 i0 i1 i2 i3 i4 af m0 j0 j1 j2 j3 j4 M ag bu zu hM hT hh R ah ai i;have ak:=hX a v;clear hX;rcases ak with hs|hs|hs
  ·rw[show Dd S a (d.X a)=none from C3 hs]at p0;have ae:=((aj.T1 (d.used+1)).cY (x:=(p:Int)+1) v (by omega) (A:=SH k (E p)) ⟨fun _=>by show _=SH (d.L ((p:Int)+1-1).toNat).key _;rw[show((p:Int)+1-1).toNat=p by omega,z HK],fun h=>by omega⟩);rw[show(W.setCell (G bk 4) (J (d.used+1))).heap.size=W.heap.size by simp]at ae;have HN:=O ae;clear ae;have HX:Hid (d.X a=0):=O hs;clear F hs
   gi_wp2
   refine Np (LR w.heap.size bk R2 d.x k (E p)) (by kernel_rfl) (by kernel_rfl) ?_;change wpAnyH _ _ _ _ _ _ _ _ (World.drew _);have hz:∀b q,bk≠b->(W.setCell (G bk 4) (J (d.used+1))).cell? (G b q)=W.cell? (G b q):=fun b q h=>AX h
   have H:LR w.heap.size bk R2 d.x k (E p) (W.setCell (G bk 4) (J (d.used+1))).drew:=⟨(hz _ _ (by omega)).trans g0,(Ab (by decide)).trans c3,(hz _ _ (by omega)).trans e0,(hz _ _ (by omega)).trans e1,(hz _ _ (by omega)).trans e2,(hz _ _ (by omega)).trans e3,(hz _ _ (by omega)).trans e4,(hz _ _ (by omega)).trans s0⟩;clear hz;refine tz 0 (h:=tz 1 (h:=tz 2 (h:=tz 3 (h:=tz 4 (h:=tz 5 (h:=tz 6 (h:=tz 7 (h:=?_))))))));refine ry 8 (fun K hK=>?_);go_simp;refine hK.out _ _ ?_ (fun ao=>?_)
   ·exact H.block (fun b hb _=>Fs _ _ _ (by show b<(W.setCell _ _).heap.size;simp;omega)) m
   clear hK K;refine tz 9 (h:=?_);refine ry 10 (fun K hK=>?_);go_simp;refine hK.out _ _ ?_ (fun aq=>?_)
   ·exact H.block (fun b hb h=>(Fs _ _ _ (by simp;omega)).trans (At _ _ _ _ (by show b≠R2;omega))) m
   clear hK K;refine FM ?_
   gi_wp2
   exact⟨(((TC _ _ _).trans (TC _ _ _)).trans (KeepsOthers.alloc _ _)).trans (KeepsOthers.drew _),⟨rfl,pre,⟨a,v⟩,rfl,HP,by have:=z HX;show d.X a<=0;omega,_,by rw[C3 (z HX)];exact HN.below (DD _ _).drew⟩,(((((KX.Ay ad (by omega)).setCell (A0 _) (fun _=>.inl rfl) _).setCell (by omega) (fun _=>.inr rfl) _).alloc (by omega) _).drew)⟩
  ·rw[show Dd S a (d.X a)=some (G (S a) 0)from Cs (by omega)]at p0;obtain⟨ar,a8⟩:=F.2 (by omega);have HN:=O (aj.cY (x:=(p:Int)+1) v (by omega) (A:=SH k (E p)) ⟨fun _=>by show _=SH (d.L ((p:Int)+1-1).toNat).key _;rw[show((p:Int)+1-1).toNat=p by omega,z HK],fun h=>by omega⟩);have HX:Hid (d.X a≠0/\d.X a<=0):=O (by omega);clear F hs
   gi_wp2
   refine Np (LR w.heap.size bk R2 d.x k (E p)) (by kernel_rfl) (by kernel_rfl) ?_;change wpAnyH _ _ _ _ _ _ _ _ (World.drew _);have H:LR w.heap.size bk R2 d.x k (E p) W.drew:=⟨g0,c3,e0,e1,e2,e3,e4,s0⟩;refine tz 0 (h:=tz 1 (h:=tz 2 (h:=tz 3 (h:=tz 4 (h:=tz 5 (h:=tz 6 (h:=tz 7 (h:=?_))))))));refine ry 8 (fun K hK=>?_);go_simp;refine hK.out _ _ ?_ (fun ao=>?_)
   ·exact H.block (fun b hb _=>Fs _ _ _ (by show b<W.heap.size;omega)) m
   clear hK K;refine tz 9 (h:=?_);refine ry 10 (fun K hK=>?_);go_simp;refine hK.out _ _ ?_ (fun aq=>?_)
   ·exact H.block (fun b hb h=>(Fs _ _ _ (by simp;omega)).trans (At _ _ _ _ (by show b≠R2;omega))) m
   clear hK K;refine FM ?_
   gi_wp2
   exact⟨((TC _ _ _).trans (KeepsOthers.alloc _ _)).trans (KeepsOthers.drew _),⟨rfl,pre,⟨a,v⟩,rfl,HP,by have:=z HX;show d.X a<=0;omega,_,by rw[Cs (z HX).1];exact HN.below (DD _ _).drew⟩,((((KX.Ay ad (by omega)).setCell (by omega) (fun _=>.inr rfl) _).alloc (by omega) _).drew)⟩
  ·rw[show Dd S a (d.X a)=some (G (S a) 0)from Cs (by omega)]at p0;obtain⟨ar,f0,f1,f2,f3,bb,f5,f6⟩:=F.1 hs;have HX:=O hs;clear F hs
   gi_wp2
   exact⟨KeepsOthers.refl _,DD _ _,⟨fun Z hy=>(AaM.1 hy).elim (HP Z) (fun e=>by simp at e;subst e;exact HX),g0,e0,e1,e2,e3,e4,s0⟩,ad⟩
 case done=>
  rintro D ys W hD au ⟨⟨U,_⟩,C⟩ hK;exfalso;obtain⟨t,ht,hf,bc,aw⟩:=F4 (x:=d.x) (a:=h%d.x) (X:=d.X) (Aae _ (by omega)) hu;have hm:(h%d.x+t)%d.x∈ys.map (·.1):=by
   rw[show ys.map (·.1)=Ex d.x (h%d.x) d.x from au];unfold Ex;exact List.mem_map.2 ⟨t,AaR.2 ht,rfl⟩
  obtain⟨Z,hy,e⟩:=List.mem_map.1 hm;have:=U Z hy;rw[e]at this;omega
 case stop=>
  rintro D c pre W hD P ⟨⟨rfl,f,a,rfl,h1,h2,S',hN⟩,C⟩ hK;have HF:Hid (C5 d.x d.X (h%d.x)=some a.1):=O (by
   have U:(f++[a]).map (·.1)<+:Ex d.x (h%d.x) d.x:=P;have I:=U.length_le;rw[AaB,To,Le]at I;have I:f.length+1<=d.x:=I;have Q:∀j,j<f.length+1->((f++[a]).map (·.1))[j]?=some ((h%d.x+j)%d.x):=fun j hj=>by
    obtain⟨r,o⟩:=U;have e:(Ex d.x (h%d.x) d.x)[j]?=((f++[a]).map (·.1))[j]?:=by rw[<-o,PC (by simp;omega)]
    rw[<-e];unfold Ex;rw[List.getElem?_map,List.getElem?_range (show j<d.x by omega)];rfl
   have v:=Q f.length (by omega);rw[List.getElem?_map,TO (A0 _)]at v;have v:a.1=(h%d.x+f.length)%d.x:=by simpa using v
   rw[v];refine KS (by omega) (fun j hj=>?_) (by rw[<-v];exact h2);have hb:=Q j (by omega);rw[List.getElem?_map,PC hj]at hb;obtain⟨Z,hy,e⟩:=Option.map_eq_some_iff.1 hb;rw[<-e];exact h1 Z (List.mem_of_getElem? hy))
  clear P h1 h2 hh hM M
  gi_wp2
  refine⟨by simp,.inl ⟨_,_,rfl,AaE hK,?_⟩⟩;have hg:=ID W D (.deferred none);refine⟨_,results_none rfl _ _ _,⟨⟨_,rfl⟩,a.1,S',HF,hN.grown hg (fun r e=>by cases e;exact⟨_,hK,rfl⟩)⟩,C.grown hg (by omega) (fun k e=>by cases e;exact .inl (by omega))⟩
end
def DH(hf:Vl->Nat)(d:Dc)(x:Nat)(l:List Nat):Dc:=l.foldl (fun c p=>A6 hf c (d.L p).key p) {d with x:=x,X:=fun _=>0,used:=0}
theorem Jc(hf:Vl->Nat)(d:Dc)(x:Nat)(l:List Nat)(p:Nat):DH hf d x (l++[p])=A6 hf (DH hf d x l) (d.L p).key p:=by
 unfold DH;rw[List.foldl_append];rfl
structure Ha (d:Dc) (a N:Nat) (c:Dc):Prop where
 x:c.x=a
 n:c.n=d.n
 L:c.L=d.L
 m:c.m=d.m
 I:c.I=d.I
 live:c.live=d.live
 turns:c.turns=d.turns
 use:Cd c.X a<=N
 used:(Cd c.X a:Int)=c.used
 pos:∀j,j<a->0<=c.X j
 up:∀j,j<a->c.X j<=d.n
theorem Ha.step{hf:Vl->Nat}{d c:Dc}{x Z p:Nat}{k:Vl}(h:Ha d x Z c)(hN:Z<x)(l:p<d.n):Ha d x (Z+1) (A6 hf c k p):=by
 obtain⟨t,o,f,i,_⟩:=F4 (x:=x) (a:=hf k%x) (X:=c.X) (Aae _ (by omega)) (by have:=h.use;omega);have hs:(hf k%x+t)%x<x:=Aae _ (by omega);have g:c.X ((hf k%x+t)%x)=0:=by have:=h.pos _ hs;omega
 generalize (hf k%x+t)%x=a at*;have e:=FU (hf:=hf) (d:=c) (k:=k) (p:=p) (a:=a) (by rw[h.x];exact f);rw[e];have hu:=Nl (v:=(p:Int)+1) (by omega) g x;rw[C3 hs]at hu;refine⟨h.x,h.n,h.L,h.m,h.I,h.live,h.turns,?_,?_,fun j hj=>?_,fun j hj=>?_⟩
 ·show Cd (Bm c.X a ((p:Int)+1)) x<=Z+1;rw[hu];have:=h.use;omega
 ·show((Cd (Bm c.X a ((p:Int)+1)) x:Nat):Int)=if c.X a=0 then c.used+1 else c.used
  rw[hu,C3 g];have:=h.used;omega
 ·show 0<=Bm c.X a ((p:Int)+1) j;by_cases b:j=a
  ·subst b;rw[Al];omega
  ·rw[Af _ _ b];exact h.pos j hj
 ·show Bm c.X a ((p:Int)+1) j<=d.n;by_cases b:j=a
  ·subst b;rw[Al];omega
  ·rw[Af _ _ b];exact h.up j hj
theorem Ha.start(d:Dc)(x:Nat):Ha d x 0 {d with x:=x,X:=fun _=>0,used:=0}:=
 ⟨rfl,rfl,rfl,rfl,rfl,rfl,rfl,by show Cd (fun _=>0) x<=0;rw[IA];exact A0 _,by show((Cd (fun _=>0) x:Nat):Int)=0;rw[IA];rfl,fun j hj=>AaC _,fun j hj=>by show(0:Int)<=d.n;omega⟩
theorem Mp{hf:Vl->Nat}{d:Dc}{x:Nat}{l:List Nat}(hl:l.length<=x)(hn:∀p∈l,p<d.n):Ha d x l.length (DH hf d x l):=by
 suffices h:∀(k:Nat),k<=l.length->Ha d x k (DH hf d x (l.take k)) by
  have:=h l.length (A0 _)
  rwa [List.take_length]at this
 intro k
 induction k with
 |zero=>intro _;exact Ha.start d x
 |succ k ih=>
  intro hk;have e:l.take (k+1)=l.take k++[l[k]]:=(List.take_append_getElem (by omega)).symm;rw[e,Jc];exact(ih (by omega)).step (by omega) (hn _ (List.getElem_mem _))
noncomputable def Cf(d:Dc)(k:Nat):List Nat:=(AU d k).filter (fun i=>!tells (AH d.m (d.L i).key))
theorem Zc{d:Dc}{k:Nat}(h:(d.L k).turn=0\/AH d.m (d.L k).key):Cf d (k+1)=Cf d k:=by
 unfold Cf;by_cases a:(d.L k).turn=0
 ·rw[Ct a]
 ·rw[Br a,List.filter_append];simp[Bl (h.resolve_left a)]
theorem WY{d:Dc}{k:Nat}(a:(d.L k).turn≠0)(h:¬AH d.m (d.L k).key):Cf d (k+1)=Cf d k++[k]:=by
 unfold Cf;rw[Br a,List.filter_append];simp[Bj h]
theorem Tz(d:Dc)(k:Nat):(Cf d k).length<=(AU d k).length:=List.length_filter_le _ _
theorem ML{d:Dc}{k i:Nat}(h:i∈Cf d k):i<k/\(d.L i).turn≠0/\¬AH d.m (d.L i).key:=by
 unfold Cf at h;obtain⟨h1,h2⟩:=List.mem_filter.1 h;obtain⟨h3,h4⟩:=QH.1 h1;refine⟨h3,h4,fun hs=>?_⟩;rw[Bl hs]at h2;exact absurd h2 (by decide)
theorem K9{hf:Vl->Nat}{d:Dc}{x:Nat}(b:∀i,i<d.n->(d.L i).turn≠0->0<(d.L i).turn):∀k,k<=d.n->Cc hf d x k=DH hf d x (Cf d k)/\Ew d k=(Cf d k).length:=by
 intro k
 induction k with
 |zero=>intro _;exact⟨rfl,rfl⟩
 |succ k ih=>
  intro hk;obtain⟨h1,h2⟩:=ih (by omega);by_cases h:Cz d k
  ·have a:(d.L k).turn≠0:=by have:=h.1;omega
   rw[Jl h,Gh h,WY a h.2,Jc,h1,h2,To];exact⟨rfl,rfl⟩
  ·rw[Ku h,LG h,Zc (by
    by_cases a:(d.L k).turn=0
    ·exact .inl a
    ·refine .inr (Classical.byContradiction fun hs=>h ⟨b k (by omega) a,hs⟩))]
   exact⟨h1,h2⟩
section
open Go.RowKit Go.Shelf
attribute [local go_sem] Oper.semAt_some
theorem Ck{w w':Y}{B e s n:Nat}{v:V9}{xs:List Value}(h:w.ownsRow B e s v n xs)(hb:∀q,v.ownBlock=some q->w'.heap[q]?=w.heap[q]?):w'.ownsRow B e s v n xs:=by
 obtain⟨hl,h|⟨g,cap,cur,h1,h2,h3,h4⟩⟩:=h
 ·exact⟨hl,.inl h⟩
 ·exact⟨hl,.inr ⟨g,cap,cur,h1,h2,(hb g (by rw[h1];rfl)).trans h3,h4⟩⟩
noncomputable def Gx(d:Dc)(pre:List (He d)):List Nat:=(pre.map (·.1)).filter (fun i=>!tells (AH d.m (d.L i).key))
theorem bU{d:Dc}{pre:List (He d)}{x:He d}(h:AH d.m (d.L x.1).key):Gx d (pre++[x])=Gx d pre:=by
 unfold Gx;rw[Aac,List.filter_append];simp[Bl h]
theorem Zb{d:Dc}{pre:List (He d)}{x:He d}(h:¬AH d.m (d.L x.1).key):Gx d (pre++[x])=Gx d pre++[x.1]:=by
 unfold Gx;rw[Aac,List.filter_append];simp[Bj h]
theorem Za{d:Dc}{pre:List (He d)}(h:pre.map (·.1)=AU d d.n):Gx d pre=Cf d d.n:=by
 unfold Gx Cf;rw[h]
theorem bT{d:Dc}(pre:List (He d)):(Gx d pre).length<=pre.length:=by
 have:=List.length_filter_le (fun i=>!tells (AH d.m (d.L i).key)) (pre.map (·.1))
 rwa [AaB]at this
def eP(E:Nat->Nat)(l:List Nat)(j:Nat):Option Addr:=some (G (E (l.getD j 0)) 0)
theorem Tq(E:Nat->Nat)(l:List Nat)(i:Nat):Gb (eP E l) l.length++[Q9 (E i)]=Gb (eP E (l++[i])) (l.length+1):=by
 rw[QR];refine Kt (fun j hj=>?_);unfold eP;by_cases e:j=l.length
 ·subst e;rw[Al];simp[List.getD]
 ·rw[Af _ _ e];rw[Aab,Aab,PC (by omega)]
def VR(w u:Y)(p n0:Nat)(E:Nat->Nat)(d:Dc)(pre:List (He d))(W:Y):Prop:=
 ∃v,W.rowIs p 324 1 (fun _=>v)/\Rw W n0 CW v (Gx d pre).length (eP E (Gx d pre))/\J5 p n0 u W/\B9 w W
theorem VR.own(w u:Y)(p n0 D:Nat)(E:Nat->Nat)(d:Dc)(hn:n0<=D)(hu:n0<=u.heap.size)(f:w.heap.size<=D):OwnFrom D (VR w u p n0 E d):=by
 rintro pre A B row ⟨v,h1,h2,h3,h4⟩ hg a;refine⟨v,?_,Iv h2 hg a,⟨FZ h3.size hg.size,fun b hb g=>?_⟩,h4.grown hg h4.size (fun k e=>FZ f (a k e).1)⟩
 ·obtain⟨c,hb,hc⟩:=h1;exact Re ⟨c,hb,hc⟩ (GH hb hg a)
 ·have hl:b<A.heap.size:=Be hb (FZ hu h3.size);exact(hg.block b hl (fun e=>by have:=(a b e.symm).1;omega)).trans (h3.block b hb g)
theorem VR.below{w u W c:Y}{p n0:Nat}{E:Nat->Nat}{d:Dc}{pre a:List (He d)}(h:VR w u p n0 E d pre W)(h2:B9 W c)(e:Gx d a=Gx d pre)(m:p<n0)(j:n0<=u.heap.size):KeepsOthers W c/\J5 p n0 W c/\VR w u p n0 E d a c:=by
 obtain⟨v,l,f,g,i⟩:=h;have G4:J5 p n0 W c:=⟨h2.size,fun b hb _=>h2.block b (Be hb (FZ j g.size))⟩;refine⟨⟨h2.size,fun k o hk _=>(h2.block k (E1.1 hk).1).trans hk⟩,G4,v,l.of_block (h2.block p l.lt),?_,g.trans G4,i.trans (h2.mono i.size)⟩;rw[e];exact Gm f h2.size (fun q _ hq=>h2.block q hq)
theorem VR.add{w u W B w3:Y}{p n0:Nat}{E:Nat->Nat}{d:Dc}{pre:List (He d)}{x:He d}{v:V9}{o:Obj}{g3 a:Nat}(C:W.rowIs p 324 1 (fun _=>v))(f:Rw W n0 CW v (Gx d pre).length (eP E (Gx d pre)))(n:J5 p n0 u W)(g:B9 w W)(h2:B9 W B)
  (h1:w3.ownsRow n0 CW 1 (S9 g3 ((Gx d pre).length+1) a) ((Gx d pre).length+1) (Gb (eP E (Gx d pre)) (Gx d pre).length++[Q9 (E x.1)])) (hg:(B.alloc o).grownBy w3 v.ownBlock) (r:p<n0) (D:n0<=u.heap.size) (F:w.heap.size<=p) (hs:¬AH d.m (d.L x.1).key):
  (w3.cell? (G p 0)=some v/\w3.frozen? (G p 0)=false)/\KeepsOthers W (w3.setCell (G p 0) (S9 g3 ((Gx d pre).length+1) a))/\J5 p n0 W (w3.setCell (G p 0) (S9 g3 ((Gx d pre).length+1) a))/\VR w u p n0 E d (pre++[x]) (w3.setCell (G p 0) (S9 g3 ((Gx d pre).length+1) a)):=by
 have K:=n.size;have z2:=h2.size;have z3:W.heap.size<=w3.heap.size:=by have:=hg.size;simp at this;omega
 have s:∀b,b<W.heap.size->v.ownBlock≠some b->w3.heap[b]?=W.heap[b]?:=fun b hb H=>(hg.block b (by simp;omega) (fun e=>H e.symm)).trans ((Fs _ _ _ (by omega)).trans (h2.block b hb))
 have j:∀b,b<n0->v.ownBlock≠some b:=fun b hb e=>by have:=(f.lt b e).1;omega
 have l:w3.rowIs p 324 1 (fun _=>v):=C.of_block (s p C.lt (j p r));have I:=(World.ownsRow.lt h1 g3 rfl).1;have os:∀b,b≠p->(w3.setCell (G p 0) (S9 g3 ((Gx d pre).length+1) a)).heap[b]?=w3.heap[b]?:=fun b hb=>At _ _ _ _ (by exact hb)
 have hk:J5 p n0 W (w3.setCell (G p 0) (S9 g3 ((Gx d pre).length+1) a)):=⟨by simpa using z3,fun b h1 t=>(os b t).trans (s b (by omega) (j b h1))⟩;refine⟨⟨l.cell (i:=0) (by omega),l.frozen 0⟩,?_,hk,S9 g3 ((Gx d pre).length+1) a,(l.set 0 _).congr (fun q hq=>by simp[show q=0 by omega]),?_,n.trans hk,?_⟩
 ·have A:KeepsOthers W w3:=⟨z3,fun k o' h hc=>(s k (E1.1 h).1 (fun e=>by
   obtain⟨c,hb⟩:=Rw.block f e;rw[hb]at h;cases h;cases hc)).trans h⟩
  exact A.trans (TC _ _ _)
 ·rw[Zb hs];have hl:(Gx d pre++[x.1]).length=(Gx d pre).length+1:=by simp
  rw[hl];refine Ck ?_ (fun q e=>os q (by
   have e':g3=q:=by simpa[Value.ownBlock]using e
   omega))
  rw[Tq]at h1;exact h1
 ·exact(((g.trans (h2.mono g.size)).alloc (by have:=g.size;omega) _).grown hg (by have:=g.size;simp;omega) (fun k e=>by have:=(f.lt k e).1;omega)).setCell (by show w.heap.size<=p;omega) _
def EA(n:Nat):Nat:=if n=0 then 0 else De n
theorem Q3{n:Nat}(h:n<=500):EA n<=4000:=by
 unfold EA
 split
 ·omega
 ·exact(Fc h).2.2.1
theorem Na{n:Nat}(h:n<=500):4*n<=EA n:=by
 unfold EA
 split
 ·omega
 ·exact(Fc h).1
def Z5(n0 bk p:Nat)(v:V9)(W:Y):Prop:=W.cell? (G n0 0)=some (Q9 bk)/\W.cell? (G p 0)=some v
def VY(n0 bk e:Nat)(k:Vl)(W:Y):Prop:=W.cell? (G n0 0)=some (Q9 bk)/\W.cell? (G e 0)=some (J k.kind)/\W.cell? (G e 1)=some (J k.num)/\W.cell? (G e 2)=some (F9 k.Ae)/\W.cell? (G e 3)=some (.string k.str)/\W.cell? (G e 4)=some (J k.ref)
theorem NA(bk:Nat)(r0 r1:V9)(R2:Nat)(E S:Nat->Nat)(d:Dc)(x:Nat)(w:Y)(a:AD w bk r0 r1 R2 E S d)(hx:x<=4194304):
  C9 314 #[.pointer (some (G bk 2)),J (x:Int)] w fun e w'=>((∃u,e=.returned u)/\AD w' bk r0 r1 w.heap.size E S {d with x:=x,X:=fun _=>0,used:=0})/\KX (fun b=>b=bk) bk w w':=by
 have c:=a.lt;have c3:=a.c3;have c4:=a.c4;have f3:=a.fz 3;have f4:=a.fz 4;have mk:=Ir underlying326 Qx x hx;have f:CD (w.alloc (.cells (madeCells (Value.pointer none).cells x) Q8)) w.heap.size x Q8 (fun _=>none):=CD.fresh w x Q8;have hN:=((a.below ((DD _ _).alloc (A0 _) (.cells (madeCells (Value.pointer none).cells x) Q8))).XX (Q2:=w.heap.size) (x:=x) (X:=fun _=>0) ((f.own (B:=bk+1) (by omega) hx).congr (fun j hj=>by simp[Dd])) (fun j hj=>⟨fun h=>absurd h (Int.lt_irrefl 0),fun h=>absurd h (Int.lt_irrefl 0)⟩) (fun j hj h=>absurd rfl h)).T1 0;rw[World.setCell_alloc_past _ _ _ _ c,World.setCell_alloc_past _ _ _ _ (by simpa using c)]at hN;have g:=O hN;have i:Hid (∀o,KX (fun b=>b=bk) bk w (((w.setCell (G bk 3) (S9 w.heap.size x x)).setCell (G bk 4) (J 0)).alloc o)):=O (fun o=>KX.alloc (n:=bk) (A:=w) (((KX.refl (fun b=>b=bk) _ _).setCell (A0 _) (fun _=>rfl) _).setCell (A0 _) (fun _=>rfl) _) (by omega) _);clear a f hN
 go_enter func314,ntmps314
 go_wp2;go_end0;exact⟨⟨⟨_,rfl⟩,g⟩,i _⟩
theorem G5(T:World->Prop)(cg:DT T)(hf:Vl->Nat)(bk:Nat)(ch:∀w w',T w->Below bk w w'->T w')(r0 r1:V9)(R2:Nat)(E S:Nat->Nat)(d:Dc)(g:Nat)(w:Y)(hT:T w)(hM:AD w bk r0 r1 R2 E S d)(hS:Small d)
  (hH:∀i,i<d.n->(d.L i).turn≠0->NV T (d.L i).key (hf (d.L i).key)) (ae:(Cf d d.n).length+g<=500):
  C9 306 #[.pointer (some (G bk 0)),J (g:Int)] w fun e w'=>((∃u,e=.returned u)/\∃bt S',AD w' bk r0 r1 bt E S' (DH hf d (EA ((Cf d d.n).length+g)) (Cf d d.n))/\w.heap.size<=bt)/\KX (fun b=>b=bk) bk w w':=by
 obtain⟨i0,cj,ck,cl,cm⟩:=Tn Im;have bw:=hS.m;have dj:=hS.n;have dd:=hM.lt;refine(VC (n:=20)).1 ?_;refine AaP func306 rfl trivial ?_ rfl;simp only[ntmps306,Aas,Aad,UP,Nat.reduceAdd,Nat.reduceSub,Aag,Aaf,Aat,Aak,So,Aal];have HM:=O hM;have HS:=O hS;have HH:=O hH;have HL:=O ae;have HT:=O hT;clear hM hS hH ae hT
 gi_wp2_with fail
 refine⟨trivial,?_⟩;refine(VC.2 (Fz bk _)).mono ?_;rintro e w4 ⟨rfl,rfl⟩
 gi_wp2_with fail
 obtain⟨u,hu⟩:∃u,u=((w.alloc (.cells #[.pointer (some (G bk 0))] 289)).alloc (.cells #[N9] 324)).alloc (.cells #[.pointer (some (G bk 0))] 289):=⟨_,rfl⟩;try simp only[World.size_alloc]
 rw[<-hu];have zu:u.heap.size=w.heap.size+1+1+1:=by rw[hu];simp
 have bu:B9 w u:=by rw[hu];exact((n9).alloc (by simp) _).alloc (by simp;omega) _
 have bb:u.cell? (Z9 w 0)=some (.pointer (some (G bk 0))):=by rw[hu];simp[go_sem]
 have b0:u.cell? (y w 0)=some (.pointer (some (G bk 0))):=by rw[hu];simp[go_sem]
 have bc:u.rowIs (w.heap.size+1) 324 1 (fun _=>N9):=by
  have h1:=AaK (w.alloc (.cells #[.pointer (some (G bk 0))] 289)) #[N9] 324 (fun _=>N9) (fun i hi=>by
   have:i=0:=by simpa using hi
   subst this;rfl)
  rw[World.size_alloc]at h1;refine Re h1 ?_;rw[hu];exact Fs _ _ _ (by simp)
 clear hu;have ay:=HM.below bu;obtain⟨R0,R1,R⟩:=ay.book;have bd:u.cell? (Y9 w 0)=some (N9):=bc.cell (i:=0) (by omega);have bx:0<d.n->R0<u.heap.size/\R0≠w.heap.size+1:=fun h0=>⟨R.l0,fun e=>by
  have:=R.r0 0 h0;rw[e,bd]at this;cases this⟩
 have az:∀i,i<d.n->E i<u.heap.size/\E i≠w.heap.size+1:=fun i hi=>⟨(R.Ca i hi).lt,fun e=>by
  have:=(R.Ca i hi).k0;rw[e,bd]at this;cases this⟩
 obtain⟨Q1,k1,e1⟩:=ay.rf;have bz:u.cell? (G bk 1)=some (.slice (some (G Q1 0)) d.m k1):=by rw[ay.c1,e1]
 clear bd;refine AaO rfl (by decide) (gf:=248) (lb:=#[.pointer (some (G (w.heap.size+1+1) 0))]) rfl trivial (enters_of func248 (by kernel_rfl) rfl)
  (IP 19 (by decide) bk R0 R1 R2 (w.heap.size+1+1) (w.heap.size+1) u.heap.size E S d u R HS bx az bb) J5.trans (J5.put (A0 _)) (DD _ _) (fun _=>rfl)
  (VR w u (w.heap.size+1) u.heap.size E d)
  (fun c pre W=>False)
  (VR.own w u (w.heap.size+1) u.heap.size u.heap.size E d (A0 _) (A0 _) (by omega))
  (fun c _ _ _ _ h=>h.elim)
  ⟨N9,bc,ON _ _ _ _,J5.refl _ _ _,bu⟩
  ?a1 ?assign ?body ?done ?stop
 case assign=>
  intro l x W K hK
  gi_wp2
  exact hK
 case stop=>
  rintro D c pre W hD df h hK;exact h.elim
 case body=>
  rintro l pre ⟨i,hi,ht⟩ W ⟨v,U,s,t,Z⟩ ae;have ao:=t.block (E i) (az i hi).1 (az i hi).2;obtain⟨dk,q0,q1,q2,q3,q4,_⟩:=(R.Ca i hi).keep t.size ao;have cb:W.cell? (y w 0)=some (.pointer (some (G bk 0))):=(As (a:=(y w 0)) (t.block w.heap.size (by omega) (by omega))).trans b0;have c1:W.cell? (G bk 1)=some (.slice (some (G Q1 0)) d.m k1):=(As (a:=(G bk 1)) (t.block bk (by omega) (by omega))).trans bz;have zW:=t.size;have lW:w.heap.size<W.heap.size:=by omega
  have lb:bk<W.heap.size:=by omega
  have ai:=O s;have b1:=O t;have aM:=O Z;have HP:=O U;have cn:=U.lt;have cp:=O (bT pre);clear ao s t Z U bb;by_cases hs:AH d.m (d.L i).key
  ·have bf:=O (Bl hs);have cr:=O (bU (pre:=pre) (x:=⟨i,hi,ht⟩) hs);clear hs
   gi_wp2_with fail
   refine wpIn_region_quiet (C:=fun w'=>B9 W w') (by kernel_rfl) (by kernel_rfl) (by kernel_rfl) ((DD _ _).drew) ?_;show wpQuiet _ _ _ _ [_,_,_,_,_,_,_,_,_,_,_,_] _;refine N (h:=N (h:=N (h:=N (h:=N (h:=N (h:=N (h:=N (h:=N (h:=N (h:=?_))))))))));refine GS (fun K hK=>?_);go_simp;apply Exists.intro;refine And.intro (fun w' aj=>?_) (hK _ ?_)
   ·refine(((z bf)▸Cb (d.L i).key d.m _ bw)).mono ?_;rintro e ct ⟨rfl,hb⟩;exact⟨rfl,aj.trans (hb.mono aj.size)⟩
   clear hK K;refine N (h:=?_);refine GO ?_;intro w2 P
   gi_wp2
   exact VR.below ⟨v,HP,ai,b1,aM⟩ P cr (by omega) (A0 _)
  ·have bf:=O (Bj hs);have cu:=O hs;clear hs
   gi_wp2_with fail
   refine wpIn_region_quiet (C:=fun w'=>B9 W w') (by kernel_rfl) (by kernel_rfl) (by kernel_rfl) ((DD _ _).drew) ?_;show wpQuiet _ _ _ _ [_,_,_,_,_,_,_,_,_,_,_,_] _;refine N (h:=N (h:=N (h:=N (h:=N (h:=N (h:=N (h:=N (h:=N (h:=N (h:=?_))))))))));refine GS (fun K hK=>?_);go_simp;apply Exists.intro;refine And.intro (fun w' aj=>?_) (hK _ ?_)
   ·refine(((z bf)▸Cb (d.L i).key d.m _ bw)).mono ?_;rintro e ct ⟨rfl,hb⟩;exact⟨rfl,aj.trans (hb.mono aj.size)⟩
   clear hK K;refine N (h:=?_);refine GO ?_;intro w2 P;have x2:w2.cell? (Y9 w 0)=some v:=(P.cell (p:=(Y9 w 0)) cn).trans (HP.cell (i:=0) (by omega));have ad:Rw w2 u.heap.size CW v (Gx d pre).length (eP E (Gx d pre)):=Gm ai P.size (fun q _ hq=>P.block q hq);have z2:=P.size;have dh:w.heap.size+1<w2.heap.size:=by omega
   have dm:=z cp;have bp:Hid (∀(o:Obj) (v3:V9) (w3:Y),w3.ownsRow u.heap.size CW 1 v3 ((Gx d pre).length+1) (Gb (eP E (Gx d pre)) (Gx d pre).length++[.pointer (some (G (E i) 0))])->(w2.alloc o).grownBy w3 v.ownBlock->∃g3 I,v3=.slice (some (G g3 0)) ((Gx d pre).length+1) I/\(w3.cell? (Y9 w 0)=some v/\w3.frozen? (Y9 w 0)=false)/\KeepsOthers W (w3.setCell (Y9 w 0) (.slice (some (G g3 0)) ((Gx d pre).length+1) I))/\J5 (w.heap.size+1) u.heap.size W (w3.setCell (Y9 w 0) (.slice (some (G g3 0)) ((Gx d pre).length+1) I))/\VR w u (w.heap.size+1) u.heap.size E d (pre++[⟨i,hi,ht⟩]) (w3.setCell (Y9 w 0) (.slice (some (G g3 0)) ((Gx d pre).length+1) I))):=O (fun o v3 w3 A X=>by
    obtain⟨g3,I,rfl⟩:∃g3 I,v3=.slice (some (G g3 0)) ((Gx d pre).length+1) I:=by
     obtain⟨_,⟨_,h0⟩|⟨g,cap,cur,hv,_⟩⟩:=A
     ·omega
     ·exact⟨g,cap,hv⟩
    exact⟨g3,I,rfl,VR.add (x:=⟨i,hi,ht⟩) HP ai b1 aM P A X (by omega) (A0 _) (by omega) cu⟩)
   have bq:=O ad;clear ad P
   gi_wp2_with (gi_at_builtin;refine wpListIn_append_own _ rfl _ _ 324 rfl u.heap.size CW i0 (.pointer none) 1 8 underlying324 cj ck cl cm rfl (by decide) v (Gx d pre).length (Gb (eP E (Gx d pre)) (Gx d pre).length) rfl (IH bq _) (y w2 0) 1 1 [.pointer (some (G (E i) 0))] rfl rfl (GP (BE _ _)) (by simp[Value.oneCell']) (by unfold maxLen;omega) (by omega) (by simp;omega) ?_;intro v3 w3 A X _;obtain⟨g3,I,rfl,⟨x3,f3⟩,cv⟩:=z bp _ v3 w3 A X;clear A X)
   exact cv
 case done=>
  rintro D ys W hD b2 ⟨v,U,s,t,Z⟩ hK;have aq:ys.map (·.1)=AU d d.n:=b2;rw[Za aq]at s;obtain⟨va,vc,rfl⟩:=s.slice;have x0:=U.cell (i:=0) (by omega);have zW:=t.size;have cb:W.cell? (y w 0)=some (.pointer (some (G bk 0))):=(As (a:=(y w 0)) (t.block w.heap.size (by omega) (by omega))).trans b0;have bg:=z HL;have ar:∀q∈Cf d d.n,q<d.n/\(d.L q).turn≠0/\¬AH d.m (d.L q).key:=fun q hq=>ML hq
  have af:=O ar;have cw:=O (HM.below Z);have aM:=O Z;have ai:=O s;have dn:=Q3 bg;have dp:=Na bg;have lW:w.heap.size<W.heap.size:=by omega
  have cx:w.heap.size+1<W.heap.size:=by omega
  have lb:bk<W.heap.size:=by omega
  have au:∀q,(Value.slice va (Cf d d.n).length vc).ownBlock=some q->u.heap.size<=q/\q<W.heap.size:=fun q e=>s.lt q e
  have di:=O au;generalize b3:Cf d d.n=H at*;have cy:=O b3;clear b3;have dq:IntKind.i64.wrap ((H.length:Int)+(g:Int))=(H.length:Int)+(g:Int):=by rw[It];omega
  clear b2 aq U s t Z ar au bb b0 bz ay R bc bx az bu;have cz:Hid (∀W',C9 315 #[J ((H.length:Int)+(g:Int))] W' (R9 (J (EA (H.length+g):Nat)) W')):=O (fun W'=>by
   have h1:=NC (H.length+g) W' bg;rw[Int.natCast_add]at h1;exact h1)
  gi_wp2_with fail
  refine Nq (Z5 w.heap.size bk (w.heap.size+1) (.slice va H.length vc)) (by kernel_rfl) ?_;change wpAnyH _ _ _ _ _ _ _ _ (World.drew _);have bh:Z5 w.heap.size bk (w.heap.size+1) (.slice va H.length vc) W.drew:=⟨cb,x0⟩;refine tz 0 (h:=tz 1 (h:=tz 2 (h:=tz 3 (h:=tz 4 (h:=tz 5 (h:=tz 6 (h:=?_)))))));refine ry 7 (fun K hK=>?_);go_simp;refine(cz _).mono ?_;rintro e w1 ⟨rfl,M⟩;have M:B9 W w1:=(DD W.heap.size W).drew.trans M;have bj:=(M.cell (p:=(y w 0)) lW).trans cb;have x1:=(M.cell (p:=(Y9 w 0)) cx).trans x0;refine hK.out _ _ ⟨bj,x1⟩ (fun cN=>?_);clear hK K bh;have z1:=M.size;generalize b4:EA (H.length+g)=sx at*;have c0:=O b4;clear b4;refine ry 8 (fun K hK=>?_);go_simp;refine(NA bk r0 r1 R2 E S d sx w1 (cw.below M) (by omega)).mono ?_;rintro e w2 ⟨⟨⟨uu,rfl⟩,b5⟩,ag⟩;have z2:=ag.CH.size;have bm:=(As (a:=(y w 0)) (ag.BR w.heap.size (by omega) (by omega))).trans bj;have x2:=(As (a:=(Y9 w 0)) (ag.BR (w.heap.size+1) (by omega) (by omega))).trans x1;refine hK.out _ _ ⟨bm,x2⟩ (fun c3=>?_);clear hK K cN bj x1 cb x0;refine FM ?_;have a6:Hid (KX (fun b=>b=bk) bk w w2):=O (((KX.Ay aM (by omega)).trans (KX.Ay M (by omega))).trans ag);have av:Hid (∀b,b<W.heap.size->b≠bk->w2.heap[b]?=W.heap[b]?):=O (fun b hb Cy=>(ag.BR b (by omega) Cy).trans (M.block b hb));have dr:D<W.heap.size:=(E1.1 hK).1;have c4:w2.heap[D]?=some (.deferred (some [])):=(av D (E1.1 hK).1 (by omega)).trans hK;have c5:=O b5;clear M b5 ag c3 hK
  gi_wp2
  gi_loopw [38] (fun i wr=>∃(j:Nat) (S':Nat->Nat),j<=H.length/\i=J (j:Int)/\AD wr bk r0 r1 w1.heap.size E S' (DH hf d sx (H.take j))/\KX (fun b=>b=bk\/b=w1.heap.size) bk w2 wr) (fun i _=>H.length-(intOf i).toNat)
  case atStart=>exact⟨0,S,by omega,rfl,c5,KX.refl _ _ _⟩
  case round=>
   obtain⟨j,S',hj,rfl,ah,B⟩:=hrel;by_cases a7:j<H.length
   ·obtain⟨p,U⟩:∃p,p=H[j]:=⟨_,rfl⟩;obtain⟨a8,b6,dt⟩:=z af H[j] (List.getElem_mem a7);rw[<-U]at a8 b6;have f:=Mp (hf:=hf) (d:=d) (x:=sx) (l:=H.take j) (by simp;omega) (fun p U=>(af p (List.mem_of_mem_take U)).1);rw[List.length_take,Nat.min_eq_left (by omega)]at f;have b7:DH hf d sx (H.take (j+1))=A6 hf (DH hf d sx (H.take j)) (d.L p).key p:=by rw[<-List.take_append_getElem a7,Jc,<-U]
    obtain⟨gq,cq,eq,g1,g2,_,b8,_⟩:=ai.form (by omega);cases eq;have hb:=fun b (h:b<W.heap.size) (h':b≠bk)=>(B.BR b (by omega) (by rintro(e|e)<;>omega)).trans (av b h h')
    have rc:wr.cell? (G gq j)=some (.pointer (some (G (E p) 0))):=(As (a:=(G gq j)) (hb gq g2 (by omega))).trans (by rw[b8 j a7,U];simp[eP,List.getD,a7]);have b9:wr.cell? (y w 0)=some (.pointer (some (G bk 0))):=(As (a:=(y w 0)) (B.BR w.heap.size (by omega) (by rintro(e|e)<;>omega))).trans bm;have Q:=ah.Ca p (by rw[f.n];exact a8);rw[f.L]at Q;have du:=B.CH.size;have dv:=Q.lt;have dw:gq<wr.heap.size:=by omega
    have dx:w.heap.size<wr.heap.size:=by omega
    have dy:bk<wr.heap.size:=by omega
    have aw:Hid (C9 307 #[.pointer (some (G bk 2)),V (d.L p).key.kind (d.L p).key.num (d.L p).key.Ae (d.L p).key.str (d.L p).key.ref,.pointer (some (G (E p) 0))] wr.drew fun e w5=>(∃u,e=.returned u)/\(∃S5,AD w5 bk r0 r1 w1.heap.size E S5 (DH hf d sx (H.take (j+1))))/\KX (fun b=>b=bk\/b=w1.heap.size) bk w2 w5/\VY w.heap.size bk (E p) (d.L p).key w5):=O (by
     have dz:=f.use;have dC:=f.used;refine(JA T cg bk r0 r1 w1.heap.size E S' _ (d.L p).key p (hf (d.L p).key) (HH p a8 b6) wr.drew (ch _ _ HT ((a6.CH.trans B.CH).drew)) (ah.below (DD _ _).drew) ⟨by rw[f.n];omega,by rw[f.m];omega,by rw[f.x];omega⟩ (fun q hq=>by rw[f.x]at hq;have:=f.pos q hq;omega) (by rw[f.L]) (by rw[f.x];omega) (by omega) (by omega)).mono ?_;rintro e w5 ⟨⟨hu,a5,S5,c6,bn⟩,br⟩;rw[<-FU c6,<-b7]at bn;have ak:KX (fun b=>b=bk\/b=w1.heap.size) bk w2 w5:=B.trans (KX.trans ((KX.refl _ _ _).drew) br);have ax:=Mp (hf:=hf) (d:=d) (x:=sx) (l:=H.take (j+1)) (by simp;omega) (fun p U=>(af p (List.mem_of_mem_take U)).1);have F:=bn.Ca p (by rw[ax.n];exact a8);rw[ax.L]at F;exact⟨hu,⟨S5,bn⟩,ak,(As (a:=(y w 0)) (ak.BR w.heap.size (by omega) (by rintro(e|e)<;>omega))).trans bm,F.k0,F.k1,F.k2,F.k3,F.k4⟩)
    have bh:VY w.heap.size bk (E p) (d.L p).key wr.drew:=⟨b9,Q.k0,Q.k1,Q.k2,Q.k3,Q.k4⟩;clear f b7 b8 hb Q ah B b9 U
    gi_wp2_with fail
    refine Nq (VY w.heap.size bk (E p) (d.L p).key) (by kernel_rfl) ?_;change wpAnyH _ _ _ _ _ _ _ _ (World.drew _);refine tz 0 (h:=tz 1 (h:=tz 2 (h:=tz 3 (h:=tz 4 (h:=tz 5 (h:=tz 6 (h:=tz 7 (h:=tz 8 (h:=?_)))))))));refine ry 9 (fun K hK=>?_);go_simp;refine aw.mono ?_;rintro e w5 ⟨⟨dU,rfl⟩,⟨S5,ca⟩,ak,cc⟩;refine hK.out _ _ cc (fun _=>?_);clear hK K bh aw cc;refine FM ?_;have c7:=O ca;have c8:=O ak;clear ca ak
    gi_wp2
    go_roundw
    case rel=>exact⟨j+1,S5,by omega,by go_num,c7,c8⟩
    case measure=>simp[intOf];omega
   ·have c9:j=H.length:=by omega
    subst c9;rw[List.take_length]at ah;have cd:wr.heap[D]?=some (.deferred (some [])):=(B.BR D (by omega) (by rintro(e|e)<;>omega)).trans c4;have da:=O ah;have dc:Hid (KX (fun b=>b=bk) bk w wr):=O ⟨a6.CH.trans B.CH,fun b hb hm=>(B.BR b (by have:=a6.CH.size;omega) (by rintro(e|e);exact hm e;omega)).trans (a6.BR b hb hm)⟩;clear ah B
    gi_wp2
    refine⟨by simp,.inl ⟨_,_,rfl,AaE cd,?_⟩⟩;have hg:=ID wr D (.deferred none);exact⟨_,results_none rfl _ _ _,⟨⟨_,rfl⟩,w1.heap.size,S',by rw[z cy,z c0];exact da.grown hg (fun r e=>by cases e;exact⟨_,cd,rfl⟩),by omega⟩,dc.grown hg (by omega) (fun k e=>by cases e;exact .inl (by omega))⟩
theorem Bo.TQ{w:Y}{b:Nat}{p:Pr}{i:Nat}(h:w.heap[b]?=some (.cells (Fu p i) 294 (0,0))):Bo w b p i:=
 ⟨(E1.1 h).1,by simp[World.cell?,h,Fu],by simp[World.cell?,h,Fu],by simp[World.cell?,h,Fu],by simp[World.cell?,h,Fu],by simp[World.cell?,h,Fu],by simp[World.cell?,h,Fu],by simp[World.cell?,h,Fu],by simp[World.cell?,h,Fu],by simp[World.cell?,h,Fu],by simp[World.cell?,h,Fu],by simp[World.cell?,h,Fu],by simp[World.cell?,h,Fu],h⟩
theorem Bo.XW{w:Y}{b:Nat}{p:Pr}{i:Nat}(h:Bo w b p i)(j:Nat):Bo (w.setCell (G b 11) (J (j:Int))) b p j:=
 Bo.TQ ((GW w b 11 _ _ _ h.ob).trans (by simp[Fu]))
structure NZ (p n0:Nat) (E:Nat->Nat) (n:Nat) (A B:Y):Prop where
 size:A.heap.size<=B.heap.size
 block:∀b,b<n0->b≠p->(∀i,i<n->E i≠b)->B.heap[b]?=A.heap[b]?
 Ca:∀i q,i<n->q≠11->B.cell? (G (E i) q)=A.cell? (G (E i) q)
theorem NZ.refl(p n0:Nat)(E:Nat->Nat)(n:Nat)(A:Y):NZ p n0 E n A A:=⟨A0 _,fun _ _ _ _=>rfl,fun _ _ _ _=>rfl⟩
theorem NZ.trans{p n0:Nat}{E:Nat->Nat}{n:Nat}{A B C:Y}(h:NZ p n0 E n A B)(k:NZ p n0 E n B C):NZ p n0 E n A C:=⟨FZ h.size k.size,fun b h1 h2 h3=>(k.block b h1 h2 h3).trans (h.block b h1 h2 h3),fun i q h1 h2=>(k.Ca i q h1 h2).trans (h.Ca i q h1 h2)⟩
theorem NZ.Ay{p n0:Nat}{E:Nat->Nat}{n:Nat}{A B:Y}(h:Below n0 A B)(a:∀i,i<n->E i<n0):NZ p n0 E n A B:=⟨h.size,fun b h1 _ _=>h.block b h1,fun i q h1 _=>h.cell (p:=(G (E i) q)) (a i h1)⟩
theorem NZ.put{p n0:Nat}{E:Nat->Nat}{n:Nat}{w:Y}(hn:n0<=w.heap.size)(a:∀i,i<n->E i<n0)(W:Y)(l:Nat)(o o':Obj)(hl:w.heap.size<=l)(h:W.heap[l]?=some o)(_:o.isCells=false)(_:o.isWalk=false):NZ p n0 E n W (W.putObj l o'):=
 NZ.Ay ((DD n0 W).grown (ID W l o') (by have:=(E1.1 h).1;omega) (fun k e=>by cases e;omega)) a
theorem ND(n:Nat)(hn:1<=n)(bk r U R2 C p n0:Nat)(E S:Nat->Nat)(d:Dc)(w:Y)(P:I0 w bk r U R2 E S d)(Q:Small d)(V:0<d.n->r<n0/\r≠p/\∀i,i<d.n->E i≠r)
  (m0:w.cell? (G C 0)=some (Q9 bk)):
  SeqStopsK Fence.wide n prog 248 #[Q9 C] (fun a:He d=>#[Q9 (E a.1)]) (NZ p n0 E d.n)
   (V6 d) (P3 d) d.n w:=fun l Z Jx W D X F R T=>by
 have lm:=Hi _ _ m0;have m0:=(D.cell (p:=(G C 0)) lm).trans m0;have c:=P.below D;obtain⟨a0,k0,c0,s⟩:=c.c0;have H:=O s;clear s;have lb:=c.lt;have ad:=Q.n;have HY:=O R;have H0:=O T;have t:=O c;clear F X R D T c P Q;refine callsIn_of_wp func248 rfl trivial ?_ rfl;simp only[ntmps248,Aas,Aad,UP,Nat.reduceAdd,Nat.reduceSub,Aag,Aaf,Aat,Aak,So,Aal]
 gi_wp2
 gi_loopw [10] (fun i wr=>∃(k:Nat) (pre:List (He d)),k<=d.n/\i=J (k:Int)/\G8 d k pre/\Z pre wr/\NZ p n0 E d.n W wr) (fun i _=>d.n-(intOf i).toNat)
 case atStart=>exact⟨0,[],by omega,rfl,rfl,H0,NZ.refl _ _ _ _ _⟩
 case round=>
  obtain⟨k,pre,hk,rfl,f,g,j⟩:=hrel;by_cases b:k<d.n
  ·obtain rfl:=z H (by omega);have m:=V (by omega);have p0:=(As (a:=(G r k)) (j.block _ m.1 m.2.1 m.2.2)).trans (t.r0 k b);have t0:=(j.Ca k 10 b (by decide)).trans (t.Ca k b).tn;have o:=O f;have u:=O j;clear f j m;by_cases q:(d.L k).turn=0
   ·have B:Hid (G8 d (k+1) pre):=O (by unfold G8;rw[Ct q];exact o);rw[q]at t0;clear q
    gi_wp2
    refine⟨fun _ h=>(by cases h),?_⟩
    gi_wp2
    go_roundw
    case rel=>exact⟨k+1,pre,by omega,by go_num,B,g,u⟩
    case measure=>simp[intOf];omega
   ·have ae:((d.L k).turn !=0)=true:=by simp[q]
    obtain⟨fn,tmps,assign,body,hy,v⟩:=z HY pre ⟨k,b,q⟩ wr g (by
     have h1:(pre.map (·.1)).length=(AU d k).length:=congrArg List.length o;rw[AaB]at h1;have:=Iq d k;omega)
    have B:Hid (G8 d (k+1) (pre++[⟨k,b,q⟩])):=O (by
     unfold G8;rw[Br q,Aac,show pre.map (·.1)=AU d k from z o];rfl)
    have I:=O v;clear v g;dsimp only at hy
    gi_wp2
    refine I.mono ?_;rintro e W3 (⟨rfl,K,M⟩|⟨rfl,x⟩)
    ·clear I hy
     gi_wp2
     go_roundw
     case rel=>exact⟨k+1,_,by omega,by go_num,B,K,u.trans M⟩
     case measure=>simp[intOf];omega
    ·clear I hy
     gi_wp2
     refine DO (results_none rfl _ _ _) rfl ?_;exact⟨⟨_,rfl⟩,.inr ⟨_,B.pre (by omega),x⟩⟩
  ·have A:k=d.n:=by omega
   subst A;have HS:=O f;clear f
   gi_wp2
   go_end0;exact⟨⟨_,rfl⟩,.inl ⟨pre,HS,g⟩⟩
end
section
noncomputable def OH(hf:Vl->Nat)(d:Dc):Dc:=if(d.x:Int)<2*(d.used+1)then DH hf d (EA ((Cf d d.n).length+1)) (Cf d d.n)else d
def Jp(e:Nat)(k:Vl)(W:Y):Prop:=W.cell? (G e 0)=some (J k.kind)/\W.cell? (G e 1)=some (J k.num)/\W.cell? (G e 2)=some (F9 k.Ae)/\W.cell? (G e 3)=some (.string k.str)/\W.cell? (G e 4)=some (J k.ref)
theorem Me(T:World->Prop)(H:DT T)(hf:Vl->Nat)(bk:Nat)(I:∀w w',T w->Below bk w w'->T w')(r0 r1:V9)(R2:Nat)(E S:Nat->Nat)(d:Dc)(w:Y)(hT:T w)(A:AD w bk r0 r1 R2 E S d)(Z:Small d)
  (hH:∀i,i<d.n->(d.L i).turn≠0->NV T (d.L i).key (hf (d.L i).key)) (s:(Cf d d.n).length+1<=500) (r:Bo w (E d.n) (d.L d.n) d.n) (au:bk<E d.n) (hk:NV T (d.L d.n).key (hf (d.L d.n).key))
  (hX:∀j,j<d.x->d.X j=0\/d.X j=-1\/0<d.X j) (hu:(Cd d.X d.x:Int)=d.used):
  C9 296 #[.pointer (some (G bk 0)),.pointer (some (G (E d.n) 0))] w fun e w'=>((∃u,e=.returned u)/\∃B S',AD w' bk r0 r1 B E S' (A6 hf (OH hf d) (d.L d.n).key d.n))/\KX (fun b=>b=bk\/b=R2) bk w w':=by
 have av:=A.lt;have c3:=A.c3;have c4:=A.c4;have hx:=Z.x;have ae:Cd d.X d.x<=d.x:=ZT _ _;have aw:IntKind.i64.wrap (d.used+1)=d.used+1:=by rw[It];omega
 have ax:IntKind.i64.wrap (2*(d.used+1))=2*(d.used+1):=by rw[It];omega
 obtain⟨c2,M⟩:=A.slots.block (b:=R2) rfl;have ay:E d.n≠R2:=fun e=>A9 (e▸r.ob) M (by decide)
 have az:=A.JP;have C:∀(W:Y) (Q2:Nat) (P:Nat->Nat) (c:Dc),AD W bk r0 r1 Q2 E P c->Small c->T W->Bo W (E d.n) (d.L d.n) d.n->c.n=d.n->c.L=d.L->(∀j,j<c.x->c.X j=0\/c.X j=-1\/0<c.X j)->Cd c.X c.x<c.x->0<=c.used->c.used<=4194304->
   C9 307 #[.pointer (some (G bk 2)),V (d.L d.n).key.kind (d.L d.n).key.num (d.L d.n).key.Ae (d.L d.n).key.str (d.L d.n).key.ref,.pointer (some (G (E d.n) 0))] W fun e w'=>((∃u,e=.returned u)/\∃S',AD w' bk r0 r1 Q2 E S' (A6 hf c (d.L d.n).key d.n))/\KX (fun b=>b=bk\/b=Q2) bk W w':=fun W Q2 P c h1 h2 h3 h4 h5 h6 h7 h8 h9 aj=>by
  refine(JA T H bk r0 r1 Q2 E P c (d.L d.n).key d.n (hf (d.L d.n).key) hk W h3 h1 h2 h7 (by rw[h6]) h8 h9 aj).mono ?_;rintro e w' ⟨⟨D,a,S',ak,hN⟩,ao⟩;refine⟨⟨D,S',?_⟩,ao⟩;rw[FU ak];exact hN
 by_cases D:(d.x:Int)<2*(d.used+1)
 ·have hd:decide ((d.x:Int)<2*(d.used+1))=true:=by simpa using D
  have HR:Hid (OH hf d=DH hf d (EA ((Cf d d.n).length+1)) (Cf d d.n)):=O (C3 D);have aM:=Q3 s;have a6:=Na s;have af:=Mp (hf:=hf) (d:=d) (x:=EA ((Cf d d.n).length+1)) (l:=Cf d d.n) (by omega) (fun p hp=>(ML hp).1);have F:Hid (∀W,B9 w W->C9 306 #[.pointer (some (G bk 0)),J 1] W fun e w'=>((∃u,e=.returned u)/\∃B S',AD w' bk r0 r1 B E S' (DH hf d (EA ((Cf d d.n).length+1)) (Cf d d.n))/\W.heap.size<=B)/\KX (fun b=>b=bk) bk W w'):=O (fun W hW=>G5 T H hf bk I r0 r1 R2 E S d 1 W (H _ _ hT hW) (A.below hW) Z hH s);generalize DH hf d (EA ((Cf d d.n).length+1)) (Cf d d.n)=c at*;have ad:=O C;have HE:=O r;have HT:=O hT;have aq:=O af;have HS:=O Z;have HH:=O hH;have Q:=r.lt;clear C r A hT af Z hH hX hu ae M D
  go_enter func296,ntmps296
  go_wp2_with fail
  go_region
  go_wp2_with fail
  refine(F _ (DD _ _).drew).mono ?_;rintro e w1 ⟨⟨⟨uu,rfl⟩,Q2,S1,ag,ah⟩,f⟩;have f:KX (fun b=>b=bk) bk w w1:=(KX.refl _ _ _).drew.trans f;have ah:w.heap.size<=Q2:=ah;have z1:=f.CH.size;have q:Bo w1 (E d.n) (d.L d.n) d.n:=HE.keep z1 (f.BR _ Q (by omega));have R:Jp (E d.n) (d.L d.n).key w1.drew:=⟨q.k0,q.k1,q.k2,q.k3,q.k4⟩;have g:Hid (C9 307 #[.pointer (some (G bk 2)),V (d.L d.n).key.kind (d.L d.n).key.num (d.L d.n).key.Ae (d.L d.n).key.str (d.L d.n).key.ref,.pointer (some (G (E d.n) 0))] w1.drew fun e w'=>((∃u,e=.returned u)/\∃S',AD w' bk r0 r1 Q2 E S' (A6 hf c (d.L d.n).key d.n))/\Jp (E d.n) (d.L d.n).key w'/\KX (fun b=>b=bk\/b=R2) bk w w'):=O (by
   have o:=z aq;have a7:=o.use;have a8:=o.used;have ai:=z HS;refine(ad w1.drew Q2 S1 c (ag.below (DD _ _).drew) ⟨by rw[o.n];exact ai.n,by rw[o.m];exact ai.m,by rw[o.x];omega⟩ (I _ _ HT f.CH.drew) (q.keep (A0 _) rfl) o.n o.L (fun j hj=>by rw[o.x]at hj;have:=o.pos j hj;omega) (by rw[o.x];omega) (by omega) (by omega)).mono ?_;rintro e w' ⟨h1,h2⟩;have h3:=h2.BR (E d.n) q.lt (by rintro(e|e)<;>omega);have k:=q.keep h2.CH.size h3;exact⟨h1,⟨k.k0,k.k1,k.k2,k.k3,k.k4⟩,f.CH.trans (Below.trans (DD _ _).drew h2.CH),fun b hb hm=>(h2.BR b (by show b<w1.heap.size;omega) (by rintro(e|e);exact hm (.inl e);omega)).trans (f.BR b hb (fun e=>hm (.inl e)))⟩)
  clear ag f q F;go_wp2_with fail
  refine H9 (Jp (E d.n) (d.L d.n).key) ?_;refine tz 0 (h:=tz 1 (h:=tz 2 (h:=tz 3 (h:=tz 4 (h:=tz 5 (h:=tz 6 (h:=tz 7 (h:=tz 8 (h:=?_)))))))));refine ry 9 (fun K hK=>?_);go_simp;refine g.mono ?_;rintro e w2 ⟨⟨⟨ar,rfl⟩,P,U⟩,t,v⟩;refine hK.out _ _ t (fun _=>?_);clear hK K R g t;refine FM ?_;go_wp2;go_end0;exact⟨⟨⟨_,rfl⟩,Q2,P,by rw[z HR];exact U⟩,v⟩
 ·have hd:decide ((d.x:Int)<2*(d.used+1))=false:=by simpa using D
  have HR:Hid (OH hf d=d):=O (Cs D);have Q:=r.lt;have R:Jp (E d.n) (d.L d.n).key w.drew.drew:=⟨r.k0,r.k1,r.k2,r.k3,r.k4⟩;have g:Hid (C9 307 #[.pointer (some (G bk 2)),V (d.L d.n).key.kind (d.L d.n).key.num (d.L d.n).key.Ae (d.L d.n).key.str (d.L d.n).key.ref,.pointer (some (G (E d.n) 0))] w.drew.drew fun e w'=>((∃u,e=.returned u)/\∃S',AD w' bk r0 r1 R2 E S' (A6 hf d (d.L d.n).key d.n))/\Jp (E d.n) (d.L d.n).key w'/\KX (fun b=>b=bk\/b=R2) bk w w'):=O (by
   refine(C w.drew.drew R2 S d (A.below (DD _ _).drew.drew) Z (I _ _ hT (DD _ _).drew.drew) (r.keep (A0 _) rfl) rfl rfl hX (by omega) (by omega) (by omega)).mono ?_;rintro e w' ⟨h1,h2⟩;have h3:=h2.BR (E d.n) Q (by rintro(e|e)<;>omega);have k:=r.keep h2.CH.size h3;exact⟨h1,⟨k.k0,k.k1,k.k2,k.k3,k.k4⟩,KX.trans ((KX.refl _ _ _).drew.drew) h2⟩)
  clear A Z hT hH r C hk hX hu ae M D
  go_enter func296,ntmps296
  go_wp2_with fail
  go_region
  go_wp2_with fail
  refine H9 (Jp (E d.n) (d.L d.n).key) ?_;refine tz 0 (h:=tz 1 (h:=tz 2 (h:=tz 3 (h:=tz 4 (h:=tz 5 (h:=tz 6 (h:=tz 7 (h:=tz 8 (h:=?_)))))))));refine ry 9 (fun K hK=>?_);go_simp;refine g.mono ?_;rintro e w2 ⟨⟨⟨ar,rfl⟩,P,U⟩,t,v⟩;refine hK.out _ _ t (fun _=>?_);clear hK K R g t;refine FM ?_;go_wp2;go_end0;exact⟨⟨⟨_,rfl⟩,R2,P,by rw[z HR];exact U⟩,v⟩
section
variable {w w3:Y} {bk:Nat} {r0 r1:V9} {R2:Nat} {E S:Nat->Nat} {d:Dc}
theorem AD.aJ(h:AD w bk r0 r1 R2 E S d){W:Y}(r:B9 w W){o:Obj}{g3 f:Nat}{x:Int}{a:Option Addr}(B:a=B1 E x)(h1:w3.ownsRow (bk+1) CW 1 (S9 g3 (d.m+1) f) (d.m+1) (Gb (fun i=>B1 E (d.I i)) d.m++[.pointer a]))(hg:W.grownBy w3 r1.ownBlock)(hl:r1.ownBlock=some g3\/w.heap.size<=g3):
  AD (w3.setCell (G bk 1) (S9 g3 (d.m+1) f)) bk r0 (S9 g3 (d.m+1) f) R2 E S {d with m:=d.m+1,I:=Bm d.I d.m x}/\KX (fun b=>b=bk\/r1.ownBlock=some b) bk w (w3.setCell (G bk 1) (S9 g3 (d.m+1) f)):=by
 have g:=h.lt;have s:=r.size;have hz:w.heap.size<=w3.heap.size:=FZ s hg.size;have l:∀b,b<w.heap.size->r1.ownBlock≠some b->w3.heap[b]?=w.heap[b]?:=fun b hb C=>(hg.block b (by omega) (fun e=>C e.symm)).trans (r.block b hb)
 have p:r1.ownBlock≠some bk:=fun e=>by have:=(h.ints.lt bk e).1;omega
 have os:∀b,b≠bk->(w3.setCell (G bk 1) (S9 g3 (d.m+1) f)).heap[b]?=w3.heap[b]?:=fun b hb=>At _ _ _ _ (by exact hb)
 have hc:∀q,w3.cell? (G bk q)=w.cell? (G bk q):=fun q=>As (a:=(G bk q)) (l bk g p)
 have n:∀q,q≠1->(w3.setCell (G bk 1) (S9 g3 (d.m+1) f)).cell? (G bk q)=w.cell? (G bk q):=fun q hq=>(Ab (fun e=>hq e.symm)).trans (hc q)
 have ty:∀{t:TypeId} {c:Array Value} {b:Nat},w.heap[b]?=some (.cells c t (0,0))->t≠CW->r1.ownBlock≠some b:=fun{t c b} hb D e=>by
  obtain⟨K,u⟩:=h.ints.block e;exact A9 hb u D
 have F:=(World.ownsRow.lt h1 g3 rfl).1;refine⟨⟨by simpa using Be g hz,(n 0 (by decide)).trans h.c0,NX _ _ _ (by rw[hc,h.c1];rfl),(n 2 (by decide)).trans h.c2,(n 3 (by decide)).trans h.c3,(n 4 (by decide)).trans h.c4,(n 5 (by decide)).trans h.c5,(n 6 (by decide)).trans h.c6,fun q=>by rw[World.frozen?_setCell];exact(OK (a:=(G bk q)) (l bk g p)).trans (h.fz q),?_,?_,⟨_,_,rfl⟩,?_,?_,fun i hi=>?_,h.eb,h.inj,fun j hj=>?_,h.sg⟩,?_⟩
 ·exact Ck h.log (fun q e=>(os q (by have:=(h.log.lt q e).1;omega)).trans (l q (h.log.lt q e).2 (fun e'=>h.ap q e e')))
 ·have h2:(w3.setCell (G bk 1) (S9 g3 (d.m+1) f)).ownsRow (bk+1) CW 1 (S9 g3 (d.m+1) f) (d.m+1) (Gb (fun i=>B1 E (d.I i)) d.m++[.pointer a]):=Ck h1 (fun q e=>os q (by
   have e':g3=q:=by simpa[Value.ownBlock]using e
   omega))
  rw[QR]at h2;refine Rw.congr h2 (fun j hj=>?_);show B1 E (Bm d.I d.m x j)=Bm (fun i=>B1 E (d.I i)) d.m a j;by_cases e:j=d.m
  ·subst e;rw[Al,Al,B]
  ·rw[Af _ _ e,Af _ _ e]
 ·exact Ck h.slots (fun q e=>by
   obtain⟨c,hb⟩:=h.slots.block e;exact(os q (by have:=(h.slots.lt q e).1;omega)).trans (l q (h.slots.lt q e).2 (ty hb (by decide))))
 ·intro q e e';have e2:g3=q:=by simpa[Value.ownBlock]using e'
  subst e2;rcases hl with hl|hl
  ·exact h.ap g3 e hl
  ·have:=(h.log.lt g3 e).2;omega
 ·exact(h.Ca i hi).keep (by simpa using hz) ((os _ (by have:=h.eb i hi;omega)).trans (l _ (h.Ca i hi).lt (ty (h.Ca i hi).ob (by decide))))
 ·by_cases H:d.X j=0
  ·exact⟨fun v=>absurd v (by show¬0<d.X j;omega),fun v=>absurd v (by show¬d.X j<0;omega)⟩
  ·exact Dj.keep (d:={d with m:=d.m+1,I:=Bm d.I d.m x}) (w:=w) (h.sl j hj) (by simpa using hz) (fun c hc=>(os _ (by have:=h.sg j hj H;omega)).trans (l _ (E1.1 hc).1 (ty hc (by decide))))
 ·refine⟨((r.mono (by omega)).grown hg (by omega) (fun k e=>by have:=(h.ints.lt k e).1;omega)).setCell (by exact A0 _) _,fun b hb A=>(os b (fun e=>A (.inl e))).trans (l b hb (fun e=>A (.inr e)))⟩
end
end
theorem ZD{c:Dc}{n:Nat}{v:Vl}:∀(f a:Nat),probe {c with n:=n} v a f=probe c v a f:=by
 intro f
 induction f with
 |zero=>intro a;rfl
 |succ f ih=>intro a;unfold probe;rw[ih]
theorem X5(c:Dc)(n:Nat)(v:Vl)(a:Nat):Bi {c with n:=n} v a=Bi c v a:=by
 unfold Bi;show _=_;simp only[ZD]
theorem D4.cut{K:Vl->Prop}{hf:Vl->Nat}{c:Dc}{n:Nat}(h:Co K hf c)(hn:c.n=n+1)(hs:AH c.m (c.L n).key):D4 {c with n:=n}:=by
 obtain⟨h1,h2,h3,h4⟩:=h.d4;refine⟨h1,fun j hj=>?_,?_,?_⟩
 ·rcases h.idx.range j hj with e|e|⟨e1,e2,e3,a⟩
  ·exact .inl e
  ·exact .inr (.inl e)
  ·have Cy:(c.X j-1).toNat≠n:=fun e=>a (by rw[e];exact hs)
   exact .inr (.inr ⟨e1,by show c.X j<=(n:Int);omega,e3,a⟩)
 ·rw[D8];rw[D8]at h3;exact h3
 ·rw[D8];rw[D8]at h4;exact h4
def VZ(bk R2 x s b e:Nat)(W:Y):Prop:=W.cell? (G bk 3)=some (S9 R2 x x)/\W.cell? (G R2 s)=some (Q9 b)/\W.cell? (G b 5)=some (Q9 e)
theorem Hn(bk:Nat)(r0 r1:V9)(R2:Nat)(E S:Nat->Nat)(d:Dc)(s:Nat)(w:Y)(a:AD w bk r0 r1 R2 E S d)(c:Small d)(hs:s<d.x):
  C9 292 #[.pointer (some (G bk 2)),J (s:Int)] w fun e w'=>((∃u,e=.returned u)/\∃S',AD w' bk r0 r1 R2 E S' {d with X:=Bm d.X s (-1)})/\KX (fun b=>b=R2) bk w w':=by
 have hx:=c.x;have i:=a.lt;have c3:=a.c3;have f:=a.JP;have j:=f.2;obtain⟨g,m,e,_,_,_,hc,hf⟩:=a.slots.form (by omega);cases e;have d0:=hc s hs;have f0:=hf s;have k:=O (a.cY hs (x:=-1) (by decide) (A:=Qq) ⟨fun h=>by omega,fun _=>rfl⟩);have l:Hid (KX (fun b=>b=R2) bk w ((w.setCell (G R2 s) (Q9 w.heap.size)).alloc (.cells Qq 333))):=O (KX.alloc (n:=bk) (A:=w) ((KX.refl (fun b=>b=R2) _ _).setCell (by omega) (fun _=>rfl) _) (by omega) _);clear a c hc hf f
 go_enter func292,ntmps292
 go_wp2;go_end0;exact⟨⟨⟨_,rfl⟩,_,k⟩,l⟩
structure Yz (K:Vl->Prop) (hf:Vl->Nat) (w:Y) (bk:Nat) (r0 r1:V9) (R2:Nat) (E:Nat->Nat) (d D1:Dc) (c:Dc) (f:Nat) (a:V9) (S:Nat->Nat) (W:Y):Prop where
 inv:Co K hf c
 n:c.n=d.n+1
 L:c.L=d.L
 x:c.x=d.x
 m:d.m+1<=c.m
 pos:Gp c.X c.x<f
 mv:Dl hf f c=Dl hf (d.x+1) D1
 sum:c.m+Gp c.X c.x<=d.m+1+d.x
 bm:AD W bk r0 a R2 E S {c with n:=d.n}
 kx:KX (fun b=>b=bk\/r1.ownBlock=some b\/b=R2) bk w W
 row:∀b,a.ownBlock=some b->r1.ownBlock=some b\/w.heap.size<=b
theorem Yz.below{K:Vl->Prop}{hf:Vl->Nat}{w:Y}{bk:Nat}{r0 r1:V9}{R2:Nat}{E:Nat->Nat}{d D1 c:Dc}{f:Nat}{a:V9}{S:Nat->Nat}{W W':Y}(h:Yz K hf w bk r0 r1 R2 E d D1 c f a S W)(hb:B9 W W')(b:bk<w.heap.size):Yz K hf w bk r0 r1 R2 E d D1 c f a S W':=
 ⟨h.inv,h.n,h.L,h.x,h.m,h.pos,h.mv,h.sum,h.bm.below hb,h.kx.trans (KX.Ay hb (by have:=h.bm.lt;omega)),h.row⟩
theorem Yz.step{K:Vl->Prop}{hf:Vl->Nat}(p:KeyLaw K hf){w:Y}{bk:Nat}{r0 r1:V9}{R2:Nat}{E:Nat->Nat}{d D1 c:Dc}{f:Nat}{g i:V9}{S S':Nat->Nat}{W k j:Y}{s:Nat}(h:Yz K hf w bk r0 r1 R2 E d D1 c f g S W)(e:Bi c (DA ((c.m:Int)+1)) (hf (DA ((c.m:Int)+1)))=some s)
  (k1:KX (fun b=>b=bk\/g.ownBlock=some b) bk W k) (q:∀b,i.ownBlock=some b->g.ownBlock=some b\/W.heap.size<=b) (k2:KX (fun b=>b=R2) bk k j) (r:AD j bk r0 i R2 E S' {c with m:=c.m+1,I:=Bm c.I c.m (c.X s),X:=Bm c.X s (-1),n:=d.n}) (t:bk<w.heap.size):∃f',Yz K hf w bk r0 r1 R2 E d D1 (FA c s) f' i S' j:=by
 obtain⟨s1,s2,A,B⟩:=h.inv.slot e;obtain⟨f',rfl⟩:∃f',f=f'+1:=⟨f-1,by have:=h.pos;omega⟩;have u:=MW s2 c.x;rw[C3 s1]at u;have l:=h.pos;have o:=h.sum;have C:=h.m;have hz:=h.kx.CH.size;have v:=k1.CH.size;refine⟨f',Ox p h.inv e,h.n,h.L,h.x,by show d.m+1<=c.m+1;omega,by show Gp (Bm c.X s (-1)) c.x<f';omega,by rw[<-h.mv,GK e],by show c.m+1+Gp (Bm c.X s (-1)) c.x<=_;omega,r,⟨h.kx.CH.trans (k1.CH.trans k2.CH),fun b hb a=>?_⟩,fun b hb=>?_⟩
 ·refine(k2.BR b (by omega) (fun e=>a (.inr (.inr e)))).trans ((k1.BR b (by omega) (fun e=>?_)).trans (h.kx.BR b hb a));rcases e with e|e
  ·exact a (.inl e)
  ·rcases h.row b e with e'|e'
   ·exact a (.inr (.inl e'))
   ·omega
 ·rcases q b hb with e'|e'
  ·exact h.row b e'
  ·exact .inr (by omega)
theorem Md(T:World->Prop)(b2:DT T)(hf:Vl->Nat)(K:Vl->Prop)(KL:KeyLaw K hf)(b3:∀v,K v->NV T v (hf v))(bk:Nat)(b4:∀w w',T w->Below bk w w'->T w')(r0 r1:V9)(R2:Nat)(E S:Nat->Nat)(d:Dc)(w:Y)(hT:T w)(hM:AD w bk r0 r1 R2 E S d)(hS:Small d)(cj:d.m<=4000000)
  (b5:(d.L d.n).key.kind=2) (G4:(d.L d.n).key.num=(d.m:Int)+1) (hI:Co K hf {d with n:=d.n+1,m:=d.m+1,I:=Bm d.I d.m ((d.n:Int)+1)}):
  C9 295 #[.pointer (some (G bk 0)),.pointer (some (G (E d.n) 0))] w fun e w'=>((∃u,e=.returned u)/\∃b6 S',AD w' bk r0 b6 R2 E S' {Dl hf (d.x+1) {d with n:=d.n+1,m:=d.m+1,I:=Bm d.I d.m ((d.n:Int)+1)}with n:=d.n})/\KX (fun b=>b=bk\/r1.ownBlock=some b\/b=R2) bk w w':=by
 obtain⟨i0,a6,a7,a8,bb⟩:=Tn Im;obtain⟨D1,B⟩:∃D1:Dc,D1={d with n:=d.n+1,m:=d.m+1,I:=Bm d.I d.m ((d.n:Int)+1)}:=⟨_,rfl⟩;rw[<-B]at hI ⊢;have ck:d.x<=4000:=by
  have:=hI.sz;rw[B]at this;rcases this with h|h
  ·have h:d.x=0:=h;omega
  ·exact h.2.1
 obtain⟨Q1,q1,rfl⟩:=hM.rf;have au:=hM.lt;have c1:=hM.c1;have f1:=hM.fz 1;have bj:=O hM.ints;have cl:=(hM.ints.lt Q1 rfl).1;have ax:∀(W:Y) (c:Dc) (f:Nat) (R:V9) (S':Nat->Nat),Yz K hf w bk r0 (.slice (some (G Q1 0)) d.m q1) R2 E d D1 c f R S' W->(∀w',B9 W w'->C9 270 #[.pointer (some (G bk 0))] w' fun e bc=>e=.returned (V 2 ((c.m:Int)+1) 0 ⟨#[]⟩ 0)/\B9 w' bc)/\
   (∀w',B9 W w'->C9 280 #[.pointer (some (G bk 2)),V 2 ((c.m:Int)+1) 0 ⟨#[]⟩ 0] w' fun e bc=>e=.returned (J (Hz (Bi c (DA ((c.m:Int)+1)) (hf (DA ((c.m:Int)+1))))))/\B9 w' bc):=fun W c f R S' h=>by
  have bn:Small {c with n:=d.n}:=⟨hS.n,by show c.m<=_;have:=h.sum;omega,by show c.x<=_;rw[h.x];omega⟩;refine⟨fun w' j=>?_,fun w' j=>?_⟩
  ·obtain⟨R0,F,hB⟩:=(h.bm.below j).book;exact Hp bk R0 F R2 E S' {c with n:=d.n} w' hB bn
  ·obtain⟨R0,F,hB⟩:=(h.bm.below j).book;have h4:D4 {c with n:=d.n}:=D4.cut h.inv h.n ⟨by rw[h.L];exact b5,by rw[h.L,G4];omega,by rw[h.L,G4];have:=h.m;omega⟩;have:=Mr T b2 bk R0 F R2 E S' {c with n:=d.n} (DA ((c.m:Int)+1)) (hf (DA ((c.m:Int)+1))) (b3 _ (KL.own _)) w' (b4 _ _ hT (h.kx.CH.trans (j.mono (by have:=h.bm.lt;omega)))) hB bn h4;rw[X5]at this;exact this
 have t:=O ax;have START:∀(o:Obj) (g3 g:Nat) (w3:Y),w3.ownsRow (bk+1) CW 1 (.slice (some (G g3 0)) (d.m+1) g) (d.m+1) (Gb (fun i=>B1 E (d.I i)) d.m++[.pointer (some (G (E d.n) 0))])->(w.alloc o).grownBy w3 (Value.slice (some (G Q1 0)) d.m q1).ownBlock->((Value.slice (some (G Q1 0)) d.m q1).ownBlock=some g3\/g3=w.heap.size+1)->
   w3.cell? (G bk 1)=some (.slice (some (G Q1 0)) d.m q1)/\w3.frozen? (G bk 1)=false/\bk<w3.heap.size/\Yz K hf w bk r0 (.slice (some (G Q1 0)) d.m q1) R2 E d D1 D1 (d.x+1) (.slice (some (G g3 0)) (d.m+1) g) S (w3.setCell (G bk 1) (.slice (some (G g3 0)) (d.m+1) g)):=fun o g3 g w3 h1 h2 h3=>by
  have hn:(Value.slice (some (G Q1 0)) d.m q1).ownBlock≠some bk:=fun e=>by
   have e':Q1=bk:=by simpa[Value.ownBlock]using e
   omega
  have hb:w3.heap[bk]?=w.heap[bk]?:=(h2.block bk (by simp;omega) (fun e=>hn e.symm)).trans (Fs _ _ _ au);obtain⟨p1,p2⟩:=hM.aJ ((DD _ _).alloc (A0 _) o) (o:=o) (x:=(d.n:Int)+1) (a:=some (G (E d.n) 0)) (by unfold B1;rw[C3 (by omega),show((d.n:Int)+1-1).toNat=d.n by omega]) h1 h2 (by rcases h3 with h3|h3;exact .inl h3;exact .inr (by omega));have hz:w.heap.size+1<=w3.heap.size:=by have:=h2.size;simpa using this
  refine⟨(As (a:=(G bk 1)) hb).trans c1,(OK (a:=(G bk 1)) hb).trans f1,by omega,hI,by rw[B],by rw[B],by rw[B],by rw[B];exact A0 _,?_,rfl,?_,?_,p2.mono (fun b _ e=>e.elim .inl (fun e=>.inr (.inl e))),fun b e=>?_⟩
  ·rw[B];have:=PH d.X d.x;show Gp d.X d.x<d.x+1;omega
  ·rw[B];have:=PH d.X d.x;show d.m+1+Gp d.X d.x<=d.m+1+d.x;omega
  ·rw[B];exact p1
  ·rcases h3 with h3|h3
   ·have e':g3=b:=by simpa[Value.ownBlock]using e
    rw[<-e'];exact .inl h3
   ·have e':g3=b:=by simpa[Value.ownBlock]using e
    exact .inr (by omega)
 have ar:=O START;have HT:=O hT;have HS:=O hS;have cm:=O B;clear hM hT hS START ax hI B
 go_enter func295,ntmps295
 go_wp2_with (at_builtin;refine Aah _ rfl _ _ 324 rfl (bk+1) CW i0 (.pointer none) 1 8 underlying324 a6 a7 a8 bb rfl (by decide) (.slice (some (G Q1 0)) d.m q1) d.m (Gb (fun i=>B1 E (d.I i)) d.m) rfl (IH bj _) (y w 0) 1 1 [.pointer (some (G (E d.n) 0))] rfl rfl (GP (BE _ _)) (by simp[Value.oneCell']) (by decide) (by unfold maxLen;omega) (by omega) (by simp;omega) (w.heap.size+1) (by simp) ?_;intro g3 g w3 k A l aj;obtain⟨x3,f3,l3,bp⟩:=z ar _ g3 g w3 k A l;have H:=O bp;clear k A l bp)
 generalize hW:w3.setCell (G bk 1) (.slice (some (G g3 0)) (d.m+1) g)=W at*;have b7:bk<W.heap.size:=by rw[<-hW];simpa using l3
 have P:=O ((t _ _ _ _ _ H).1);have Q:=O ((t _ _ _ _ _ H).2);clear hW x3 f3 l3 c1 f1 aj;refine qr W ?_;refine N (h:=N (h:=N (h:=N (h:=?_))));refine GS (fun K hK=>?_);go_simp;refine⟨_,fun w' j=>qk j ((P _ j)),hK _ ?_⟩;clear hK K;refine GS (fun K hK=>?_);go_simp;refine⟨_,fun w' j=>qk j ((Q _ j)),hK _ ?_⟩;clear hK K;refine N (h:=?_);refine GO ?_;intro w4 bq;have br:=O (H.below bq au);clear bq P Q H b7;go_wp2_with fail
 go_loopw [4] (fun i wr=>∃(c:Dc) (f:Nat) (R:V9) (S':Nat->Nat),i=J (Hz (Bi c (DA ((c.m:Int)+1)) (hf (DA ((c.m:Int)+1)))))/\Yz K hf w bk r0 (.slice (some (G Q1 0)) d.m q1) R2 E d D1 c f R S' wr) (fun _ wr=>d.m+2+d.x-MG wr bk 1)
 case atStart=>exact⟨D1,d.x+1,_,S,rfl,br⟩
 case round=>
  clear br;obtain⟨c,f,R,S',rfl,hN⟩:=hrel;cases av:Bi c (DA ((c.m:Int)+1)) (hf (DA ((c.m:Int)+1)))with
  |none=>
   have HR:Hid ({Dl hf (d.x+1) D1 with n:=d.n}={c with n:=d.n}):=O (by rw[<-hN.mv,GJ av]);have bt:=O hN;clear hN av;rw[show Hz none=-1 from rfl];go_wp2;go_end0;exact⟨⟨⟨_,rfl⟩,R,S',by rw[z HR];exact bt.bm⟩,bt.kx⟩
  |some s=>
   obtain⟨s1,s2,s3,s4⟩:=hN.inv.slot av;obtain⟨F,k1,e1⟩:=hN.bm.rf;have e1:R=.slice (some (G F 0)) c.m k1:=e1;subst e1;have r:=hN.bm;have bu:wr.cell? (G bk 1)=some (.slice (some (G F 0)) c.m k1):=r.c1;have b8:=r.fz 1;have bd:wr.cell? (G bk 3)=some (.slice (some (G R2 0)) c.x c.x):=r.c3;have aw:=r.lt;have af:MG wr bk 1=c.m:=LH bu;have bw:=r.ints.lt F rfl;have bf:=r.JP;obtain⟨_,_,es,_,_,_,bx,_⟩:=r.slots.form (by show 0<c.x;omega);cases es;have p0:wr.cell? (G R2 s)=some (.pointer (some (G (S' s) 0))):=(bx s s1).trans (by show some (Value.pointer (Dd S' s (c.X s)))=_;rw[show Dd S' s (c.X s)=some (G (S' s) 0)from Cs (by omega)]);have ay:=(r.sl s s1).1 s2;obtain⟨q,hq⟩:∃q,q=(c.X s-1).toNat:=⟨_,rfl⟩;have ae:Ge wr (S' s) (c.L q).key (E q):=by rw[hq];exact ay
   have p5:=ae.pt;have bg:=ae.lt;have cn:bk<S' s:=r.sg s s1 (by show c.X s≠0;omega);obtain⟨cp,ak⟩:=r.ints.block (b:=F) rfl;obtain⟨cq,az⟩:=r.slots.block (b:=R2) rfl;have n1:F≠R2:=fun e=>A9 (e▸ak) az (by decide)
   have n2:F≠S' s:=fun e=>A9 (e▸ak) ae.ob (by decide)
   have cd:=bw.1;have cg:=bf.1;have ao:=bf.2;have ch:=hN.sum;have b9:=hN.x;have bz:Hid (Rw wr.drew (bk+1) CW (.slice (some (G F 0)) c.m k1) c.m (fun i=>B1 E (c.I i))):=O (Ck r.ints (fun _ _=>rfl));have U:VZ bk R2 c.x s (S' s) (E q) wr.drew:=⟨bd,p0,p5⟩;have ag:Hid (∀(o:Obj) (g3 g:Nat) (w3:Y),w3.ownsRow (bk+1) CW 1 (.slice (some (G g3 0)) (c.m+1) g) (c.m+1) (Gb (fun i=>B1 E (c.I i)) c.m++[.pointer (some (G (E q) 0))])->(wr.drew.alloc o).grownBy w3 (Value.slice (some (G F 0)) c.m k1).ownBlock->((Value.slice (some (G F 0)) c.m k1).ownBlock=some g3\/g3=(wr.drew.alloc o).heap.size)->
     VZ bk R2 c.x s (S' s) (E q) w3/\w3.cell? (G bk 1)=some (.slice (some (G F 0)) c.m k1)/\w3.frozen? (G bk 1)=false/\bk<w3.heap.size/\(AD (w3.setCell (G bk 1) (.slice (some (G g3 0)) (c.m+1) g)) bk r0 (.slice (some (G g3 0)) (c.m+1) g) R2 E S' {c with n:=d.n,m:=c.m+1,I:=Bm c.I c.m (c.X s)}/\KX (fun b=>b=bk\/(Value.slice (some (G F 0)) c.m k1).ownBlock=some b) bk wr (w3.setCell (G bk 1) (.slice (some (G g3 0)) (c.m+1) g))/\∀b,(Value.slice (some (G g3 0)) (c.m+1) g).ownBlock=some b->(Value.slice (some (G F 0)) c.m k1).ownBlock=some b\/wr.heap.size<=b)):=O (fun o g3 g w3 h1 h2 h3=>by
    have hB:∀b,b<wr.heap.size->F≠b->w3.heap[b]?=wr.heap[b]?:=fun b hb Cy=>(h2.block b (by simp;omega) (fun e=>Cy (by
     have e':b=F:=by simpa[Value.ownBlock]using e
     exact e'.symm))).trans (Fs _ _ _ hb)
    have hz:wr.heap.size+1<=w3.heap.size:=by have:=h2.size;simpa using this
    obtain⟨p1,p2⟩:=r.aJ (W:=wr.drew.alloc o) ((DD _ _).drew.alloc (A0 _) o) (o:=o) (x:=c.X s) (a:=some (G (E q) 0)) (by unfold B1;rw[C3 s2,hq]) h1 h2 (by rcases h3 with h3|h3;exact .inl h3;exact .inr (by rw[h3];simp));refine⟨⟨(As (a:=(G bk 3)) (hB bk aw (by omega))).trans bd,(As (a:=(G R2 s)) (hB R2 ao n1)).trans p0,(As (a:=(G (S' s) 5)) (hB _ bg n2)).trans p5⟩,(As (a:=(G bk 1)) (hB bk aw (by omega))).trans bu,(OK (a:=(G bk 1)) (hB bk aw (by omega))).trans b8,by omega,p1,p2,fun b e=>?_⟩;have e':g3=b:=by simpa[Value.ownBlock]using e
    rcases h3 with h3|h3
    ·rw[<-e'];exact .inl h3
    ·exact .inr (by rw[<-e',h3];simp))
   have ah:Hid (∀(g3 g:Nat) (w3:Y),(AD (w3.setCell (G bk 1) (.slice (some (G g3 0)) (c.m+1) g)) bk r0 (.slice (some (G g3 0)) (c.m+1) g) R2 E S' {c with n:=d.n,m:=c.m+1,I:=Bm c.I c.m (c.X s)}/\KX (fun b=>b=bk\/(Value.slice (some (G F 0)) c.m k1).ownBlock=some b) bk wr (w3.setCell (G bk 1) (.slice (some (G g3 0)) (c.m+1) g))/\∀b,(Value.slice (some (G g3 0)) (c.m+1) g).ownBlock=some b->(Value.slice (some (G F 0)) c.m k1).ownBlock=some b\/wr.heap.size<=b)->
     C9 292 #[.pointer (some (G bk 2)),J (s:Int)] (w3.setCell (G bk 1) (.slice (some (G g3 0)) (c.m+1) g)) fun e w6=>(∃u,e=.returned u)/\∃f6 S6,Yz K hf w bk r0 (.slice (some (G Q1 0)) d.m q1) R2 E d D1 (FA c s) f6 (.slice (some (G g3 0)) (c.m+1) g) S6 w6/\MG w6 bk 1=c.m+1):=O (fun g3 g w3 h=>by
    refine(Hn bk r0 _ R2 E S' _ s _ h.1 ⟨HS.n,by show c.m+1<=_;omega,by show c.x<=_;omega⟩ s1).mono ?_;rintro e w6 ⟨⟨hu,S6,b0⟩,ca⟩;obtain⟨f6,cb⟩:=hN.step KL av h.2.1 h.2.2 ca b0 au;exact⟨hu,f6,S6,cb,LH b0.c1⟩)
   have cr:c.x<=4000:=by omega
   clear hN r av bx ay ae hq s2 s3 s4 bw bf ak az p0 p5 bd b9;rw[show Hz (some s)=(s:Int)from rfl];go_wp2_with fail
   refine H9 (VZ bk R2 c.x s (S' s) (E q)) ?_;refine tz 0 (h:=tz 1 (h:=tz 2 (h:=tz 3 (h:=tz 5 (h:=tz 6 (h:=tz 7 (h:=tz 8 (h:=tz 9 (h:=tz 10 (h:=tz 11 (h:=tz 12 (h:=?_))))))))))));refine tz 13 (h:=tz 14 (h:=tz 15 (h:=?_)));refine AaG (rs:=[4,16]) (by kernel_rfl) (by simp) ?_;refine RC rfl (fun K hK=>?_) (RC rfl (fun K hK=>?_) AaI)
   ·go_simp;refine hK.out _ _ U (fun _=>?_);clear hK K;refine ry 16 (fun K hK=>?_);go_simp;refine hK.out _ _ ⟨(DD wr.heap.size wr).drew.alloc (A0 _) _ |>.cell (p:=(G bk 3)) aw |>.trans U.1,(DD wr.heap.size wr).drew.alloc (A0 _) _ |>.cell (p:=(G R2 s)) ao |>.trans U.2.1,(DD wr.heap.size wr).drew.alloc (A0 _) _ |>.cell (p:=(G (S' s) 5)) bg |>.trans U.2.2⟩ (fun b1=>?_);clear hK K;refine ry 17 (fun K hK=>?_);refine Aap _ rfl (.tmp 33) (.tmp 45) 324 rfl (bk+1) CW i0 (.pointer none) 1 8 underlying324 a6 a7 a8 bb rfl (by decide) (.slice (some (G F 0)) c.m k1) c.m (Gb (fun i=>B1 E (c.I i)) c.m) (by simp[Act.eval]) (IH bz _) (y wr 0) 1 1 [.pointer (some (G (E q) 0))] (by simp[Act.eval]) rfl (GP (BE _ _)) (by simp[Value.oneCell']) (by decide) (by unfold maxLen;omega) (by omega) (by simp;omega) _ rfl ?_;intro g3 g w3 k A l aj;obtain⟨Z,x3,f3,aM,H⟩:=z ag _ g3 g w3 k A l;clear k A l;refine hK.out _ _ Z (fun aq=>?_);clear hK K;refine tz 18 (h:=tz 19 (h:=?_));refine ry 20 (fun K hK=>?_);go_simp;refine hK.out _ _ ?_ (fun _=>?_)
    ·obtain⟨a1,a2,a3⟩:=Z;exact⟨(Ab (by decide)).trans a1,(AX (by omega)).trans a2,(AX (by omega)).trans a3⟩
    clear hK K;refine FM ?_;go_wp2_with fail
    refine(ah g3 g w3 H).mono ?_;rintro e w6 ⟨⟨cc,rfl⟩,f6,S6,M,C⟩;have P:=O ((t _ _ _ _ _ M).1);have Q:=O ((t _ _ _ _ _ M).2);have D:=O M;clear M H x3 f3 Z aq;go_wp2_with fail
    refine qr w6 ?_;refine N (h:=N (h:=N (h:=N (h:=?_))));refine GS (fun K hK=>?_);go_simp;refine⟨_,fun w' j=>qk j ((P _ j)),hK _ ?_⟩;clear hK K;refine GS (fun K hK=>?_);go_simp;refine⟨_,fun w' j=>qk j ((Q _ j)),hK _ ?_⟩;clear hK K;refine N (h:=?_);refine GO ?_;intro w7 ai;have bh:=O (D.below ai au);have ad:MG w7 bk 1=c.m+1:=by rw[<-C];unfold MG;rw[ai.cell (p:=(G bk 1)) (z D).bm.lt]
    clear ai P Q D C;go_wp2;go_roundw
    case rel=>exact⟨FA c s,f6,_,S6,rfl,bh⟩
    case measure=>rw[ad,af];omega
   ·go_simp;refine hK.out _ _ ⟨(DD wr.heap.size wr).drew.alloc (A0 _) _ |>.cell (p:=(G bk 3)) aw |>.trans U.1,(DD wr.heap.size wr).drew.alloc (A0 _) _ |>.cell (p:=(G R2 s)) ao |>.trans U.2.1,(DD wr.heap.size wr).drew.alloc (A0 _) _ |>.cell (p:=(G (S' s) 5)) bg |>.trans U.2.2⟩ (fun b1=>?_);clear hK K;refine ry 4 (fun K hK=>?_);go_simp;refine hK.out _ _ b1 (fun _=>?_);clear hK K;refine ry 17 (fun K hK=>?_);refine Aap _ rfl (.tmp 33) (.tmp 45) 324 rfl (bk+1) CW i0 (.pointer none) 1 8 underlying324 a6 a7 a8 bb rfl (by decide) (.slice (some (G F 0)) c.m k1) c.m (Gb (fun i=>B1 E (c.I i)) c.m) (by simp[Act.eval]) (IH bz _) (y wr 0) 1 1 [.pointer (some (G (E q) 0))] (by simp[Act.eval]) rfl (GP (BE _ _)) (by simp[Value.oneCell']) (by decide) (by unfold maxLen;omega) (by omega) (by simp;omega) _ rfl ?_;intro g3 g w3 k A l aj;obtain⟨Z,x3,f3,aM,H⟩:=z ag _ g3 g w3 k A l;clear k A l;refine hK.out _ _ Z (fun aq=>?_);clear hK K;refine tz 18 (h:=tz 19 (h:=?_));refine ry 20 (fun K hK=>?_);go_simp;refine hK.out _ _ ?_ (fun _=>?_)
    ·obtain⟨a1,a2,a3⟩:=Z;exact⟨(Ab (by decide)).trans a1,(AX (by omega)).trans a2,(AX (by omega)).trans a3⟩
    clear hK K;refine FM ?_;go_wp2_with fail
    refine(ah g3 g w3 H).mono ?_;rintro e w6 ⟨⟨cc,rfl⟩,f6,S6,M,C⟩;have P:=O ((t _ _ _ _ _ M).1);have Q:=O ((t _ _ _ _ _ M).2);have D:=O M;clear M H x3 f3 Z aq;go_wp2_with fail
    refine qr w6 ?_;refine N (h:=N (h:=N (h:=N (h:=?_))));refine GS (fun K hK=>?_);go_simp;refine⟨_,fun w' j=>qk j ((P _ j)),hK _ ?_⟩;clear hK K;refine GS (fun K hK=>?_);go_simp;refine⟨_,fun w' j=>qk j ((Q _ j)),hK _ ?_⟩;clear hK K;refine N (h:=?_);refine GO ?_;intro w7 ai;have bh:=O (D.below ai au);have ad:MG w7 bk 1=c.m+1:=by rw[<-C];unfold MG;rw[ai.cell (p:=(G bk 1)) (z D).bm.lt]
    clear ai P Q D C;go_wp2;go_roundw
    case rel=>exact⟨FA c s,f6,_,S6,rfl,bh⟩
    case measure=>rw[ad,af];omega
section
open Go.RowKit Go.Shelf
attribute [local go_sem] Oper.semAt_some
theorem Sj(d:Dc)(k:Nat):(AU d k).Nodup:=List.Nodup.sublist List.filter_sublist List.nodup_range
theorem Oq{d:Dc}{i:Nat}(hi:i<d.n)(b:(d.L i).turn≠0):(AU d d.n)[Dq d i]?=some i:=by
 obtain⟨r,a⟩:=ER (d:=d) (k:=i+1) (n:=d.n) (by omega);rw[Br b]at a;rw[<-a];unfold Dq;rw[List.append_assoc,TO (A0 _)];simp
def XB(d:Dc)(j:Nat):Int:=if 0<d.X j then(Dq d (d.X j-1).toNat:Int)+1 else d.X j
def CY(d:Dc):Dc:={BU d with X:=XB d}
def E'(E:Nat->Nat)(d:Dc)(j:Nat):Nat:=E ((AU d d.n).getD j 0)
theorem Ic{E:Nat->Nat}{d:Dc}{i:Nat}(hi:i<d.n)(a:(d.L i).turn≠0):E' E d (Dq d i)=E i:=by
 unfold E';rw[Aab,Oq hi a];rfl
theorem packed{w W:Y}{bk p n0:Nat}{r0 r1 v:V9}{R2:Nat}{E S f:Nat->Nat}{d:Dc}(h:AD w bk r0 r1 R2 E S d)(o:w.heap.size<=W.heap.size)(hb:∀b,b<w.heap.size->(∀i,i<d.n->E i≠b)->W.heap[b]?=w.heap[b]?)(ad:bk<n0)
  (hI:∀j,j<d.m->d.I j=0\/(0<d.I j/\d.I j<=d.n/\(d.L (d.I j-1).toNat).turn≠0)) (hX:∀j,j<d.x->0<d.X j->d.X j<=d.n/\(d.L (d.X j-1).toNat).turn≠0)
  (he:∀i,i<d.n->Bo W (E i) (d.L i) (f i)) (hf:∀j (hj:j<(AU d d.n).length),f (AU d d.n)[j]=j) (D:Rw W n0 CW v (AU d d.n).length (eP E (AU d d.n))) (ae:w.heap.size<=n0):
  AD (W.setCell (G bk 0) v) bk v r1 R2 (E' E d) S (CY d):=by
 have hE:∀i,i<d.n->E i≠bk:=fun i hi e=>by have:=h.eb i hi;omega
 have s:W.heap[bk]?=w.heap[bk]?:=hb bk h.lt hE;have hc:∀q,W.cell? (G bk q)=w.cell? (G bk q):=fun q=>As (a:=(G bk q)) s
 have ob:∀b,b≠bk->(W.setCell (G bk 0) v).heap[b]?=W.heap[b]?:=fun b hb=>At _ _ _ _ (by exact hb)
 have r:∀q,q≠0->(W.setCell (G bk 0) v).cell? (G bk q)=w.cell? (G bk q):=fun q hq=>(Ab (fun e=>hq e.symm)).trans (hc q)
 have V:∀{t:TypeId} {c:Array Value} {b:Nat},w.heap[b]?=some (.cells c t (0,0))->t≠294->∀i,i<d.n->E i≠b:=fun{t c b} hb F i hi e=>A9 (e▸(h.Ca i hi).ob) hb (fun e=>F e.symm)
 have Z:∀{t:TypeId} {u:V9} {n:Nat} {g:Nat->Option Addr},Rw w (bk+1) t u n g->t≠294->Rw (W.setCell (G bk 0) v) (bk+1) t u n g:=fun{t u n g} H F=>Ck H (fun q e=>by
  have:=H.lt q e;obtain⟨c,hq⟩:=H.block e;exact(ob q (by omega)).trans (hb q this.2 (V hq F)))
 have C:∀j,j<II d->∃i,i<d.n/\(d.L i).turn≠0/\Dq d i=j/\(AU d d.n)[j]?=some i:=fun j hj=>by
  obtain⟨i,h1,h2,h3⟩:=Fk d.n hj;exact⟨i,h1,h2,h3,by rw[<-h3];exact Oq h1 h2⟩
 have eI:∀x:Int,x=0\/(0<x/\x<=d.n/\(d.L (x-1).toNat).turn≠0)->B1 (E' E d) (if 0<x then(Dq d (x-1).toNat:Int)+1 else x)=B1 E x:=fun x hx=>by
  rcases hx with rfl|⟨h1,h2,h3⟩
  ·rfl
  ·rw[C3 h1];unfold B1;rw[C3 h1,C3 (by omega),show((Dq d (x-1).toNat:Int)+1-1).toNat=Dq d (x-1).toNat by omega,Ic (by omega) h3]
 refine⟨by simpa using Be h.lt o,NX _ _ _ (by rw[hc,h.c0];rfl),(r 1 (by decide)).trans h.c1,(r 2 (by decide)).trans h.c2,(r 3 (by decide)).trans h.c3,(r 4 (by decide)).trans h.c4,(r 5 (by decide)).trans h.c5,(r 6 (by decide)).trans h.c6,fun q=>by rw[World.frozen?_setCell];exact(OK (a:=(G bk q)) s).trans (h.fz q),?_,?_,h.rf,?_,?_,?_,?_,?_,?_,?_⟩
 ·have h1:Rw (W.setCell (G bk 0) v) n0 CW v (AU d d.n).length (eP E (AU d d.n)):=Ck D (fun q e=>ob q (by have:=(D.lt q e).1;omega));exact DK h1 (by omega)
 ·refine(Z h.ints (by decide)).congr (fun j hj=>?_);exact eI (d.I j) (hI j hj)
 ·refine(Z h.slots (by decide)).congr (fun j hj=>?_);show Dd S j (XB d j)=Dd S j (d.X j);unfold Dd XB;by_cases e:0<d.X j
  ·rw[C3 e,Cs (by omega),Cs (by omega)]
  ·rw[Cs e]
 ·intro q e e';have h1:=(D.lt q e).1;have h2:=(h.ints.lt q e').2;omega
 ·intro j hj;obtain⟨i,h1,h2,h3,h4⟩:=C j hj;have K:(CY d).L j=d.L i:=by
   show DX d j=_;unfold DX;rw[Aab,h4];rfl
  have M:E' E d j=E i:=by rw[<-h3];exact Ic h1 h2
  obtain⟨P,Q⟩:=On.1 h4;have R:f i=j:=by have:=hf j P;rwa [Q]at this
  rw[K,M];have h5:=he i h1;rw[R]at h5;exact h5.keep (by simp) (ob _ (by have:=h.eb i h1;omega))
 ·intro j hj;obtain⟨i,h1,h2,h3,h4⟩:=C j hj;rw[show E' E d j=E i by rw[<-h3];exact Ic h1 h2];exact h.eb i h1
 ·intro j j' hj k e;obtain⟨i,h1,h2,h3,h4⟩:=C j hj;obtain⟨i',A,T,U,af⟩:=C j' k;rw[show E' E d j=E i by rw[<-h3];exact Ic h1 h2,show E' E d j'=E i' by rw[<-U];exact Ic A T]at e;have:=h.inj i i' h1 A e;subst this;omega
 ·intro j hj;have k:j<d.x:=hj;have hs:=h.sl j k;have hk:∀c,w.heap[S j]?=some (.cells c 333 (0,0))->d.X j≠0->(W.setCell (G bk 0) v).heap[S j]?=w.heap[S j]?:=fun c B l=>(ob _ (by have:=h.sg j k l;omega)).trans (hb _ (E1.1 B).1 (V B (by decide)))
  unfold Dj;show(0<XB d j->Ge _ (S j) ((CY d).L (XB d j-1).toNat).key (E' E d (XB d j-1).toNat))/\(XB d j<0->NT _ (S j));by_cases e:0<d.X j
  ·have hx:XB d j=(Dq d (d.X j-1).toNat:Int)+1:=C3 e;obtain⟨g1,g2⟩:=hX j k e;refine⟨fun _=>?_,fun l=>by omega⟩;rw[hx,show((Dq d (d.X j-1).toNat:Int)+1-1).toNat=Dq d (d.X j-1).toNat by omega,Ic (by omega) g2,show(CY d).L (Dq d (d.X j-1).toNat)=d.L (d.X j-1).toNat from F6 (by omega) g2];have h1:=hs.1 e;exact h1.keep (by simpa using o) (hk _ h1.ob (by omega))
  ·have hx:XB d j=d.X j:=Cs e;rw[hx];refine⟨fun l=>absurd l e,fun l=>?_⟩;have h1:=hs.2 l;exact h1.keep (by simpa using o) (hk _ h1.ob (by omega))
 ·intro j hj l;refine h.sg j hj (fun e=>l ?_);show XB d j=0;unfold XB;rw[Cs (by omega),e]
def eD(w u:Y)(bk p n0:Nat)(E:Nat->Nat)(d:Dc)(pre:List (He d))(W:Y):Prop:=
 ∃(v:V9) (f:Nat->Nat),W.rowIs p 324 1 (fun _=>v)/\Rw W n0 CW v pre.length (eP E (pre.map (·.1)))/\(∀i,i<d.n->Bo W (E i) (d.L i) (f i))/\((pre.map (·.1)).Nodup->∀j i,(pre.map (·.1))[j]?=some i->f i=j)/\NZ p n0 E d.n u W/\Below bk w W
theorem eD.own(w u:Y)(bk p n0 D:Nat)(E:Nat->Nat)(d:Dc)(hn:n0<=D)(hu:n0<=u.heap.size)(l:bk<=w.heap.size)(hb:bk<=D)(m:∀i,i<d.n->E i<D):OwnFrom D (eD w u bk p n0 E d):=by
 rintro pre A B row ⟨v,f,h1,h2,h3,h4,h5,j⟩ hg g;have h:∀i,i<d.n->B.heap[E i]?=A.heap[E i]?:=fun i hi=>hg.block _ (h3 i hi).lt (fun e=>by have:=(g _ e.symm).1;have:=m i hi;omega)
 refine⟨v,f,?_,Iv h2 hg g,fun i hi=>(h3 i hi).keep hg.size (h i hi),h4,⟨FZ h5.size hg.size,fun b hb o r=>?_,fun i q hi hq=>(As (a:=(G (E i) q)) (h i hi)).trans (h5.Ca i q hi hq)⟩,j.grown hg (FZ l j.size) (fun k e=>FZ hb (g k e).1)⟩
 ·obtain⟨c,hb,hc⟩:=h1;exact Re ⟨c,hb,hc⟩ (GH hb hg g)
 ·have hl:b<A.heap.size:=Be hb (FZ hu h5.size);exact(hg.block b hl (fun e=>by have:=(g b e.symm).1;omega)).trans (h5.block b hb o r)
theorem Li(T:World->Prop)(bt:DT T)(hf:Vl->Nat)(bk:Nat)(az:∀w w',T w->Below bk w w'->T w')(r0 r1:V9)(R2:Nat)(E S:Nat->Nat)(d:Dc)(w:Y)(hT:T w)(hM:AD w bk r0 r1 R2 E S d)(hS:Small d)
  (hH:∀i,i<d.n->(d.L i).turn≠0->NV T (d.L i).key (hf (d.L i).key)) (Q:II d<=500)
  (hI:∀j,j<d.m->d.I j=0\/(0<d.I j/\d.I j<=d.n/\(d.L (d.I j-1).toNat).turn≠0)) (hX:∀j,j<d.x->0<d.X j->d.X j<=d.n/\(d.L (d.X j-1).toNat).turn≠0):
  C9 294 #[Q9 bk] w fun e w'=>((∃u,e=.returned u)/\∃bw M E2 S',AD w' bk bw r1 M E2 S' (DH hf (CY d) (EA (Cf (CY d) (CY d).n).length) (Cf (CY d) (CY d).n)))/\KX (fun b=>b=bk\/∃i,i<d.n/\E i=b) bk w w':=by
 obtain⟨i0,bx,bz,b0,b1⟩:=Tn Im;have cd:=hS.n;have ar:=hM.lt;refine(VC (n:=20)).1 ?_;refine AaP func294 rfl trivial ?_ rfl;simp only[ntmps294,Aas,Aad,UP,Nat.reduceAdd,Nat.reduceSub,Aag,Aaf,Aat,Aak,So,Aal];have HM:=O hM;have HS:=O hS;have HH:=O hH;have HL:=O Q;have HT:=O hT;have HI:=O hI;have HX:=O hX;clear hM hS hH Q hT hI hX
 gi_wp2_with fail
 refine⟨trivial,?_⟩;refine(VC.2 (Fz bk _)).mono ?_;rintro e w4 ⟨rfl,rfl⟩
 gi_wp2_with fail
 obtain⟨u,hu⟩:∃u,u=(w.alloc (.cells #[N9] 324)).alloc (.cells #[Q9 bk] 289):=⟨_,rfl⟩;try simp only[World.size_alloc]
 rw[<-hu];have zu:u.heap.size=w.heap.size+1+1:=by rw[hu];simp
 have bu:B9 w u:=by rw[hu];exact(n9).alloc (by simp) _
 have af:u.cell? (Y9 w 0)=some (Q9 bk):=by rw[hu];simp[go_sem]
 have ag:u.rowIs w.heap.size 324 1 (fun _=>N9):=by
  have h1:=AaK w #[N9] 324 (fun _=>N9) (fun i hi=>by
   have:i=0:=by simpa using hi
   subst this;rfl)
  refine Re h1 ?_;rw[hu];exact Fs _ _ _ (by simp)
 clear hu;have aM:=HM.below bu;obtain⟨R0,R1,s⟩:=aM.book;have ah:u.cell? (y w 0)=some (N9):=ag.cell (i:=0) (by omega);have A:∀i,i<d.n->E i<u.heap.size/\E i≠w.heap.size:=fun i hi=>⟨(s.Ca i hi).lt,fun e=>by
  have:=(s.Ca i hi).k0;rw[e,ah]at this;cases this⟩
 have a6:0<d.n->R0<u.heap.size/\R0≠w.heap.size/\∀i,i<d.n->E i≠R0:=fun h0=>by
  refine⟨s.l0,fun e=>?_,fun i hi e=>?_⟩
  ·have:=s.r0 0 h0;rw[e,ah]at this;cases this
  ·have h1:=s.r0 0 h0;have h2:=(s.Ca i hi).k0;rw[<-e,h2]at h1;cases h1
 clear ah;refine AaO rfl (by decide) (gf:=248) (lb:=#[Q9 (w.heap.size+1)]) rfl trivial (enters_of func248 (by kernel_rfl) rfl)
  (ND 19 (by decide) bk R0 R1 R2 (w.heap.size+1) w.heap.size u.heap.size E S d u s HS a6 af) NZ.trans (NZ.put (A0 _) (fun i hi=>(A i hi).1)) (DD _ _) (fun _=>rfl)
  (eD w u bk w.heap.size u.heap.size E d)
  (fun c pre W=>False)
  (eD.own w u bk w.heap.size u.heap.size u.heap.size E d (A0 _) (A0 _) (by omega) (by omega) (fun i hi=>(A i hi).1))
  (fun c _ _ _ _ h=>h.elim)
  ⟨N9,id,ag,ON _ _ _ _,s.Ca,fun _ j i h=>by simp at h,NZ.refl _ _ _ _ _,bu.mono (by omega)⟩
  ?a1 ?assign ?body ?done ?stop
 case assign=>
  intro l x W K hK
  gi_wp2
  exact hK
 case stop=>
  rintro D c pre W hD au h hK;exact h.elim
 case body=>
  rintro l pre ⟨i,hi,ht⟩ W ⟨v,f,U,g,B,P,C,R⟩ Q;obtain⟨va,vc,rfl⟩:=g.slice;have a7:=(B i hi).ob;have cg:=(B i hi).pl;have b2:=(B i hi).lt;have fE:W.frozen? (G (E i) 11)=false:=by simp[World.frozen?,a7]
  have x0:=U.cell (i:=0) (by omega);have fx:=U.frozen 0;have ch:=U.lt;have Cy:E i≠w.heap.size:=(A i hi).2;have zW:=C.size;have b3:=(A i hi).1;have au:pre.length<=d.n:=by omega
  have av:Hid (∀o,((W.setCell (G (E i) 11) (J (pre.length:Int))).alloc o).ownsRow u.heap.size CW 1 (.slice va pre.length vc) pre.length (Gb (eP E (pre.map (·.1))) pre.length)):=O (fun o=>IH (Ck g (fun q e=>At _ _ _ _ (by have:=(g.lt q e).1;show q≠E i;omega))) _);have aw:Hid (∀(o:Obj) (g3 t:Nat) (w3:Y),w3.ownsRow u.heap.size CW 1 (S9 g3 (pre.length+1) t) (pre.length+1) (Gb (eP E (pre.map (·.1))) pre.length++[Q9 (E i)])->((W.setCell (G (E i) 11) (J (pre.length:Int))).alloc o).grownBy w3 (Value.slice va pre.length vc).ownBlock->
    (w3.cell? (y w 0)=some (.slice va pre.length vc)/\w3.frozen? (y w 0)=false)/\KeepsOthers W (w3.setCell (y w 0) (S9 g3 (pre.length+1) t))/\NZ w.heap.size u.heap.size E d.n W (w3.setCell (y w 0) (S9 g3 (pre.length+1) t))/\eD w u bk w.heap.size u.heap.size E d (pre++[⟨i,hi,ht⟩]) (w3.setCell (y w 0) (S9 g3 (pre.length+1) t))):=O (fun o g3 t w3 h1 h2=>by
   have V:∀b,b<u.heap.size->(Value.slice va pre.length vc).ownBlock≠some b:=fun b hb e=>by have:=(g.lt b e).1;omega
   have hB:∀b,b<u.heap.size->b≠E i->w3.heap[b]?=W.heap[b]?:=fun b hb he=>(h2.block b (by simp;omega) (fun e=>V b hb e.symm)).trans ((Fs _ _ _ (by simp;omega)).trans (At _ _ _ _ (by exact he)))
   have a8:w3.heap[E i]?=(W.setCell (G (E i) 11) (J (pre.length:Int))).heap[E i]?:=(h2.block (E i) (by simp;omega) (fun e=>V _ b3 e.symm)).trans (Fs _ _ _ (by simpa using b2));have ai:W.heap.size<=w3.heap.size:=by have:=h2.size;simp at this;omega
   have aj:w3.rowIs w.heap.size 324 1 (fun _=>.slice va pre.length vc):=U.of_block (hB _ (by omega) (fun e=>Cy e.symm));have cj:=(World.ownsRow.lt h1 g3 rfl).1;have os:∀b,b≠w.heap.size->(w3.setCell (y w 0) (S9 g3 (pre.length+1) t)).heap[b]?=w3.heap[b]?:=fun b hb=>At _ _ _ _ (by exact hb)
   have b4:Bo (w3.setCell (y w 0) (S9 g3 (pre.length+1) t)) (E i) (d.L i) pre.length:=((B i hi).XW pre.length).keep (by simpa using ai) ((os _ Cy).trans a8);have ax:∀j,j<d.n->j≠i->Bo (w3.setCell (y w 0) (S9 g3 (pre.length+1) t)) (E j) (d.L j) (f j):=fun j hj b5=>(B j hj).keep (by simpa using ai) ((os _ (A j hj).2).trans (hB _ (A j hj).1 (fun e=>b5 (s.inj j i hj hi e))))
   have bb:NZ w.heap.size u.heap.size E d.n W (w3.setCell (y w 0) (S9 g3 (pre.length+1) t)):=⟨by simpa using ai,fun b h1 b6 h3=>(os b b6).trans (hB b h1 (fun e=>h3 i hi e.symm)),fun j q hj hq=>by
    by_cases e:j=i
    ·subst e;refine(As (a:=(G (E j) q)) ((os _ Cy).trans a8)).trans ?_;exact Ab (fun e=>hq e.symm)
    ·exact As (a:=(G (E j) q)) ((os _ (A j hj).2).trans (hB _ (A j hj).1 (fun e'=>e (s.inj j i hj hi e'))))⟩
   refine⟨⟨aj.cell (i:=0) (by omega),aj.frozen 0⟩,?_,bb,S9 g3 (pre.length+1) t,Bm f i pre.length,(aj.set 0 _).congr (fun q hq=>by simp[show q=0 by omega]),?_,fun j hj=>?_,fun bc j q hq=>?_,C.trans bb,?_⟩
   ·have b7:KeepsOthers ((W.setCell (G (E i) 11) (J (pre.length:Int))).alloc o) w3:=KeepsOthers.of_grownBy h2 (fun j o' e ho=>by
     obtain⟨c,hb⟩:=Rw.block g e;have hj:=(g.lt j e);rw[Fs _ _ _ (by simpa using hj.2),At _ _ _ _ (by show j≠E i;omega),hb]at ho;cases ho;rfl)
    exact(((TC W _ _).trans (KeepsOthers.alloc _ _)).trans b7).trans (TC _ _ _)
   ·have hl:(pre++[⟨i,hi,ht⟩]:List (He d)).length=pre.length+1:=by simp
    have e1:Gb (eP E (pre.map (·.1))) pre.length++[Q9 (E i)]=Gb (eP E ((pre++[⟨i,hi,ht⟩]:List (He d)).map (·.1))) (pre.length+1):=by
     have:=Tq E (pre.map (·.1)) i;rw[AaB]at this;rw[this,Aac];rfl
    rw[hl];refine Ck ?_ (fun q e=>os q (by
     have e':g3=q:=by simpa[Value.ownBlock]using e
     omega))
    rw[e1]at h1;exact h1
   ·by_cases e:j=i
    ·subst e;rw[Al];exact b4
    ·rw[Af _ _ e];exact ax j hj e
   ·rw[Aac]at bc hq;have Z:=List.nodup_append.1 bc;by_cases e:j<(pre.map (·.1)).length
    ·rw[PC e]at hq;have ay:q≠i:=fun e'=>Z.2.2 q (List.mem_of_getElem? hq) i (by simp) e'
     rw[Af _ _ ay];exact P Z.1 j q hq
    ·rw[TO (by omega)]at hq;have bd:j-(pre.map (·.1)).length=0:=by
      have h3:=(On.1 hq).1;simp at h3;simp;omega
     rw[bd]at hq;have b8:i=q:=by simpa using hq
     subst b8;rw[Al];rw[AaB]at e bd;omega
   ·exact(((R.setCell (by have:=s.Ca i hi;have:=HM.eb i hi;show bk<=E i;omega) _).alloc (by simp;omega) _).grown h2 (by simp;omega) (fun k e=>by have:=(g.lt k e).1;omega)).setCell (by show bk<=w.heap.size;omega) _)
  clear g C R U af B P a7
  gi_wp2_with (gi_at_builtin;refine wpListIn_append_own _ rfl _ _ 324 rfl u.heap.size CW i0 (.pointer none) 1 8 underlying324 bx bz b0 b1 rfl (by decide) (.slice va pre.length vc) pre.length (Gb (eP E (pre.map (·.1))) pre.length) rfl (av _) (y W 0) 1 1 [Q9 (E i)] rfl rfl (GP (by rw[show W.heap.size=(W.setCell (G (E i) 11) (J (pre.length:Int))).heap.size by simp];exact BE _ _)) (by simp[Value.oneCell']) (by unfold maxLen;omega) (by omega) (by simp;omega) ?_;intro v3 w3 F ad _;obtain⟨g3,t,rfl,_,_⟩:=World.ownsRow.form F (by omega);obtain⟨⟨x3,f3⟩,b9⟩:=z aw _ g3 t w3 F ad;clear F ad)
  exact b9
 case done=>
  rintro D ys W hD bf ⟨v,f,U,g,B,P,C,R⟩ hK;have H:ys.map (·.1)=AU d d.n:=bf;have bg:ys.length=(AU d d.n).length:=by rw[<-H,AaB]
  rw[bg,H]at g;rw[H]at P;obtain⟨va,vc,rfl⟩:=g.slice;have x0:=U.cell (i:=0) (by omega);have zW:=C.size;have bh:∀i,i<d.n->E i≠bk:=fun i hi e=>by have:=HM.eb i hi;omega
  have ak:W.heap[bk]?=w.heap[bk]?:=(C.block bk (by omega) (by omega) bh).trans (bu.block bk ar);have c0:W.cell? (G bk 0)=some r0:=(As (a:=(G bk 0)) ak).trans HM.c0;have f0:W.frozen? (G bk 0)=false:=(OK (a:=(G bk 0)) ak).trans (HM.fz 0);have lW:w.heap.size<W.heap.size:=by omega
  have lb:bk<W.heap.size:=by omega
  have ca:D<W.heap.size:=(E1.1 hK).1;have bj:=packed HM (by omega) (fun b hb he=>(C.block b (by omega) (by omega) he).trans (bu.block b hb)) (n0:=u.heap.size) (p:=0) (by omega) HI HX B (fun j hj=>P (Sj _ _) j _ (List.getElem?_eq_getElem hj)) g (by omega);have ao:Below bk w (W.setCell (G bk 0) (.slice va (AU d d.n).length vc)):=R.setCell (by exact A0 _) _;have bm:∀i,i<II d->∃i',i'<d.n/\(d.L i').turn≠0/\DX d i=d.L i':=fun j hj=>by
   obtain⟨i,h1,h2,h3⟩:=Fk d.n hj;exact⟨i,h1,h2,by rw[<-h3];exact F6 h1 h2⟩
  have ae:Hid (C9 306 #[Q9 bk,J 0] (W.setCell (G bk 0) (.slice va (AU d d.n).length vc)) fun e w'=>((∃u,e=.returned u)/\∃M S',AD w' bk (.slice va (AU d d.n).length vc) r1 M (E' E d) S' (DH hf (CY d) (EA (Cf (CY d) (CY d).n).length) (Cf (CY d) (CY d).n))/\(W.setCell (G bk 0) (.slice va (AU d d.n).length vc)).heap.size<=M)/\KX (fun b=>b=bk) bk (W.setCell (G bk 0) (.slice va (AU d d.n).length vc)) w'):=O (by
   have bn:=z HS;have h1:=Iq d d.n;have h2:=z HL;have h3:II d=(AU d d.n).length:=rfl;exact G5 T bt hf bk az _ r1 R2 (E' E d) S (CY d) 0 _ (az _ _ HT ao) bj ⟨by show II d<=_;omega,bn.m,bn.x⟩ (fun i hi ht=>by
    obtain⟨i',g1,g2,g3⟩:=bm i hi;have e:(CY d).L i=d.L i':=g3;rw[e];exact HH i' g1 g2) (by
    have g1:=Tz (CY d) (CY d).n;have g2:=Iq (CY d) (CY d).n;have g3:(CY d).n=II d:=rfl;omega))
  have cb:Hid (KX (fun b=>b=bk\/∃i,i<d.n/\E i=b) bk w (W.setCell (G bk 0) (.slice va (AU d d.n).length vc))):=O ⟨ao,fun b hb hm=>(At _ _ _ _ (by intro e;exact hm (.inl e))).trans ((C.block b (by omega) (by omega) (fun i hi e=>hm (.inr ⟨i,hi,e⟩))).trans (bu.block b hb))⟩;clear bf H bg U g B P C R bj bm ao bh ak af ag s aM A a6 bu;generalize (AU d d.n).length=nl at*
  gi_wp2_with fail
  refine⟨trivial,?_⟩;refine(VC.2 ae).mono ?_;rintro e w5 ⟨⟨⟨uu,rfl⟩,M,S',bp,_⟩,aq⟩;have bq:w5.heap[D]?=some (.deferred (some [])):=(aq.BR D (by simpa using ca) (by omega)).trans ((At _ _ _ _ (by show D≠bk;omega)).trans hK);have cc:=O bp;have br:=O (cb.trans (aq.mono (fun b _ e=>.inl e)));clear bp aq ae
  gi_wp2
  refine⟨by simp,.inl ⟨_,_,rfl,AaE bq,?_⟩⟩;have hg:=ID w5 D (.deferred none);have z5:=br.CH.size;exact⟨_,results_none rfl _ _ _,⟨⟨_,rfl⟩,_,M,_,S',cc.grown hg (fun r e=>by cases e;exact⟨_,bq,rfl⟩)⟩,br.grown hg (by omega) (fun k e=>by cases e;exact .inl (by omega))⟩
end
section
section
variable {w w3:Y} {bk:Nat} {r0 r1:V9} {R2:Nat} {E S:Nat->Nat} {d:Dc}
theorem AD.fZ(h:AD w bk r0 r1 R2 E S d){W:Y}(u:B9 w W){g3 f:Nat}(v:Bo w (E d.n) (d.L d.n) d.n)(o:bk<E d.n)(Nr:∀i,i<d.n->E i≠E d.n)(h1:w3.ownsRow (bk+1) CW 1 (S9 g3 (d.n+1) f) (d.n+1) (Gb (fun i=>some (G (E i) 0)) d.n++[Q9 (E d.n)]))(hg:W.grownBy w3 r0.ownBlock)(hl:r0.ownBlock=some g3\/w.heap.size<=g3):
  AD (w3.setCell (G bk 0) (S9 g3 (d.n+1) f)) bk (S9 g3 (d.n+1) f) r1 R2 E S {d with n:=d.n+1}/\Below bk w (w3.setCell (G bk 0) (S9 g3 (d.n+1) f)):=by
 have g:=h.lt;have x:=u.size;have hz:w.heap.size<=w3.heap.size:=FZ x hg.size;have l:∀b,b<w.heap.size->r0.ownBlock≠some b->w3.heap[b]?=w.heap[b]?:=fun b hb v=>(hg.block b (by omega) (fun e=>v e.symm)).trans (u.block b hb)
 have r:r0.ownBlock≠some bk:=fun e=>by have:=(h.log.lt bk e).1;omega
 have os:∀b,b≠bk->(w3.setCell (G bk 0) (S9 g3 (d.n+1) f)).heap[b]?=w3.heap[b]?:=fun b hb=>At _ _ _ _ (by exact hb)
 have hc:∀q,w3.cell? (G bk q)=w.cell? (G bk q):=fun q=>As (a:=(G bk q)) (l bk g r)
 have m:∀q,q≠0->(w3.setCell (G bk 0) (S9 g3 (d.n+1) f)).cell? (G bk q)=w.cell? (G bk q):=fun q hq=>(Ab (fun e=>hq e.symm)).trans (hc q)
 have ty:∀{t:TypeId} {c:Array Value} {b:Nat},w.heap[b]?=some (.cells c t (0,0))->t≠CW->r0.ownBlock≠some b:=fun{t c b} hb H e=>by
  obtain⟨Q,A⟩:=h.log.block e;exact A9 hb A H
 have I:=(World.ownsRow.lt h1 g3 rfl).1;have D:∀{b:Nat} {p:Pr} {i:Nat},Bo w b p i->bk<b->Bo (w3.setCell (G bk 0) (S9 g3 (d.n+1) f)) b p i:=fun{b p i} B hb=>B.keep (by simpa using hz) ((os _ (by omega)).trans (l _ B.lt (ty B.ob (by decide))))
 refine⟨⟨by simpa using Be g hz,NX _ _ _ (by rw[hc,h.c0];rfl),(m 1 (by decide)).trans h.c1,(m 2 (by decide)).trans h.c2,(m 3 (by decide)).trans h.c3,(m 4 (by decide)).trans h.c4,(m 5 (by decide)).trans h.c5,(m 6 (by decide)).trans h.c6,fun q=>by rw[World.frozen?_setCell];exact(OK (a:=(G bk q)) (l bk g r)).trans (h.fz q),?_,?_,h.rf,?_,?_,fun i hi=>?_,fun i hi=>?_,fun i j hi hj e=>?_,fun j hj=>?_,h.sg⟩,?_⟩
 ·have h2:(w3.setCell (G bk 0) (S9 g3 (d.n+1) f)).ownsRow (bk+1) CW 1 (S9 g3 (d.n+1) f) (d.n+1) (Gb (fun i=>some (G (E i) 0)) d.n++[Q9 (E d.n)]):=Ck h1 (fun q e=>os q (by
   have e':g3=q:=by simpa[Value.ownBlock]using e
   omega))
  exact h2
 ·exact Ck h.ints (fun q e=>(os q (by have:=(h.ints.lt q e).1;omega)).trans (l q (h.ints.lt q e).2 (fun e'=>h.ap q e' e)))
 ·exact Ck h.slots (fun q e=>by
   obtain⟨c,hb⟩:=h.slots.block e;exact(os q (by have:=(h.slots.lt q e).1;omega)).trans (l q (h.slots.lt q e).2 (ty hb (by decide))))
 ·intro q e e';have e2:g3=q:=by simpa[Value.ownBlock]using e
  subst e2;rcases hl with hl|hl
  ·exact h.ap g3 hl e'
  ·have:=(h.ints.lt g3 e').2;omega
 ·have s:i<d.n+1:=hi;by_cases e:i=d.n
  ·subst e;exact D v o
  ·exact D (h.Ca i (by omega)) (h.eb i (by omega))
 ·have s:i<d.n+1:=hi;by_cases e:i=d.n
  ·subst e;exact o
  ·exact h.eb i (by omega)
 ·have s:i<d.n+1:=hi;have K:j<d.n+1:=hj;by_cases M:i=d.n
  ·by_cases F:j=d.n
   ·omega
   ·subst M;exact absurd e.symm (Nr j (by omega))
  ·by_cases F:j=d.n
   ·subst F;exact absurd e (Nr i (by omega))
   ·exact h.inj i j (by omega) (by omega) e
 ·by_cases P:d.X j=0
  ·exact⟨fun C=>absurd C (by show¬0<d.X j;omega),fun C=>absurd C (by show¬d.X j<0;omega)⟩
  ·exact Dj.keep (d:={d with n:=d.n+1}) (w:=w) (h.sl j hj) (by simpa using hz) (fun c hc=>(os _ (by have:=h.sg j hj P;omega)).trans (l _ (E1.1 hc).1 (ty hc (by decide))))
 ·exact((u.mono (by omega)).grown hg (by omega) (fun k e=>by have:=(h.log.lt k e).1;omega)).setCell (by exact A0 _) _
end
theorem AD.Jv{K:Vl->Prop}{hf:Vl->Nat}{w:Y}{bk:Nat}{r0 r1:V9}{R2:Nat}{E S:Nat->Nat}{d:Dc}(hc:Core K d)(hl:¬((d.n:Int)<8\/(d.n:Int)<=2*d.live))(h:AD w bk r0 r1 R2 E S (DH hf (CY d) (EA (Cf (CY d) (CY d).n).length) (Cf (CY d) (CY d).n))):AD w bk r0 r1 R2 E S (Am hf d):=by
 have b:=GN hc;have h:AD w bk r0 r1 R2 E S (DH hf (BU d) (EA (Cf (BU d) (BU d).n).length) (Cf (BU d) (BU d).n)):=h;have e1:Am hf d=CQ hf (BU d) 0:=Cs hl;have rf:=fun x=>K9 (hf:=hf) (d:=BU d) (x:=x) (fun i hi c=>b.pos hi c) (BU d).n (A0 _)
 rw[e1];by_cases a:(Cf (BU d) (BU d).n).length=0
 ·rw[EG (by rw[(rf 0).2];omega)];have hn:Cf (BU d) (BU d).n=[]:=List.eq_nil_of_length_eq_zero a;rw[a,hn]at h;have h:AD w bk r0 r1 R2 E S {BU d with x:=0,X:=fun _=>0,used:=0}:=h;exact h.of_same rfl rfl rfl rfl rfl rfl (fun _ _=>rfl) (fun j hj=>absurd hj (NO _)) (fun _ _=>rfl) (fun _ _=>rfl) (fun i hi=>by
   rcases b.ints i hi with e|e
   ·show(BU d).I i<=((BU d).n:Int);omega
   ·exact e.2.1) (fun j hj=>absurd hj (NO _))
 ·rw[DL (by rw[(rf 0).2];omega),(rf _).1,(rf 0).2];have e2:EA (Cf (BU d) (BU d).n).length=De ((Cf (BU d) (BU d).n).length+0):=Cs a;rw[e2]at h;exact h
def E3(c:Dc)(k v:Vl):Dc:={Dg c k v with n:=c.n}
theorem Xv(c:Dc)(k v:Vl):(E3 c k v).L c.n=⟨k,v,c.turns+1⟩:=Al _ _ _
theorem LJ(c:Dc)(k v:Vl){i:Nat}(hi:i<c.n):(E3 c k v).L i=c.L i:=Af _ _ (by omega)
theorem Uq(hf:Vl->Nat)(c:Dc)(k v k':Vl)(p:Nat):A6 hf (E3 c k v) k' p=E3 (A6 hf c k' p) k v:=by
 unfold A6;show(match C5 c.x c.X (hf k'%c.x)with|none=>_|some s=>_)=_;cases C5 c.x c.X (hf k'%c.x)<;>rfl
theorem Up(hf:Vl->Nat)(c:Dc)(k':Vl)(p n:Nat):A6 hf {c with n:=n} k' p={A6 hf c k' p with n:=n}:=by
 unfold A6;show(match C5 c.x c.X (hf k'%c.x)with|none=>_|some s=>_)=_;cases C5 c.x c.X (hf k'%c.x)<;>rfl
theorem WI(hf:Vl->Nat)(c:Dc)(k v:Vl)(x:Nat)(l:List Nat)(hl:∀p∈l,p<c.n):DH hf (E3 c k v) x l=E3 (DH hf c x l) k v:=by
 suffices h:∀(l:List Nat),(∀p∈l,p<c.n)->∀b:Dc,l.foldl (fun e p=>A6 hf e ((E3 c k v).L p).key p) (E3 b k v)=E3 (l.foldl (fun e p=>A6 hf e (c.L p).key p) b) k v from h l hl {c with x:=x,X:=fun _=>0,used:=0}
 intro l
 induction l with
 |nil=>intro _ b;rfl
 |cons p l ih=>
  intro hl b;show l.foldl _ (A6 hf (E3 b k v) ((E3 c k v).L p).key p)=_;rw[LJ c k v (hl p (by simp)),Uq];exact ih (fun q hq=>hl q (by simp[hq])) _
theorem TA(c:Dc)(k v:Vl):Cf (E3 c k v) (E3 c k v).n=Cf c c.n:=by
 unfold Cf;have e:AU (E3 c k v) (E3 c k v).n=AU c c.n:=Jf c.n (fun i hi=>by rw[LJ c k v hi]);rw[e];refine List.filter_congr (fun i hi=>?_);rw[LJ c k v (QH.1 hi).1];rfl
theorem XQ{K:Vl->Prop}{hf:Vl->Nat}{c:Dc}{k v:Vl}(hc:Core K c):OH hf (E3 c k v)=E3 (Ez hf c) k v:=by
 have rf:=fun x=>K9 (hf:=hf) (d:=c) (x:=x) (fun i hi a=>hc.pos hi a) c.n (A0 _)
 unfold OH Ez;rw[TA];by_cases h:(c.x:Int)<2*(c.used+1)
 ·rw[C3 h,C3 (show((E3 c k v).x:Int)<2*((E3 c k v).used+1)from h),DL (by omega),(rf _).1,(rf 0).2,WI hf c k v _ _ (fun p b=>(ML b).1)];have e:EA ((Cf c c.n).length+1)=De ((Cf c c.n).length+1):=Cs (by omega);rw[e]
 ·rw[Cs h,Cs (show¬((E3 c k v).x:Int)<2*((E3 c k v).used+1)from h)]
theorem Xw{c:Dc}{k v:Vl}{n:Nat}(h:c.n=n):E3 c k v={Dg c k v with n:=n}:=by subst h;rfl
end
structure Js (W:Y) (b:Nat) (k:Vl):Prop where
 lt:b<W.heap.size
 k0:W.cell? (G b 0)=some (J k.kind)
 k1:W.cell? (G b 1)=some (J k.num)
 k2:W.cell? (G b 2)=some (F9 k.Ae)
 k3:W.cell? (G b 3)=some (.string k.str)
 k4:W.cell? (G b 4)=some (J k.ref)
theorem Js.keep{W W':Y}{b:Nat}{k:Vl}(h:Js W b k)(hz:W.heap.size<=W'.heap.size)(e:W'.heap[b]?=W.heap[b]?):Js W' b k:=
 ⟨Be h.lt hz,(As e).trans h.k0,(As e).trans h.k1,(As e).trans h.k2,(As e).trans h.k3,(As e).trans h.k4⟩
def P2(n0 bk:Nat)(k v:Vl)(t:Int)(a:T9)(n c:Nat)(W:Y):Prop:=W.cell? (G n0 0)=some (J k.kind)/\W.cell? (G n0 1)=some (J k.num)/\W.cell? (G n0 2)=some (F9 k.Ae)/\W.cell? (G n0 3)=some (.string k.str)/\W.cell? (G n0 4)=some (J k.ref)/\W.cell? (G (n0+1) 0)=some (J v.kind)/\W.cell? (G (n0+1) 1)=some (J v.num)/\W.cell? (G (n0+1) 2)=some (F9 v.Ae)/\W.cell? (G (n0+1) 3)=some (.string v.str)/\W.cell? (G (n0+1) 4)=some (J v.ref)/\W.cell? (G bk 6)=some (J t)/\W.cell? (G bk 0)=some (.slice a n c)
def Z6(bk n0 a m k1 q:Nat)(W:Y):Prop:=W.cell? (G bk 1)=some (S9 a m k1)/\W.cell? (G n0 1)=some (J ((q:Int)+1))
theorem Xn{K:Vl->Prop}{c:Dc}(h:Core K c)(hl:c.live<500):(Cf c c.n).length+1<=500:=by
 have h1:=Tz c c.n;have h2:=h.Kl;have h3:II c=(AU c c.n).length:=rfl;omega
structure J3 (W:Y) (bk:Nat) (r0 r1:V9) (R2:Nat) (E S:Nat->Nat) (D:Dc):Prop where
 bm:AD W bk r0 r1 R2 E S D
 e:Bo W (E D.n) (D.L D.n) D.n
 eb:bk<E D.n
 ne:∀i,i<D.n->E i≠E D.n
theorem J3.fin{c w3:Y}{bk:Nat}{r0 r1:V9}{R2:Nat}{E S:Nat->Nat}{D:Dc}(h:J3 c bk r0 r1 R2 E S D){o:Obj}{g3 b:Nat}(h1:w3.ownsRow (bk+1) CW 1 (S9 g3 (D.n+1) b) (D.n+1) (Gb (fun i=>some (G (E i) 0)) D.n++[Q9 (E D.n)]))(hg:(c.alloc o).grownBy w3 r0.ownBlock)(hl:r0.ownBlock=some g3\/g3=c.heap.size+1):
  w3.cell? (G bk 0)=some r0/\w3.frozen? (G bk 0)=false/\bk<w3.heap.size/\AD (w3.setCell (G bk 0) (S9 g3 (D.n+1) b)) bk (S9 g3 (D.n+1) b) r1 R2 E S {D with n:=D.n+1}/\Below bk c (w3.setCell (G bk 0) (S9 g3 (D.n+1) b)):=by
 have d:=h.bm.lt;have hn:r0.ownBlock≠some bk:=fun e=>by have:=(h.bm.log.lt bk e).1;omega
 have hb:w3.heap[bk]?=c.heap[bk]?:=(hg.block bk (by simp;omega) (fun e=>hn e.symm)).trans (Fs _ _ _ d);have hz:c.heap.size+1<=w3.heap.size:=by have:=hg.size;simpa using this
 obtain⟨p1,p2⟩:=h.bm.fZ ((DD _ _).alloc (A0 _) o) h.e h.eb h.ne h1 hg (by rcases hl with hl|hl;exact .inl hl;exact .inr (by omega));exact⟨(As (a:=(G bk 0)) hb).trans h.bm.c0,(OK (a:=(G bk 0)) hb).trans (h.bm.fz 0),by omega,p1,p2⟩
theorem P2.below{n0 bk:Nat}{k v:Vl}{t:Int}{a:Option Addr}{n c:Nat}{W W':Y}(h:P2 n0 bk k v t a n c W)(hb:B9 W W')(d:n0+1<W.heap.size)(h1:bk<W.heap.size):P2 n0 bk k v t a n c W':=by
 obtain⟨i,s1,s2,j,l,m,o,r,s,u,f,g⟩:=h;have e:∀{b q:Nat},b<W.heap.size->W'.cell? (G b q)=W.cell? (G b q):=fun{b q} w=>hb.cell (p:=(G b q)) w
 exact⟨(e (by omega)).trans i,(e (by omega)).trans s1,(e (by omega)).trans s2,(e (by omega)).trans j,(e (by omega)).trans l,(e d).trans m,(e d).trans o,(e d).trans r,(e d).trans s,(e d).trans u,(e h1).trans f,(e h1).trans g⟩
def mM(bk:Nat)(r0:V9)(R2 b:Nat):Prop:=b=bk\/r0.ownBlock=some b\/b=R2
def aM(d:Dc)(k:Vl)(bk:Nat)(r0:V9)(R2 b:Nat):Prop:=¬DB d->k.kind=4->mM bk r0 R2 b
def aS:Prop:=∀(T:World->Prop) (c:DT T) (hf:Vl->Nat) (K:Vl->Prop) (j:KeyLaw K hf) (f:∀v,K v->NV T v (hf v)) (bk:Nat) (g:∀w w',T w->Below bk w w'->T w') (r0 r1:V9) (R2:Nat) (E S:Nat->Nat) (d:Dc) (w:Y) (k:T w) (l:AD w bk r0 r1 R2 E S d) (o:Small d) (h:d.m<=4000000)
  (i:(d.L d.n).key.kind=2) (G4:(d.L d.n).key.num=(d.m:Int)+1) (p:Co K hf {d with n:=d.n+1,m:=d.m+1,I:=Bm d.I d.m ((d.n:Int)+1)}),
  C9 295 #[Q9 bk,Q9 (E d.n)] w fun e w'=>((∃u,e=.returned u)/\∃a S',AD w' bk r0 a R2 E S' {Dl hf (d.x+1) {d with n:=d.n+1,m:=d.m+1,I:=Bm d.I d.m ((d.n:Int)+1)}with n:=d.n})/\KX (fun b=>b=bk\/r1.ownBlock=some b\/b=R2) bk w w'
theorem jF:aS:=Md
theorem YI(T:World->Prop)(ck:DT T)(hf:Vl->Nat)(K:Vl->Prop)(KL:KeyLaw K hf)(cl:∀v,K v->NV T v (hf v))(bk:Nat)(b0:∀w w',T w->Below bk w w'->T w')(r0 r1:V9)(R2:Nat)(E S:Nat->Nat)(d:Dc)(k v:Vl)(w:Y)(hT:T w)(hM:AD w bk r0 r1 R2 E S d)(hS:Small d)(gg:d.m<=4000000)
  (hI:Inv K hf d) (hk:K k) (cr:Db k=true) (hv:v.ok=true) (dh:v.kind≠0) (di:∀i,i<d.n->(d.L i).turn≠0->Ap (d.L i).key k=false) (hl:d.live<500) (ht:d.turns<1000000000000) (hX:k.kind=2/\0<k.num->aS):
  C9 279 #[.pointer (some (G bk 0)),V k.kind k.num k.Ae k.str k.ref,V v.kind v.num v.Ae v.str v.ref] w fun e w'=>((∃u,e=.returned u)/\∃b1 D s E2 S',AD w' bk b1 D s E2 S' (KQ hf d k v))/\KX (aM d k bk r0 R2) bk w w':=by
 have dj:DB d->∀b,aM d k bk r0 R2 b:=fun h b h'=>absurd h h'
 have dk:k.kind=2->∀b,aM d k bk r0 R2 b:=fun h b _ h'=>by omega
 have dm:∀b,mM bk r0 R2 b->aM d k bk r0 R2 b:=fun b h _ _=>h
 generalize aM d k bk r0 R2=Mq at*;have eA:=O dj;have dn:=O dk;have eI:=O dm;clear dj dk dm;have eP:=O hX;clear hX;obtain⟨i0,dp,dq,dr,dt⟩:=Tn Im;have gh:=hM.lt;have cc:0<=d.live:=by have:=hI.i0.log.EM;omega
 have du:B9 w ((w.alloc (.cells #[J k.kind,J k.num,F9 k.Ae,.string k.str,J k.ref] 43)).alloc (.cells #[J v.kind,J v.num,F9 v.Ae,.string v.str,J v.ref] 43)):=(n9).alloc (by simp) _;obtain⟨eS,eU,eX,dv⟩:=BV (hf:=hf) hI.i0.core;have P:=Eh hI.i0;have e4:=EF (hf:=hf) hI.i0.core hI.next;have cd:∀i,i<(Am hf d).n->((Am hf d).L i).turn≠0->Ap ((Am hf d).L i).key k=false:=fun i hi e6=>by
  cases e:Ap ((Am hf d).L i).key k
  ·rfl
  ·obtain⟨j,h1,h2,h3⟩:=(Ei (hf:=hf) hI.i0.core (fun p=>Ap p.key k=true)).1 ⟨i,hi,e6,e⟩;have h4:=di j h1 h2;rw[h3]at h4;cases h4
 have gi:(Am hf d).x<=4000:=by
  rcases P.sz with h|h
  ·omega
  ·exact h.2.1
 have da:(Am hf d).n<=4194304:=by
  rcases dv with h|h<;>omega
 have e7:∀i,i<(Am hf d).m->(Am hf d).I i<=(Am hf d).n:=fun i hi=>by
  rcases P.ints i hi with e|e
  ·omega
  ·exact e.2.1
 have e8:∀j,j<(Am hf d).x->(Am hf d).X j<=(Am hf d).n:=fun j hj=>by
  rcases P.idx.range j hj with e|e|⟨e1,e2,_⟩<;>omega
 have Z:Hid (KQ hf d k v=Bu hf (Am hf d) k v):=O rfl;have bc:∀W,B9 w W->DB d->C9 294 #[.pointer (some (G bk 0))] W fun e w'=>((∃u,e=.returned u)/\∃b1 s E2 S',AD w' bk b1 r1 s E2 S' (Am hf d))/\KX (fun b=>b=bk\/∃i,i<d.n/\E i=b) bk W w':=fun W hW au=>by
  refine(Li T ck hf bk b0 r0 r1 R2 E S d W (ck _ _ hT hW) (hM.below hW) hS (fun i hi ht=>cl _ (hI.i0.keys i hi ht)) (by have:=hI.i0.core.Kl;omega) (fun j hj=>by
   rcases hI.i0.ints j hj with e|e
   ·exact .inl e
   ·exact .inr ⟨e.1,e.2.1,e.2.2.1⟩) (fun j hj h0=>by
   rcases hI.i0.idx.range j hj with e|e|⟨e1,e2,e3,_⟩
   ·omega
   ·omega
   ·exact⟨by omega,e3⟩)).mono ?_
  rintro e w' ⟨⟨hu,b1,s,E2,S',hN⟩,A⟩;exact⟨⟨hu,b1,s,E2,S',hN.Jv hI.i0.core (by have:=au.1;have:=au.2;omega)⟩,A⟩
 have ag:=O bc;have HE:Hid (∀i,i<d.n->E i<w.heap.size):=O (fun i hi=>(hM.Ca i hi).lt);have HC:Hid (¬DB d->Am hf d=d):=O (fun h=>C3 (by
  by_cases h8:(d.n:Int)<8
  ·exact .inl h8
  ·exact .inr (by
    refine Classical.byContradiction fun h2=>h ⟨by omega,by omega⟩)))
 have HM:=O hM;have cm:Hid (∀W,B9 w W->C9 293 #[.pointer (some (G bk 0))] W (R9 (.bool (tells (DB d))) W)):=O (fun W hW=>K1 bk r0 r1 R2 E S d W (hM.below hW) hS cc (by omega));have av:=O du;have HT:=O hT;rw[z Z];have U:(Am hf d).live<500:=by omega
 have ar:(Am hf d).turns<1000000000000:=by omega
 have e9:(Am hf d).m<=4000000:=by omega
 clear eS eU eX dv Z bc hM hS hT du hI di hl ht cc;generalize Am hf d=c at*;have aw:Hid (Js ((w.alloc (.cells #[J k.kind,J k.num,F9 k.Ae,.string k.str,J k.ref] 43)).alloc (.cells #[J v.kind,J v.num,F9 v.Ae,.string v.str,J v.ref] 43)) w.heap.size k/\Js ((w.alloc (.cells #[J k.kind,J k.num,F9 k.Ae,.string k.str,J k.ref] 43)).alloc (.cells #[J v.kind,J v.num,F9 v.Ae,.string v.str,J v.ref] 43)) (w.heap.size+1) v):=O ⟨⟨by simp;omega,by simp[go_sem],by simp[go_sem],by simp[go_sem],by simp[go_sem],by simp[go_sem]⟩,⟨by simp,by simp[go_sem],by simp[go_sem],by simp[go_sem],by simp[go_sem],by simp[go_sem]⟩⟩;by_cases au:DB d
 case' pos=>
  have ct:=O (Bl au);have dw:=O (fun W hW=>ag W hW au);have dx:=O (eA au);clear au HC
  go_enter func279,ntmps279
  go_wp2_with fail
  refine(cm _ av).mono ?_;rintro e w1 ⟨rfl,F⟩;rw[z ct];have cu:=O (av.trans (F.mono av.size));have cv:=O (aw.1.keep F.size (F.block _ aw.1.lt));have cw:=O (aw.2.keep F.size (F.block _ aw.2.lt));clear F;go_wp2_with fail
  refine(dw _ cu).mono ?_;rintro e W ⟨⟨⟨uu,rfl⟩,b2,l,Ec,Sc,ah⟩,A⟩;have vk:Js W w.heap.size k:=cv.keep A.CH.size (A.BR _ cv.lt (by
   rintro(e|⟨i,hi,e⟩)
   ·omega
   ·have:=z HE i hi;omega))
  have vv:Js W (w.heap.size+1) v:=cw.keep A.CH.size (A.BR _ cw.lt (by
   rintro(e|⟨i,hi,e⟩)
   ·omega
   ·have:=z HE i hi;omega))
  have cx:KX Mq bk w W:=⟨(cu.mono (by omega)).trans A.CH,fun b _ h=>absurd (dx b) h⟩;have hU:∀b,mM bk b2 l b->Mq b:=fun b _=>dx b
  clear A dw cv cw cu aw av cm ag
 case' neg=>
  have ct:=O (Bj au);have fa:=z HC au;subst fa;clear au HC ag
  go_enter func279,ntmps279
  go_wp2_with fail
  refine(cm _ av).mono ?_;rintro e W ⟨rfl,F⟩;rw[z ct];have ah:=HM.below (av.trans (F.mono av.size));have vk:Js W w.heap.size k:=aw.1.keep F.size (F.block _ aw.1.lt);have vv:Js W (w.heap.size+1) v:=aw.2.keep F.size (F.block _ aw.2.lt);have cx:KX Mq bk w W:=KX.Ay (av.trans (F.mono av.size)) (by omega);obtain⟨b2,l,Ec,Sc,ah,hU⟩:∃b2 l Ec Sc,AD W bk b2 r1 l Ec Sc c/\∀b,mM bk b2 l b->Mq b:=⟨_,_,_,_,ah,eI⟩;clear F aw av cm
 all_goals
  obtain⟨la,lc,e0⟩:=ah.log.slice;subst e0;have c6:=ah.c6;have c5:=ah.c5;have f5:=ah.fz 5;have f6:=ah.fz 6;have gj:=ah.lt;have tp:=P.turns.1;have gl:0<=c.live:=by have:=P.log.EM;omega
  have fb:IntKind.i64.wrap (c.turns+1)=c.turns+1:=by rw[It];omega
  have Q:IntKind.i64.wrap (c.live+1)=c.live+1:=by rw[It];omega
  have cn:=O ((ah.XY (c.turns+1)).T0 (c.live+1));have dy:=O vk;have dz:=O vv;have dC:=O cx;have HU:=O hU;clear ah vk vv cx hU;go_wp2_with fail
  generalize bt:(W.setCell (G bk 6) (J (c.turns+1))).setCell (G bk 5) (J (c.live+1))=W2 at*;have a8:Js W2 w.heap.size k:=dy.keep (by rw[<-bt];simp) (by rw[<-bt];exact(At _ _ _ _ (by show w.heap.size≠bk;omega)).trans (At _ _ _ _ (by show w.heap.size≠bk;omega)));have bd:Js W2 (w.heap.size+1) v:=dz.keep (by rw[<-bt];simp) (by rw[<-bt];exact(At _ _ _ _ (by show w.heap.size+1≠bk;omega)).trans (At _ _ _ _ (by show w.heap.size+1≠bk;omega)));have dU:Hid (KX Mq bk w W2):=O (by rw[<-bt];exact(dC.setCell (A0 _) (fun _=>HU _ (.inl rfl)) _).setCell (A0 _) (fun _=>HU _ (.inl rfl)) _);have cp:=z cn;have fc:bk<W2.heap.size:=cp.lt;have ea:W2.cell? (G bk 6)=some (J (c.turns+1)):=cp.c6;have ec:W2.cell? (G bk 0)=some (.slice la c.n lc):=cp.c0;have fe:=a8.lt;have ff:=bd.lt;have bu:P2 w.heap.size bk k v (c.turns+1) la c.n lc W2.drew:=⟨a8.k0,a8.k1,a8.k2,a8.k3,a8.k4,bd.k0,bd.k1,bd.k2,bd.k3,bd.k4,ea,ec⟩;have cg:=O a8;clear dy dz dC cp a8 bd c6 c5 f5 f6 ea ec bt Q fb;refine H9 (P2 w.heap.size bk k v (c.turns+1) la c.n lc) ?_;refine tz 0 (h:=tz 1 (h:=tz 2 (h:=tz 3 (h:=tz 4 (h:=tz 5 (h:=tz 6 (h:=tz 7 (h:=tz 8 (h:=tz 9 (h:=tz 10 (h:=tz 11 (h:=?_))))))))))));refine tz 12 (h:=?_);refine ry 13 (fun K hK=>?_);go_simp;refine hK.out _ _ (bu.below (n9) ff fc) (fun fg=>?_);clear hK K;refine tz 14 (h:=?_);try simp only[List.getElem_toArray]
  try simp only[AaT]
  try simp only[AaS]
  try simp only[Aam]
  try simp only[List.set_cons_succ]
  try simp only[List.set_cons_zero]
  refine FM ?_;clear bu fg;obtain⟨W3,b3⟩:∃W3,W3=(W2.alloc (.cells (Fu ⟨k,v,c.turns+1⟩ c.n) 294)).drew:=⟨_,rfl⟩;try simp only[World.alloc_drew]
  rw[<-b3];have z3:W3.heap.size=W2.heap.size+1:=by rw[b3];simp
  have b4:B9 W2 W3:=by rw[b3];exact(n9).drew
  have ef:W3.heap[W2.heap.size]?=some (.cells (Fu ⟨k,v,c.turns+1⟩ c.n) 294 (0,0)):=by rw[b3];exact BE _ _
  have bb:Js W3 w.heap.size k:=cg.keep b4.size (b4.block _ fe);have eh:=O (dU.trans (KX.Ay b4 (by omega)));obtain⟨a,cq⟩:∃a,a=Bm Ec c.n W2.heap.size:=⟨_,rfl⟩;have ai:a c.n=W2.heap.size:=by rw[cq];exact Al _ _ _
  have hA:J3 W3 bk (.slice la c.n lc) r1 l a Sc (E3 c k v):=by
   have fh:=cn.below b4;refine⟨fh.of_same rfl rfl rfl rfl rfl rfl (fun _ _=>rfl) (fun _ _=>rfl) (fun i hi=>Af _ _ (by have bw:i<c.n:=hi;omega)) (fun i hi=>by rw[cq];exact Af _ _ (by have bw:i<c.n:=hi;omega)) e7 e8,?_,?_,fun i hi=>?_⟩
   ·show Bo W3 (a c.n) ((E3 c k v).L c.n) c.n;rw[ai,Xv];exact Bo.TQ ef
   ·show bk<a c.n;omega
   ·have bw:i<c.n:=hi;show a i≠a c.n;rw[ai,cq,Af _ _ (by omega)];have:=(cn.Ca i bw).lt;omega
  have l3:=bb.lt;have cy:=hA.bm.lt;obtain⟨R1,k1,e1⟩:=hA.bm.rf;have e1:r1=.slice (some (G R1 0)) c.m k1:=e1;have c1:W3.cell? (G bk 1)=some (.slice (some (G R1 0)) c.m k1):=by rw[<-e1];exact hA.bm.c1
  have gm:=(hA.bm.ints.lt R1 (by rw[e1];rfl)).1;have dc:=(hA.bm.ints.lt R1 (by rw[e1];rfl)).2;have q0:=bb.k0;have q1:=bb.k1;have q2:=bb.k2;have q3:=bb.k3;have q4:=bb.k4;have HA:=O hA;have ch:=O bb;have gn:=O ai;have bg:=O e1;rw[<-ai];clear hA bb cq ai e1 ef b4 b3 cn dU cg z3;by_cases hs:AH c.m k
  ·have cz:=O (Bl hs);obtain⟨a1,a2,a3⟩:=hs;obtain⟨q,hq⟩:∃q:Nat,k.num=(q:Int)+1:=⟨(k.num-1).toNat,by omega⟩;have ei:q<c.m:=by omega
   have Z:Hid ({E3 c k v with I:=Bm (E3 c k v).I q ((c.n:Int)+1),n:=c.n+1}=Bu hf c k v):=O (by
    have e:Bu hf c k v=Cw c k v:=C3 ⟨a1,a2,a3⟩;rw[e];unfold Cw;rw[show(k.num-1).toNat=q by omega];rfl)
   have gp:IntKind.i64.wrap (q:Int)=q:=by rw[It];omega
   have HQ:=O hq;have fj:=O (dn a1);clear a1 a2 a3 hq;go_wp2_with fail
   refine qr W3 ?_;refine N (h:=N (h:=N (h:=N (h:=N (h:=N (h:=?_))))));refine GS (fun K hK=>?_);go_simp;apply Exists.intro;refine And.intro (fun w' B=>?_) (hK _ ?_)
   ·refine(((z cz)▸Cb k c.m _ (by omega))).mono ?_;rintro e cN ⟨rfl,hb⟩;exact⟨rfl,B.trans (hb.mono B.size)⟩
   clear hK K;refine GO ?_;intro w4 f;have l4:=Be l3 f.size;have fk:=Be cy f.size;have fl:=(f.cell (p:=(G bk 1)) cy).trans c1;have b5:=(f.cell (p:=(y w 1)) l3).trans q1;rw[z HQ]at b5;have ez:=Be dc f.size;have ax:J3 w4 bk (.slice la c.n lc) r1 l a Sc (E3 c k v):=⟨HA.bm.below f,HA.e.keep f.size (f.block _ HA.e.lt),HA.eb,HA.ne⟩;have az:AD w4 bk (.slice la c.n lc) (.slice (some (G R1 0)) c.m k1) l a Sc (E3 c k v):=by rw[<-z bg];exact ax.bm
   obtain⟨_,_,e5,_,_,_,c3,ej⟩:=az.ints.form (by show 0<c.m;omega);cases e5;have d5:=c3 q (by show q<c.m;exact ei);have f5:=ej q;obtain⟨fm,a6⟩:=az.ints.block (b:=R1) rfl;have hp:=AD.gA (d:=E3 c k v) az (i:=q) (by show q<c.m;exact ei) ((c.n:Int)+1);rw[show B1 a ((c.n:Int)+1)=some (G (a c.n) 0) by unfold B1;rw[C3 (by omega),show((c.n:Int)+1-1).toNat=c.n by omega]]at hp;have fo:Hid (J3 (w4.setCell (G R1 q) (.pointer (some (G (a c.n) 0)))).drew bk (.slice la c.n lc) (.slice (some (G R1 0)) c.m k1) l a Sc {E3 c k v with I:=Bm (E3 c k v).I q ((c.n:Int)+1)}):=O ⟨hp.below (DD _ _).drew,ax.e.keep (by simp) (At _ _ _ _ (by show a c.n≠R1;exact fun e=>A9 (e▸ax.e.ob) a6 (by decide))),ax.eb,ax.ne⟩;have bx:=O ((eh.trans (KX.Ay f (by omega))).setCell (g:=R1) (q:=q) (by omega) (fun _=>fj _) (.pointer (some (G (a c.n) 0)))).drew;have bu:Z6 bk w.heap.size R1 c.m k1 q w4.drew:=⟨fl,b5⟩;have Cy:R1≠w.heap.size:=fun e=>by
    have h1:=ch.keep f.size (f.block _ l3);have h2:=h1.k0;rw[<-e]at h2;rw[c3 0 (by show 0<c.m;omega)]at h2;cases h2
   clear az ax hp a6 f HA c3 ej q0 q1 q2 q3 q4 c1;go_wp2_with fail
   refine H9 (Z6 bk w.heap.size R1 c.m k1 q) ?_;refine tz 0 (h:=tz 1 (h:=tz 2 (h:=tz 3 (h:=tz 4 (h:=tz 5 (h:=tz 6 (h:=tz 7 (h:=tz 8 (h:=?_)))))))));refine ry 9 (fun K hK=>?_);go_simp;refine hK.out _ _ ⟨(AX (by omega)).trans bu.1,(AX Cy).trans bu.2⟩ (fun _=>?_);clear hK K bu;refine FM ?_;generalize gq:(w4.setCell (G R1 q) (.pointer (some (G (a c.n) 0)))).drew=W5 at*;have H:Hid (J3 (W5) bk (.slice la c.n lc) (.slice (some (G R1 0)) c.m k1) l a Sc {E3 c k v with I:=Bm (E3 c k v).I q ((c.n:Int)+1)}):=O fo;have b6:Hid (KX Mq bk w (W5)):=O bx;have bh:Hid (Rw (W5) (bk+1) CW (.slice la c.n lc) c.n (fun i=>some (G (a i) 0))):=O (H.bm.log);have fq:(W5).cell? (G bk 0)=some (.slice la c.n lc):=H.bm.c0;have fr:bk<(W5).heap.size:=H.bm.lt;have bj:Hid (∀(o:Obj) (g3 C:Nat) (w3:Y),w3.ownsRow (bk+1) CW 1 (.slice (some (G g3 0)) (c.n+1) C) (c.n+1) (Gb (fun i=>some (G (a i) 0)) c.n++[.pointer (some (G (a c.n) 0))])->((W5).alloc o).grownBy w3 (Value.slice la c.n lc).ownBlock->((Value.slice la c.n lc).ownBlock=some g3\/g3=(W5).heap.size+1)->
     w3.cell? (G bk 0)=some (.slice la c.n lc)/\w3.frozen? (G bk 0)=false/\bk<w3.heap.size/\(∃D s S',AD (w3.setCell (G bk 0) (.slice (some (G g3 0)) (c.n+1) C)) bk (.slice (some (G g3 0)) (c.n+1) C) D s a S' (Bu hf c k v))/\KX Mq bk w (w3.setCell (G bk 0) (.slice (some (G g3 0)) (c.n+1) C))):=O (fun o g3 C w3 h1 h2 h3=>by
    obtain⟨p1,p2,p3,p4,p5⟩:=H.fin h1 h2 h3;exact⟨p1,p2,p3,⟨_,_,_,by rw[<-z Z];exact p4⟩,((b6.alloc (by omega) o).grown h2 (by omega) (fun r e=>.inr ⟨by have:=(H.bm.log.lt r e).1;omega,HU _ (.inr (.inl e))⟩)).setCell (A0 _) (fun _=>HU _ (.inl rfl)) _⟩)
   clear H b6;go_wp2_with (at_builtin;refine Aah _ rfl _ _ 324 rfl (bk+1) CW i0 (.pointer none) 1 8 underlying324 dp dq dr dt rfl (by decide) (.slice la c.n lc) c.n (Gb (fun i=>some (G (a i) 0)) c.n) rfl (IH bh _) (G ((W5).heap.size) 0) 1 1 [.pointer (some (G (a c.n) 0))] rfl rfl (GP (BE _ _)) (by simp[Value.oneCell']) (by decide) (by unfold maxLen;omega) (by omega) (by simp;omega) ((W5).heap.size+1) (by simp) ?_;intro g3 C w3 ad aj ae dd;obtain⟨x3,f3,ft,b7,b8⟩:=z bj _ g3 C w3 ad aj ae;have c4:=O b7;have c7:=O b8;clear ad aj ae b7 b8)
   go_end0;obtain⟨D,s,S',hN⟩:=z c4;exact⟨⟨⟨_,rfl⟩,_,D,s,a,S',hN⟩,c7⟩
  ·have cz:=O (Bj hs);have ek:=O hs;have bn:=Ih KL P e4 hk cr hv dh cd U ar;have eo:=O bn.2.2.1;have ep:=O bn.2.2.2.1;clear hs bn;go_wp2_with fail
   refine qr W3 ?_;refine N (h:=N (h:=N (h:=N (h:=N (h:=N (h:=?_))))));refine GS (fun K hK=>?_);go_simp;apply Exists.intro;refine And.intro (fun w' B=>?_) (hK _ ?_)
   ·refine(((z cz)▸Cb k c.m _ (by omega))).mono ?_;rintro e cN ⟨rfl,hb⟩;exact⟨rfl,B.trans (hb.mono B.size)⟩
   clear hK K;refine GO ?_;intro w4 f;have l4:=Be l3 f.size;have fk:=Be cy f.size;have bz:=ch.keep f.size (f.block _ l3);have eu:=bz.k0;have b5:=bz.k1;have ev:=bz.k2;have ew:=bz.k3;have ey:=bz.k4;have ax:J3 w4 bk (.slice la c.n lc) r1 l a Sc (E3 c k v):=⟨HA.bm.below f,HA.e.keep f.size (f.block _ HA.e.lt),HA.eb,HA.ne⟩;have bx:=O (eh.trans (KX.Ay f (by omega)));have c8:Hid (Small (E3 c k v)):=O ⟨da,by show c.m<=_;omega,by show c.x<=_;omega⟩;have a7:Hid (∀w',B9 w4 w'->C9 270 #[.pointer (some (G bk 0))] w' fun e cN=>e=.returned (V 2 ((c.m:Int)+1) 0 ⟨#[]⟩ 0)/\B9 w' cN):=O (fun w' B=>by
    obtain⟨fu,fw,fx⟩:=(ax.bm.below B).book;exact Hp bk fu fw l a Sc (E3 c k v) w' fx c8)
   have R:=O ax;clear f HA bz ax q0 q1 q2 q3 q4 c1;by_cases b9:k.kind=2/\k.num=(c.m:Int)+1
   focus
    have ca:=O b9;have HF:=O (TI cr b9.1);clear b9;go_wp2_with fail
    refine qr w4 ?_;refine N (h:=N (h:=?_));refine GS (fun K hK=>?_);go_simp;refine⟨_,fun w' B=>qk B ((a7 _ B)),hK _ ?_⟩;clear hK K;refine GS (fun K hK=>?_);go_simp;refine⟨.bool true,fun w' B=>?_,hK _ ?_⟩
    ·obtain⟨x1,x2⟩:=z ca;obtain⟨x3,x4,x5⟩:=z HF;have fy:O9 k.Ae 0=some Ordering.eq:=by simpa using x3
     have fE:k.str.toList=[]:=List.isEmpty_iff.1 x4;simp only[x1,x2,x5,fy,fE,Aaz];exact⟨trivial,trivial⟩
    clear hK K;refine GO ?_;intro w5 Q;have t:J3 w5 bk (.slice la c.n lc) r1 l a Sc (E3 c k v):=⟨R.bm.below Q,R.e.keep Q.size (Q.block _ R.e.lt),R.eb,R.ne⟩;have bf:=O (bx.trans (KX.Ay Q (by omega)));have af:Hid (C9 295 #[.pointer (some (G bk 0)),.pointer (some (G (a c.n) 0))] w5 fun e w'=>(∃u,e=.returned u)/\(∃D S',J3 w' bk (.slice la c.n lc) D l a S' {Bu hf c k v with n:=c.n})/\KX Mq bk w w'):=O (by
     obtain⟨x1,x2⟩:=z ca;have c9:T w5:=b0 _ _ HT bf.CH;have cb:((E3 c k v).L (E3 c k v).n)=⟨k,v,c.turns+1⟩:=Xv c k v;have aq:Bu hf c k v=Dl hf (c.x+1) (CZ c k v):=by unfold Bu;rw[Cs (z ek),C3 ⟨x1,x2⟩]
     obtain⟨fm,a6⟩:=t.bm.ints.block (b:=R1) (by rw[z bg];rfl);obtain⟨fW,bp⟩:=t.bm.slots.block (b:=l) rfl;have ay:=t.e;refine(eP ⟨x1,by omega⟩ T ck hf K KL cl bk b0 (.slice la c.n lc) r1 l a Sc (E3 c k v) w5 c9 t.bm c8 e9 (by rw[cb];exact x1) (by rw[cb];exact x2) (KM KL P hk cr hv dh cd x1 x2 U ar)).mono ?_;rintro e w' ⟨⟨hu,D,S',hN⟩,A⟩;have hN:AD w' bk (.slice la c.n lc) D l a S' {Dl hf (c.x+1) (CZ c k v)with n:=c.n}:=hN;rw[<-aq]at hN;have bq:=A.BR (a c.n) ay.lt (by
      rintro(e|e|e)
      ·have:=t.eb;have h':bk<a c.n:=this;omega
      ·rw[z bg]at e;have e':R1=a c.n:=by simpa[Value.ownBlock]using e
       exact A9 (e'▸ay.ob) a6 (by decide)
      ·exact A9 (e▸ay.ob) bp (by decide))
     refine⟨hu,⟨D,S',hN,?_,t.eb,t.ne⟩,bf.trans (A.mono (fun b _ _=>dn x1 b))⟩;have h1:(Bu hf c k v).L c.n=(E3 c k v).L c.n:=by rw[z ep];rfl
     show Bo w' (a c.n) ((Bu hf c k v).L c.n) c.n;rw[h1];exact ay.keep A.CH.size bq)
    clear t bf Q R bx a7 eu b5 ev ew ey;go_wp2_with fail
    refine af.mono ?_;rintro e w6 ⟨⟨ga,rfl⟩,⟨gb,Sx,ak⟩,ao⟩;have Z:Hid ({{Bu hf c k v with n:=c.n}with n:=c.n+1}=Bu hf c k v):=O (by
     have h1:=z eo;generalize Bu hf c k v=M at h1;cases M;simp only at h1;subst h1;rfl)
    have br:=O ak;have cj:=O ao;clear ak ao af;have H:Hid (J3 (w6) bk (.slice la c.n lc) gb l a Sx {Bu hf c k v with n:=c.n}):=O br
   rotate_left
   focus
    have ca:=O b9;clear b9;go_wp2_with fail
    refine qr w4 ?_;refine N (h:=N (h:=?_));refine GS (fun K hK=>?_);go_simp;refine⟨_,fun w' B=>qk B ((a7 _ B)),hK _ ?_⟩;clear hK K;refine GS (fun K hK=>?_);go_simp;refine⟨.bool false,fun w' B=>?_,hK _ ?_⟩
    ·have df:=z ca;by_cases x1:k.kind=2
     ·have x2:¬k.num=(c.m:Int)+1:=fun h=>df ⟨x1,h⟩
      simp only[x1,x2,Aaz,X9];exact⟨trivial,trivial⟩
     ·simp only[x1,X9];exact⟨trivial,trivial⟩
    clear hK K;refine GO ?_;intro w5 Q;have t:J3 w5 bk (.slice la c.n lc) r1 l a Sc (E3 c k v):=⟨R.bm.below Q,R.e.keep Q.size (Q.block _ R.e.lt),R.eb,R.ne⟩;have bf:=O (bx.trans (KX.Ay Q (by omega)));have af:Hid (C9 296 #[.pointer (some (G bk 0)),.pointer (some (G (a c.n) 0))] w5 fun e w'=>(∃u,e=.returned u)/\(∃s S',J3 w' bk (.slice la c.n lc) r1 s a S' {Bu hf c k v with n:=c.n})/\KX Mq bk w w'):=O (by
     have c9:T w5:=b0 _ _ HT bf.CH;have cb:((E3 c k v).L (E3 c k v).n)=⟨k,v,c.turns+1⟩:=Xv c k v;have gd:(Ez hf c).n=c.n:=(Iy P U).2.2.n;have aq:A6 hf (OH hf (E3 c k v)) ((E3 c k v).L (E3 c k v).n).key (E3 c k v).n={Bu hf c k v with n:=c.n}:=by
      have e1:Bu hf c k v=A6 hf (Dg (Ez hf c) k v) k c.n:=by unfold Bu;rw[Cs (z ek),Cs (z ca)]
      rw[e1,cb,XQ P.core,Xw gd];exact Up hf (Dg (Ez hf c) k v) k c.n c.n
     obtain⟨fW,bp⟩:=t.bm.slots.block (b:=l) rfl;have ay:=t.e;refine(Me T ck hf bk b0 (.slice la c.n lc) r1 l a Sc (E3 c k v) w5 c9 t.bm c8 (fun i hi ht=>by
      have bw:i<c.n:=hi;rw[LJ c k v bw]at ht ⊢;exact cl _ (P.keys i bw ht)) (by rw[TA];exact Xn P.core U) ay t.eb (by rw[cb];exact cl k hk) (fun j hj=>by
      rcases P.idx.range j hj with e|e|e
      ·exact .inl e
      ·exact .inr (.inl e)
      ·exact .inr (.inr e.1)) P.used).mono ?_
     rintro e w' ⟨⟨hu,s,S',hN⟩,A⟩;rw[aq]at hN;have bq:=A.BR (a c.n) ay.lt (by
      rintro(e|e)
      ·have h':bk<a c.n:=t.eb;omega
      ·exact A9 (e▸ay.ob) bp (by decide))
     refine⟨hu,⟨s,S',hN,?_,t.eb,t.ne⟩,bf.trans (A.mono (fun b _ h=>HU _ (h.elim .inl (fun e=>.inr (.inr e)))))⟩;have h1:(Bu hf c k v).L c.n=(E3 c k v).L c.n:=by rw[z ep];rfl
     show Bo w' (a c.n) ((Bu hf c k v).L c.n) c.n;rw[h1];exact ay.keep A.CH.size bq)
    clear t bf Q R bx a7 eu b5 ev ew ey;go_wp2_with fail
    refine af.mono ?_;rintro e w6 ⟨⟨ga,rfl⟩,⟨gf,Sx,ak⟩,ao⟩;have Z:Hid ({{Bu hf c k v with n:=c.n}with n:=c.n+1}=Bu hf c k v):=O (by
     have h1:=z eo;generalize Bu hf c k v=M at h1;cases M;simp only at h1;subst h1;rfl)
    have br:=O ak;have cj:=O ao;clear ak ao af;have H:Hid (J3 (w6) bk (.slice la c.n lc) r1 gf a Sx {Bu hf c k v with n:=c.n}):=O br
   rotate_left;all_goals
    have b6:Hid (KX Mq bk w (w6)):=O cj;have bh:Hid (Rw (w6) (bk+1) CW (.slice la c.n lc) c.n (fun i=>some (G (a i) 0))):=O (H.bm.log);have fq:(w6).cell? (G bk 0)=some (.slice la c.n lc):=H.bm.c0;have fr:bk<(w6).heap.size:=H.bm.lt;have bj:Hid (∀(o:Obj) (g3 C:Nat) (w3:Y),w3.ownsRow (bk+1) CW 1 (.slice (some (G g3 0)) (c.n+1) C) (c.n+1) (Gb (fun i=>some (G (a i) 0)) c.n++[.pointer (some (G (a c.n) 0))])->((w6).alloc o).grownBy w3 (Value.slice la c.n lc).ownBlock->((Value.slice la c.n lc).ownBlock=some g3\/g3=(w6).heap.size+1)->
      w3.cell? (G bk 0)=some (.slice la c.n lc)/\w3.frozen? (G bk 0)=false/\bk<w3.heap.size/\(∃D s S',AD (w3.setCell (G bk 0) (.slice (some (G g3 0)) (c.n+1) C)) bk (.slice (some (G g3 0)) (c.n+1) C) D s a S' (Bu hf c k v))/\KX Mq bk w (w3.setCell (G bk 0) (.slice (some (G g3 0)) (c.n+1) C))):=O (fun o g3 C w3 h1 h2 h3=>by
     obtain⟨p1,p2,p3,p4,p5⟩:=H.fin h1 h2 h3;exact⟨p1,p2,p3,⟨_,_,_,by rw[<-z Z];exact p4⟩,((b6.alloc (by omega) o).grown h2 (by omega) (fun r e=>.inr ⟨by have:=(H.bm.log.lt r e).1;omega,HU _ (.inr (.inl e))⟩)).setCell (A0 _) (fun _=>HU _ (.inl rfl)) _⟩)
    clear H b6;go_wp2_with (at_builtin;refine Aah _ rfl _ _ 324 rfl (bk+1) CW i0 (.pointer none) 1 8 underlying324 dp dq dr dt rfl (by decide) (.slice la c.n lc) c.n (Gb (fun i=>some (G (a i) 0)) c.n) rfl (IH bh _) (G ((w6).heap.size) 0) 1 1 [.pointer (some (G (a c.n) 0))] rfl rfl (GP (BE _ _)) (by simp[Value.oneCell']) (by decide) (by unfold maxLen;omega) (by omega) (by simp;omega) ((w6).heap.size+1) (by simp) ?_;intro g3 C w3 ad aj ae dd;obtain⟨x3,f3,ft,b7,b8⟩:=z bj _ g3 C w3 ad aj ae;have c4:=O b7;have c7:=O b8;clear ad aj ae b7 b8)
    go_end0;obtain⟨D,s,S',hN⟩:=z c4;exact⟨⟨⟨_,rfl⟩,_,D,s,a,S',hN⟩,c7⟩
theorem AD.gF{w w':Y}{bk:Nat}{r0 r1:V9}{R2:Nat}{E S:Nat->Nat}{d:Dc}(h:AD w bk r0 r1 R2 E S d){p:Nat}(o:p<d.n){q:Pr}(hz:w'.heap.size=w.heap.size)(hb:∀b,b≠E p->w'.heap[b]?=w.heap[b]?)(A:w'.heap[E p]?=some (.cells (Fu q p) 294 (0,0)))(hk:q.key=(d.L p).key\/∀j,j<d.x->d.X j≠(p:Int)+1):AD w' bk r0 r1 R2 E S {d with L:=Bm d.L p q}:=by
 have g:=h.Ca p o;have k:E p≠bk:=by have:=h.eb p o;omega
 have hc:∀q,w'.cell? (G bk q)=w.cell? (G bk q):=fun q=>As (a:=(G bk q)) (hb bk (fun e=>k e.symm))
 have r:∀{t:TypeId} {v:V9} {n:Nat} {f:Nat->Option Addr},Rw w (bk+1) t v n f->t≠294->Rw w' (bk+1) t v n f:=fun{t v n f} s B=>Ck s (fun b e=>hb b (fun e'=>by
  obtain⟨c,l⟩:=s.block e;rw[e']at l;exact A9 l g.ob B))
 refine⟨by rw[hz];exact h.lt,(hc _).trans h.c0,(hc _).trans h.c1,(hc _).trans h.c2,(hc _).trans h.c3,(hc _).trans h.c4,(hc _).trans h.c5,(hc _).trans h.c6,fun q=>(OK (a:=(G bk q)) (hb bk (fun e=>k e.symm))).trans (h.fz q),r h.log (by decide),r h.ints (by decide),h.rf,r h.slots (by decide),h.ap,fun i hi=>?_,h.eb,h.inj,fun j hj=>?_,h.sg⟩
 ·show Bo w' (E i) (Bm d.L p q i) i;by_cases e:i=p
  ·subst e;rw[Al];exact Bo.TQ A
  ·rw[Af _ _ e];exact(h.Ca i hi).keep (by omega) (hb _ (fun e'=>e (h.inj i p hi o e')))
 ·have hs:=(h.sl j hj).keep (w':=w') (by omega) (fun c m=>hb _ (fun e=>by
   rw[e]at m;exact A9 m g.ob (by decide)))
  refine⟨fun u=>?_,hs.2⟩;have h1:=hs.1 u;show Ge w' (S j) (Bm d.L p q (d.X j-1).toNat).key (E (d.X j-1).toNat);by_cases e:(d.X j-1).toNat=p
  ·rw[e,Al];rcases hk with hk|hk
   ·rw[hk];have h2:Ge w' (S j) (d.L (d.X j-1).toNat).key (E (d.X j-1).toNat):=h1;rw[e]at h2;exact h2
   ·have C:0<d.X j:=u;exact absurd (show d.X j=(p:Int)+1 by omega) (hk j hj)
  ·rw[Af _ _ e];exact h1
def GY(w:Y)(b:Nat)(v:Vl):World:=((((w.setCell (G b 5) (J v.kind)).setCell (G b 6) (J v.num)).setCell (G b 7) (F9 v.Ae)).setCell (G b 8) (.string v.str)).setCell (G b 9) (J v.ref)
def CA(w:Y)(b:Nat):World:=((((((((((w.setCell (G b 0) (J 0)).setCell (G b 1) (J 0)).setCell (G b 2) (F9 0)).setCell (G b 3) (E9)).setCell (G b 4) (J 0)).setCell (G b 5) (J 0)).setCell (G b 6) (J 0)).setCell (G b 7) (F9 0)).setCell (G b 8) (E9)).setCell (G b 9) (J 0)).setCell (G b 10) (J 0)
theorem PW{w:Y}{b b':Nat}{v:Vl}(h:b'≠b):(GY w b v).heap[b']?=w.heap[b']?:=by
 unfold GY;iterate 5 (refine(At _ _ _ _ (by exact h)).trans ?_)
 rfl
theorem MT{w:Y}{b b':Nat}(h:b'≠b):(CA w b).heap[b']?=w.heap[b']?:=by
 unfold CA;iterate 11 (refine(At _ _ _ _ (by exact h)).trans ?_)
 rfl
theorem Rc{w:Y}{b:Nat}{p:Pr}{i:Nat}{v:Vl}(h:Bo w b p i):(GY w b v).heap[b]?=some (.cells (Fu ⟨p.key,v,p.turn⟩ i) 294 (0,0)):=by
 have h1:=GW w b 5 _ _ (J v.kind) h.ob;have h2:=GW _ b 6 _ _ (J v.num) h1;have h3:=GW _ b 7 _ _ (F9 v.Ae) h2;have h4:=GW _ b 8 _ _ (.string v.str) h3;have h5:=GW _ b 9 _ _ (J v.ref) h4;exact h5.trans (by simp[Fu])
theorem IV{w:Y}{b:Nat}{p:Pr}{i:Nat}(h:Bo w b p i):(CA w b).heap[b]?=some (.cells (Fu default i) 294 (0,0)):=by
 have h1:=GW w b 0 _ _ (J 0) h.ob;have h2:=GW _ b 1 _ _ (J 0) h1;have h3:=GW _ b 2 _ _ (F9 0) h2;have h4:=GW _ b 3 _ _ (E9) h3;have h5:=GW _ b 4 _ _ (J 0) h4;have d:=GW _ b 5 _ _ (J 0) h5;have e:=GW _ b 6 _ _ (J 0) d;have f:=GW _ b 7 _ _ (F9 0) e;have g:=GW _ b 8 _ _ (E9) f;have a:=GW _ b 9 _ _ (J 0) g;have c:=GW _ b 10 _ _ (J 0) a;exact c.trans (by simp[Fu];exact⟨rfl,rfl,rfl,rfl,rfl,rfl,rfl,rfl,rfl,rfl,rfl⟩)
theorem PU{w:Y}{bk b:Nat}{v:Vl}(h:bk<=b):Below bk w (GY w b v):=by
 unfold GY;iterate 5 (refine W0 ?_ (by exact h) _)
 exact DD _ _
theorem MS{w:Y}{bk b:Nat}(h:bk<=b):Below bk w (CA w b):=by
 unfold CA;iterate 11 (refine W0 ?_ (by exact h) _)
 exact DD _ _
theorem Rf{w:Y}{b:Nat}{v:Vl}:(GY w b v).heap.size=w.heap.size:=by unfold GY;simp
theorem NJ{w:Y}{b:Nat}:(CA w b).heap.size=w.heap.size:=by unfold CA;simp
theorem VA(T:World->Prop)(g:DT T)(hf:Vl->Nat)(K:Vl->Prop)(h:∀v,K v->NV T v (hf v))(bk:Nat)(k:∀w w',T w->Below bk w w'->T w')(r0 r1:V9)(R2:Nat)(E S:Nat->Nat)(d:Dc)(W:Y)(n:T W)(o:AD W bk r0 r1 R2 E S d)(p:Small d)(c:Co K hf d)(f:DB d):
  C9 294 #[Q9 bk] W fun e w'=>((∃u,e=.returned u)/\∃a b l S',AD w' bk a r1 b l S' (Am hf d))/\Below bk W w':=by
 refine(Li T g hf bk k r0 r1 R2 E S d W n o p (fun i hi q=>h _ (c.keys i hi q)) (by have:=c.core.Kl;have:=c.le;omega) (fun j hj=>by
  rcases c.ints j hj with e|e
  ·exact .inl e
  ·exact .inr ⟨e.1,e.2.1,e.2.2.1⟩) (fun j hj r=>by
  rcases c.idx.range j hj with e|e|⟨e1,e2,e3,_⟩
  ·omega
  ·omega
  ·exact⟨by omega,e3⟩)).mono ?_
 rintro e w' ⟨⟨hu,a,b,l,S',hN⟩,m⟩;exact⟨⟨hu,a,b,l,S',hN.Jv c.core (by have:=f.1;have:=f.2;omega)⟩,m.CH⟩
theorem Vd{hf:Vl->Nat}{d:Dc}(h:¬DB d):Am hf d=d:=C3 (by
 by_cases a:(d.n:Int)<8
 ·exact .inl a
 ·exact .inr (by
   refine Classical.byContradiction fun h2=>h ⟨by omega,by omega⟩))
theorem SA(T:World->Prop)(ao:DT T)(hf:Vl->Nat)(K:Vl->Prop)(KL:KeyLaw K hf)(bh:∀v,K v->NV T v (hf v))(bk:Nat)(bj:∀w w',T w->Below bk w w'->T w')(r0 r1:V9)(R2:Nat)(E S:Nat->Nat)(d:Dc)(p:Nat)(w:Y)(hT:T w)(P:AD w bk r0 r1 R2 E S d)(hS:Small d)
  (B:Inv K hf d) (hp:p<d.n) (ht:(d.L p).turn≠0):
  C9 278 #[.pointer (some (G bk 0)),.pointer (some (G (E p) 0))] w fun e w'=>((∃u,e=.returned u)/\∃aq f ar E2 S',AD w' bk aq f ar E2 S' (YD hf d p))/\Below bk w w':=by
 obtain⟨g1,g2,g3,g4,g5,g6⟩:=LC KL B.i0 B.next hp ht;have cc:=P.lt;have k:=P.Ca p hp;have k0:=k.k0;have k1:=k.k1;have k2:=k.k2;have k3:=k.k3;have k4:=k.k4;have au:=k.lt;have cd:=P.eb p hp;obtain⟨R1,q1,e1⟩:=P.rf;have c1:=P.c1;rw[e1]at c1;have bm:=hS.m;have bc:=B.i0.log.EM;have cg:=B.i0.le;have ch:1<=d.live:=by
  have h1:=JQ hp ht;have h2:(II d:Int)=d.live:=bc;have h3:Dq d d.n=II d:=rfl;omega
 have cj:IntKind.i64.wrap (d.live-1)=d.live-1:=by rw[It];omega
 have END:∀(W:Y) (f:V9) (S':Nat->Nat) (c:Dc),Below bk w W->AD W bk r0 f R2 E S' c->c.n=d.n->c.L=d.L->(∀j,j<c.x->c.X j≠(p:Int)+1)->{c with L:=Bm c.L p default,live:=d.live-1}=J2 hf d p->c.live=d.live->Small c->
   (W.frozen? (G (E p) 0)=false/\∀q,W.frozen? (G (E p) q)=false)/\E p<W.heap.size/\Bo W (E p) (d.L p) p/\Bo (CA W (E p)) (E p) default p/\AD (CA W (E p)) bk r0 f R2 E S' {c with L:=Bm c.L p default}/\AD ((CA W (E p)).setCell (G bk 5) (J (d.live-1))) bk r0 f R2 E S' (J2 hf d p)/\Below bk w ((CA W (E p)).setCell (G bk 5) (J (d.live-1))):=fun W f S' c hB C hn hL hx hg hl hs=>by
  have he:Bo W (E p) (d.L p) p:=by have:=C.Ca p (by omega);rwa [hL]at this
  have g:=C.gF (p:=p) (by omega) (q:=default) (w':=CA W (E p)) NJ (fun b hb=>MT hb) (IV he) (.inr hx);have aj:=g.T0 (d.live-1);have aj:AD ((CA W (E p)).setCell (G bk 5) (J (d.live-1))) bk r0 f R2 E S' {c with L:=Bm c.L p default,live:=d.live-1}:=aj;rw[hg]at aj;have bn:∀q,W.frozen? (G (E p) q)=false:=fun q=>by simp[World.frozen?,he.ob]
  exact⟨⟨bn 0,bn⟩,he.lt,he,Bo.TQ (IV he),g,aj,(hB.trans (MS (by omega))).setCell (by exact A0 _) _⟩
 have af:=O END;have Q:∀(W:Y) (f:V9) (S':Nat->Nat),Below bk w W->AD W bk r0 f R2 E S' (J2 hf d p)->Small (J2 hf d p)->(C9 293 #[.pointer (some (G bk 0))] W (R9 (.bool (tells (DB (J2 hf d p)))) W))/\(∀W',B9 W W'->DB (J2 hf d p)->C9 294 #[.pointer (some (G bk 0))] W' fun e w'=>((∃u,e=.returned u)/\∃aq ar E2 S',AD w' bk aq f ar E2 S' (YD hf d p))/\Below bk W' w')/\(∀W',B9 W W'->¬DB (J2 hf d p)->AD W' bk r0 f R2 E S' (YD hf d p)):=fun W f S' hB C hs=>by
  refine⟨K1 bk r0 f R2 E S' (J2 hf d p) W C hs (by rw[g5];omega) (by rw[g5];omega),fun W' A l=>?_,fun W' A l=>?_⟩
  ·exact VA T ao hf K bh bk bj r0 f R2 E S' (J2 hf d p) W' (bj _ _ hT (hB.trans (A.mono (by have:=C.lt;omega)))) (C.below A) hs g1 l
  ·show AD W' bk r0 f R2 E S' (Am hf (J2 hf d p));rw[Vd l];exact C.below A
 have ah:=O Q;have HM:=O P;have HT:=O hT;have HS:=O hS;have HI:=O B;have bz:=O k;by_cases hs:AH d.m (d.L p).key
 focus
  have av:=O (Bl hs);obtain⟨a1,a2,a3⟩:=hs;obtain⟨q,hq⟩:∃q:Nat,(d.L p).key.num=(q:Int)+1:=⟨((d.L p).key.num-1).toNat,by omega⟩;have b0:q<d.m:=by omega
  have HG:Hid ({{d with m:=shrink (Bm d.I q 0) d.m,I:=Bm d.I q 0}with L:=Bm d.L p default,live:=d.live-1}=J2 hf d p):=O (by
   rw[Kh ⟨a1,a2,a3⟩];unfold goSmall;rw[show((d.L p).key.num-1).toNat=q by omega];rfl)
  have R:∀j,j<d.x->d.X j≠(p:Int)+1:=fun j hj e=>by
   rcases B.i0.idx.range j hj with h|h|⟨h1,h2,h3,h4⟩
   ·omega
   ·omega
   ·rw[show(d.X j-1).toNat=p by omega]at h4;exact h4 ⟨a1,a2,a3⟩
  have ck:=(Hy (Bm d.I q 0) d.m).1;have U:Hid (∀W,B9 w W->C9 291 #[.pointer (some (G bk 0)),J ((q:Int)+1)] W fun e w'=>((∃u,e=.returned u)/\∃f,AD w' bk r0 f R2 E S {d with m:=shrink (Bm d.I q 0) d.m,I:=Bm d.I q 0})/\Below bk W w'):=O (fun W hW=>NL bk r0 r1 R2 E S d q W (P.below hW) hS b0 (fun j hj=>by
   rcases B.i0.ints j hj with e|e<;>omega))
  have HQ:=O hq;have aw:=O R;clear a1 a2 a3 hq R P hT hS B k END Q g1 g2 g3 g4 g5 g6
  go_enter func278,ntmps278
  go_wp2_with fail
  refine qr w ?_;refine N (h:=N (h:=N (h:=N (h:=N (h:=N (h:=N (h:=N (h:=N (h:=N (h:=?_))))))))));refine GS (fun K hK=>?_);go_simp;apply Exists.intro;refine And.intro (fun w' Z=>?_) (hK _ ?_)
  ·refine(((z av)▸Cb (d.L p).key d.m _ bm)).mono ?_;rintro e b1 ⟨rfl,hb⟩;exact⟨rfl,Z.trans (hb.mono Z.size)⟩
  clear hK K;refine GO ?_;intro w1 o;have b2:=(o.cell (p:=(G (E p) 1)) au).trans k1;rw[z HQ]at b2;have t:=Be au o.size;have ae:=O o;clear o k0 k1 k2 k3 k4 c1;go_wp2_with fail
  refine(U _ ae).mono ?_;rintro e w2 ⟨⟨⟨uu,rfl⟩,f,g⟩,ak⟩;obtain⟨⟨b4,ff⟩,l2,e2,bp,m2,m3,b3⟩:=z af w2 f S _ (ae.mono (by omega) |>.trans ak) g rfl rfl aw HG rfl ⟨HS.n,by show shrink (Bm d.I q 0) d.m<=_;omega,HS.x⟩;have c5:=g.c5;have f5:=g.fz 5;have b5:=g.lt;have Cy:E p≠bk:=by omega
  have z0:=e2.k0;have z1:=e2.k1;have z2:=e2.k2;have z3:=e2.k3;have z4:=e2.k4;have z5:=e2.v0;have z6:=e2.v1;have z7:=e2.v2;have z8:=e2.v3;have z9:=e2.v4;have b6:=e2.tn;have bq:Hid (Small (J2 hf d p)):=O (by rw[<-z HG];exact⟨HS.n,by show shrink (Bm d.I q 0) d.m<=_;omega,HS.x⟩)
 rotate_left
 focus
  have av:=O (Bj hs);obtain⟨s,br,b7,ax⟩:=B.i0.found KL (B.i0.keys p hp ht) ⟨hp,ht,hs⟩ (KL.refl _ (B.i0.keys p hp ht));have HG:Hid ({{d with X:=Bm d.X s (-1)}with L:=Bm d.L p default,live:=d.live-1}=J2 hf d p):=O (by rw[Mw hs ax];rfl);have R:∀j,j<d.x->Bm d.X s (-1) j≠(p:Int)+1:=fun j hj e=>by
   by_cases ej:j=s
   ·rw[ej,Al]at e;omega
   ·rw[Af _ _ ej]at e;exact ej (B.i0.idx.uniq j s hj br (by omega) (by omega))
  have ai:Hid (∀W,B9 w W->C9 280 #[.pointer (some (G bk 2)),V (d.L p).key.kind (d.L p).key.num (d.L p).key.Ae (d.L p).key.str (d.L p).key.ref] W (R9 (J (s:Int)) W)):=O (fun W hW=>by
   obtain⟨b8,b9,hB⟩:=(P.below hW).book;have:=Mr T ao bk b8 b9 R2 E S d (d.L p).key (hf (d.L p).key) (bh _ (B.i0.keys p hp ht)) W (ao _ _ hT hW) hB hS B.i0.d4;rw[ax]at this;exact this)
  have U:Hid (∀W,B9 w W->C9 292 #[.pointer (some (G bk 2)),J (s:Int)] W fun e w'=>((∃u,e=.returned u)/\∃S',AD w' bk r0 r1 R2 E S' {d with X:=Bm d.X s (-1)})/\KX (fun b=>b=R2) bk W w'):=O (fun W hW=>Hn bk r0 r1 R2 E S d s W (P.below hW) hS br);obtain⟨cl,ag⟩:=P.slots.block (b:=R2) rfl;have bd:E p≠R2:=fun e=>A9 (e▸k.ob) ag (by decide)
  have aw:=O R;clear hs R P hT hS B k END Q g1 g2 g3 g4 g5 g6 b7 ax ag
  go_enter func278,ntmps278
  go_wp2_with fail
  refine qr w ?_;refine N (h:=N (h:=N (h:=N (h:=N (h:=N (h:=N (h:=N (h:=N (h:=N (h:=?_))))))))));refine GS (fun K hK=>?_);go_simp;apply Exists.intro;refine And.intro (fun w' Z=>?_) (hK _ ?_)
  ·refine(((z av)▸Cb (d.L p).key d.m _ bm)).mono ?_;rintro e b1 ⟨rfl,hb⟩;exact⟨rfl,Z.trans (hb.mono Z.size)⟩
  clear hK K;refine GO ?_;intro w1 o;have i:=bz.keep o.size (o.block _ au);have F:Jp (E p) (d.L p).key w1.drew:=⟨i.k0,i.k1,i.k2,i.k3,i.k4⟩;have t:=i.lt;have cm:=o.size;have ae:=O o;clear o k0 k1 k2 k3 k4 c1 i;go_wp2_with fail
  refine H9 (Jp (E p) (d.L p).key) ?_;refine tz 0 (h:=tz 1 (h:=tz 2 (h:=tz 3 (h:=tz 4 (h:=tz 5 (h:=tz 6 (h:=tz 7 (h:=tz 8 (h:=tz 9 (h:=tz 10 (h:=?_)))))))))));refine ry 11 (fun K hK=>?_);go_simp;refine(ai _ ae.drew).mono ?_;rintro e wf ⟨rfl,r⟩;have r:B9 w1 wf:=(DD w1.heap.size w1).drew.trans r;have D:Jp (E p) (d.L p).key wf:=⟨(r.cell (p:=(G (E p) 0)) t).trans F.1,(r.cell (p:=(G (E p) 1)) t).trans F.2.1,(r.cell (p:=(G (E p) 2)) t).trans F.2.2.1,(r.cell (p:=(G (E p) 3)) t).trans F.2.2.2.1,(r.cell (p:=(G (E p) 4)) t).trans F.2.2.2.2⟩;refine hK.out _ _ D (fun _=>?_);clear hK K F;have cn:=r.size;have bt:=O (ae.trans (r.mono (by omega)));clear r;refine ry 12 (fun K hK=>?_);go_simp;refine(U _ bt).mono ?_;rintro e w2 ⟨⟨⟨uu,rfl⟩,S2,g⟩,ad⟩;have ak:=ad.CH;have H:=ad.BR (E p) (by omega) bd;refine hK.out _ _ ⟨(As (a:=(G (E p) 0)) H).trans D.1,(As (a:=(G (E p) 1)) H).trans D.2.1,(As (a:=(G (E p) 2)) H).trans D.2.2.1,(As (a:=(G (E p) 3)) H).trans D.2.2.2.1,(As (a:=(G (E p) 4)) H).trans D.2.2.2.2⟩ (fun _=>?_);clear hK K D ad H;refine FM ?_;obtain⟨⟨b4,ff⟩,l2,e2,bp,m2,m3,b3⟩:=z af w2 r1 S2 _ (bt.mono (by omega) |>.trans ak) g rfl rfl aw HG rfl ⟨HS.n,HS.m,HS.x⟩;have c5:=g.c5;have f5:=g.fz 5;have b5:=g.lt;have Cy:E p≠bk:=by omega
  have z0:=e2.k0;have z1:=e2.k1;have z2:=e2.k2;have z3:=e2.k3;have z4:=e2.k4;have z5:=e2.v0;have z6:=e2.v1;have z7:=e2.v2;have z8:=e2.v3;have z9:=e2.v4;have b6:=e2.tn;have bq:Hid (Small (J2 hf d p)):=O (by rw[<-z HG];exact⟨HS.n,HS.m,HS.x⟩)
 rotate_left;all_goals
  obtain⟨L1,L2,L3⟩:=z ah _ _ _ b3 m3 bq;unfold CA at L1 L2 L3 b3;have ay:=O L1;have az:=O L2;have aM:=O L3;have a6:=O b3;clear g ak e2 bp m2 m3 b3 L1 L2 L3;go_wp2_with fail
  by_cases l:DB (J2 hf d p)
  ·have a7:=O (Bl l);have bf:=O (fun W' A=>az W' A l);clear l az aM;refine ay.mono ?_;rintro e w5 ⟨rfl,M⟩;rw[z a7];have bu:=O M;clear M;go_wp2_with fail
   refine(bf _ bu).mono ?_;rintro e w6 ⟨⟨⟨cp,rfl⟩,ca,cb,E6,S6,bw⟩,bx⟩;have cq:=a6.size;have a8:=O (a6.trans ((bu.mono (by simp;omega)).trans bx));have bb:=O bw;clear bw bx;go_wp2;go_end0;exact⟨⟨⟨_,rfl⟩,ca,_,cb,E6,S6,bb⟩,a8⟩
  ·have a7:=O (Bj l);have bg:=O (fun W' A=>aM W' A l);clear l az aM;refine ay.mono ?_;rintro e w5 ⟨rfl,M⟩;rw[z a7];have a8:=O (a6.trans (M.mono (by simp;omega)));have bb:=O (bg _ M);clear M ay;go_wp2;go_end0;exact⟨⟨⟨_,rfl⟩,_,_,_,_,_,bb⟩,a8⟩
def dZ:Prop:=∀(T:World->Prop) (f:DT T) (hf:Vl->Nat) (K:Vl->Prop) (j:KeyLaw K hf) (g:∀v,K v->NV T v (hf v)) (bk:Nat) (h:∀w w',T w->Below bk w w'->T w') (r0 r1:V9) (R2:Nat) (E S:Nat->Nat) (d:Dc) (p:Nat) (w:Y) (k:T w) (l:AD w bk r0 r1 R2 E S d) (m:Small d)
  (o:Inv K hf d) (q:p<d.n) (r:(d.L p).turn≠0),
  C9 278 #[Q9 bk,Q9 (E p)] w fun e w'=>((∃u,e=.returned u)/\∃a b c i S',AD w' bk a b c i S' (YD hf d p))/\Below bk w w'
theorem jO:dZ:=SA
def KI(k v:Vl):Prop:=(v.kind=0->dZ)/\(k.kind=2/\0<k.num->aS)
theorem aK(k v:Vl):KI k v:=⟨fun _=>jO,fun _=>jF⟩
def pM(p:Int)(d:Dc)(k:Vl)(bk:Nat)(r0:V9)(R2 b:Nat):Prop:=p=-1->aM d k bk r0 R2 b
theorem TW(T:World->Prop)(B:DT T)(hf:Vl->Nat)(K:Vl->Prop)(KL:KeyLaw K hf)(ae:∀v,K v->NV T v (hf v))(bk:Nat)(ao:∀w w',T w->Below bk w w'->T w')(r0 r1:V9)(R2:Nat)(E S:Nat->Nat)(d:Dc)(k v:Vl)(w:Y)(hT:T w)(C:AD w bk r0 r1 R2 E S d)(hS:Small d)(av:d.m<=4000000)
  (D:Inv K hf d) (hk:K k) (aw:Db k=true) (hv:v.ok=true) (hR:KI k v):
  C9 261 #[Q9 bk,V k.kind k.num k.Ae k.str k.ref,V v.kind v.num v.Ae v.str v.ref] w fun e w'=>((∃u,e=.returned u)/\∃o p r X S',AD w' bk o p r X S' (CB hf d k v))/\KX (pM (AE d k (hf k)) d k bk r0 R2) bk w w':=by
 have aq:0<=AE d k (hf k)->∀b,pM (AE d k (hf k)) d k bk r0 R2 b:=fun h b h'=>by omega
 have ar:∀b,aM d k bk r0 R2 b->pM (AE d k (hf k)) d k bk r0 R2 b:=fun b h _=>h
 generalize pM (AE d k (hf k)) d k bk r0 R2=Mq at*;have ax:=O aq;have ay:=O ar;clear aq ar;have au:=O hR;clear hR;have Z:=C.lt;have H:B9 w ((w.alloc (.cells #[J k.kind,J k.num,F9 k.Ae,.string k.str,J k.ref] 43)).alloc (.cells #[J v.kind,J v.num,F9 v.Ae,.string v.str,J v.ref] 43)):=(n9).alloc (by simp) _;have g:Hid (Js ((w.alloc (.cells #[J k.kind,J k.num,F9 k.Ae,.string k.str,J k.ref] 43)).alloc (.cells #[J v.kind,J v.num,F9 v.Ae,.string v.str,J v.ref] 43)) w.heap.size k/\Js ((w.alloc (.cells #[J k.kind,J k.num,F9 k.Ae,.string k.str,J k.ref] 43)).alloc (.cells #[J v.kind,J v.num,F9 v.Ae,.string v.str,J v.ref] 43)) (w.heap.size+1) v):=O ⟨⟨by simp;omega,by simp[go_sem],by simp[go_sem],by simp[go_sem],by simp[go_sem],by simp[go_sem]⟩,⟨by simp,by simp[go_sem],by simp[go_sem],by simp[go_sem],by simp[go_sem],by simp[go_sem]⟩⟩;have c:=O H;have s:∀W,B9 w W->C9 263 #[Q9 bk,V k.kind k.num k.Ae k.str k.ref] W (R9 (.pointer (CO E (AE d k (hf k)))) W):=fun W I=>by
  obtain⟨az,a6,hB⟩:=(C.below I).book;exact Ig T B bk az a6 R2 E S d k (hf k) (ae k hk) W (B _ _ hT I) hB hS D.i0.d3 D.i0.d4
 rcases D.i0.place KL hk with⟨i,h1,h2,h3,h4⟩|⟨h1,h2⟩
 ·have F:0<=AE d k (hf k):=by omega
  have HU:=O (ax F);have hi:(AE d k (hf k)).toNat=i:=by omega
  have t:CO E (AE d k (hf k))=some (G (E i) 0):=by unfold CO;rw[C3 F,hi]
  rw[t]at s;have n:=O s;have a7:=C.eb i h1;by_cases x:v.kind=0
  ·have j:Hid (CB hf d k v=YD hf d i):=O (by rw[LL F x,hi]);have aj:Hid (∀W,B9 w W->C9 278 #[Q9 bk,Q9 (E i)] W fun e w'=>((∃u,e=.returned u)/\∃o p r X S',AD w' bk o p r X S' (YD hf d i))/\Below bk W w'):=O (fun W I=>au.1 x T B hf K KL ae bk ao r0 r1 R2 E S d i W (B _ _ hT I) (C.below I) hS D h1 h2);have HV:=O x;rw[z j];clear C hT hS D h2 h3 h4 F hi t s H x
   go_enter func261,ntmps261
   go_wp2_with fail
   refine(n _ c).mono ?_;rintro e w1 ⟨rfl,a⟩;have l:=g.2.keep a.size (a.block _ g.2.lt);have v0:=l.k0;rw[z HV]at v0;have lv:=l.lt;have A:=O (c.trans (a.mono c.size));clear a l;go_wp2_with fail
   refine(aj _ A).mono ?_;rintro e w2 ⟨⟨⟨uu,rfl⟩,o,p,r,X,S',M⟩,P⟩;have af:=O M;have Q:=O ((A.mono (Aar Z)).trans P);clear M P;go_wp2;go_end0;exact⟨⟨⟨_,rfl⟩,o,p,r,X,S',af⟩,Q,fun b _ h=>absurd (HU b) h⟩
  ·have j:Hid (CB hf d k v=EE d i v):=O (by rw[JO F x,hi]);have bf:(v.kind !=0)=true:=by simp[x]
   have ad:Hid (∀W,B9 w W->Bo W (E i) (d.L i) i/\AD (GY W (E i) v) bk r0 r1 R2 E S (EE d i v)):=O (fun W I=>by
    have R:=(C.below I).Ca i h1;exact⟨R,(C.below I).gF h1 Rf (fun b hb=>PW hb) (Rc R) (.inl rfl)⟩)
   rw[z j];clear C hT hS D h2 h3 h4 F hi t s H x
   go_enter func261,ntmps261
   go_wp2_with fail
   refine(n _ c).mono ?_;rintro e w1 ⟨rfl,a⟩;have l:=g.2.keep a.size (a.block _ g.2.lt);have v0:=l.k0;have v1:=l.k1;have v2:=l.k2;have v3:=l.k3;have v4:=l.k4;have lv:=l.lt;have f:=c.trans (a.mono c.size);obtain⟨R,hN⟩:=z ad _ f;have bn:∀q,w1.frozen? (G (E i) q)=false:=fun q=>by simp[World.frozen?,R.ob]
   have z5:=R.v0;have z6:=R.v1;have z7:=R.v2;have z8:=R.v3;have z9:=R.v4;have bp:=R.lt;have Q:Hid (Below bk w (GY w1 (E i) v)):=O ((f.mono (Aar Z)).trans (PU (bk:=bk) (w:=w1) (b:=E i) (v:=v) (Aar a7)));have HN:=O hN;clear a l f R hN ad g n c;go_wp2;go_end0;exact⟨⟨⟨_,rfl⟩,_,_,_,_,_,HN⟩,Q,fun b _ h=>absurd (HU b) h⟩
 ·have F:¬0<=AE d k (hf k):=by omega
  have t:CO E (AE d k (hf k))=none:=by unfold CO;rw[Cs F]
  rw[t]at s;have n:=O s;have bg:=D.i0.log.EM;have bq:=D.i0.le;have br:=D.i0.turns;by_cases hc:v.kind≠0/\d.live<500/\d.turns<1000000000000
  ·have j:Hid (CB hf d k v=KQ hf d k v):=O (Gq F hc);obtain⟨ag,ah,ai⟩:=hc;have bh:(v.kind !=0)=true:=by simp[ag]
   have bj:decide (d.live<500)=true:=by simp[ah]
   have bm:decide (d.turns<1000000000000)=true:=by simp[ai]
   have ak:Hid (∀W,B9 w W->C9 279 #[Q9 bk,V k.kind k.num k.Ae k.str k.ref,V v.kind v.num v.Ae v.str v.ref] W fun e w'=>((∃u,e=.returned u)/\∃o p r X S',AD w' bk o p r X S' (KQ hf d k v))/\KX Mq bk W w'):=O (fun W I=>YI T B hf K KL ae bk ao r0 r1 R2 E S d k v W (B _ _ hT I) (C.below I) hS av D hk aw hv ag h1 ah ai au.2 |>.mono fun e w' h=>⟨h.1,h.2.mono fun b _=>ay b⟩);have HM:=O C;rw[z j];clear C hT hS D h1 h2 F t s H ag ah ai
   go_enter func261,ntmps261
   go_wp2_with fail
   refine(n _ c).mono ?_;rintro e w1 ⟨rfl,a⟩;have f:=c.trans (a.mono c.size);have l:=g.2.keep a.size (a.block _ g.2.lt);have vk:=g.1.keep a.size (a.block _ g.1.lt);have v0:=l.k0;have v1:=l.k1;have v2:=l.k2;have v3:=l.k3;have v4:=l.k4;have lv:=l.lt;have y0:=vk.k0;have y1:=vk.k1;have y2:=vk.k2;have y3:=vk.k3;have y4:=vk.k4;have lk:=vk.lt;have c5:=(HM.below f).c5;have c6:=(HM.below f).c6;have lb:=(HM.below f).lt;have A:=O f;clear a l vk f;go_wp2_with fail
   refine(ak _ A).mono ?_;rintro e w2 ⟨⟨⟨uu,rfl⟩,o,p,r,X,S',M⟩,P⟩;have af:=O M;have Q:=O ((KX.Ay A (Aar Z)).trans P);clear M P;go_wp2;go_end0;exact⟨⟨⟨_,rfl⟩,o,p,r,X,S',af⟩,Q⟩
  ·have j:Hid (CB hf d k v=d):=O (JN F hc);have HM:=O C;rw[z j];have a8:v.kind=0\/(v.kind≠0/\¬d.live<500)\/(v.kind≠0/\d.live<500/\¬d.turns<1000000000000):=by
    by_cases e1:v.kind=0
    ·exact .inl e1
    ·by_cases e2:d.live<500
     ·exact .inr (.inr ⟨e1,e2,fun e3=>hc ⟨e1,e2,e3⟩⟩)
     ·exact .inr (.inl ⟨e1,e2⟩)
   clear C hT hS D h1 h2 F t s H hc
   go_enter func261,ntmps261
   go_wp2_with fail
   refine(n _ c).mono ?_;rintro e w1 ⟨rfl,a⟩;have f:=c.trans (a.mono c.size);have l:=g.2.keep a.size (a.block _ g.2.lt);have v0:=l.k0;have lv:=l.lt;have U:=HM.below f;have c5:=U.c5;have c6:=U.c6;have lb:=U.lt;have bb:=O U;have A:Hid (KX Mq bk w w1):=O (KX.Ay f (Aar Z));clear a l f U;rcases a8 with e1|⟨e1,e2⟩|⟨e1,e2,e3⟩
   focus
    rw[e1]at v0;clear e1
   rotate_left
   focus
    have bc:(v.kind !=0)=true:=by simp[e1]
    have bd:decide (d.live<500)=false:=by simp[e2]
    clear e1 e2
   rotate_left
   focus
    have bc:(v.kind !=0)=true:=by simp[e1]
    have bd:decide (d.live<500)=true:=by simp[e2]
    have bt:decide (d.turns<1000000000000)=false:=by simp[e3]
    clear e1 e2 e3
   rotate_left;all_goals
    go_wp2;go_end0;exact⟨⟨⟨_,rfl⟩,_,_,_,_,_,bb⟩,A⟩
theorem MK(n:Nat)(hn:n<=4194304)(w:Y):
  (Instr.makeSlice 90 (J (n:Int)) (J (n:Int))).run prog w=.ok (S9 w.heap.size n n) (w.alloc (.cells (madeCells #[Value.int .i64 0] n) 3)):=by
 have:=Ow n hn w;simpa[Value.cells]using this
def I3(f:Nat->Int)(n:Nat)(w:Y)(v:V9)(lo hi:Nat):Prop:=
 (n=0/\v=N9)\/∃b a Z g,v=S9 b n a/\lo<=b/\b<hi/\w.rowIs b 3 Z g/\n<=Z/\∀j,j<n->g j=J (f j)
theorem I3.keep{f:Nat->Int}{n:Nat}{w w':Y}{v:V9}{lo hi:Nat}(h:I3 f n w v lo hi)(hk:∀b,v.ownBlock=some b->lo<=b->b<hi->w'.heap[b]?=w.heap[b]?):I3 f n w' v lo hi:=by
 rcases h with h|⟨b,a,Z,g,h1,h2,h3,h4,h5,c⟩
 ·exact .inl h
 ·exact .inr ⟨b,a,Z,g,h1,h2,h3,Re h4 (hk b (by rw[h1];rfl) h2 h3),h5,c⟩
theorem I3.of{f:Nat->Int}{n B:Nat}{w:Y}{v:V9}(h:DG w B v n f):I3 f n w v B w.heap.size:=by
 have b:=h.lt;obtain⟨hl,⟨c,d⟩|⟨g',cap,cur,c,hb,a,h1,h2,h3,h4⟩⟩:=h
 ·exact .inl ⟨d,c⟩
 ·subst c;refine .inr ⟨g',cap,cap,fun j=>(cur[j]?).getD undef,rfl,hb,(b g' rfl).2,⟨cur,a,by omega,fun i hi=>by simp[Aaw (show i<cur.size by omega)]⟩,h1,fun j hj=>?_⟩;have h5:=GF (f:=f) (n:=n) (i:=j) hj;rw[<-h4,AaU,C3 (by omega),Array.getElem?_toList]at h5;show(cur[j]?).getD undef=_;rw[h5];rfl
theorem I3.at{f:Nat->Int}{n:Nat}{w:Y}{v:V9}{lo hi:Nat}(h:I3 f n w v lo hi):∃a c,v=.slice a n c/\V5 w a n f:=by
 rcases h with⟨d,rfl⟩|⟨b,c,Z,g,h1,h2,h3,h4,h5,e⟩
 ·subst d;exact⟨_,_,rfl,.inl rfl⟩
 ·exact⟨_,_,h1,.inr ⟨b,0,rfl,We h4,fun i hi=>by rw[Aaa,h4.cell (by omega),e i hi]⟩⟩
structure DV (d:Dc) (w:Y) (v0 v1 v2:V9) (lo hi:Nat):Prop where
 log:Lj d.L d.n w v0 lo hi
 ints:I3 d.I d.m w v1 lo hi
 index:I3 d.X d.x w v2 lo hi
 gW:∀q,v0.ownBlock=some q->v1.ownBlock≠some q
 gX:∀q,v0.ownBlock=some q->v2.ownBlock≠some q
 a12:∀q,v1.ownBlock=some q->v2.ownBlock≠some q
abbrev Z0(v0 v1 v2:V9)(d:Dc):Value:=.agg #[v0,v1,v2,J d.used,J d.live,J d.turns]
theorem DV.keep{d:Dc}{w w':Y}{v0 v1 v2:V9}{lo hi:Nat}(h:DV d w v0 v1 v2 lo hi)(hk:∀b,lo<=b->b<hi->w'.heap[b]?=w.heap[b]?):DV d w' v0 v1 v2 lo hi:=
 ⟨h.log.keep hk,h.ints.keep (fun b _=>hk b),h.index.keep (fun b _=>hk b),h.gW,h.gX,h.a12⟩
theorem DV.at{d:Dc}{w:Y}{v0 v1 v2:V9}{lo hi:Nat}(h:DV d w v0 v1 v2 lo hi):∃la lc ia ic xa xc,v0=.slice la d.n lc/\v1=.slice ia d.m ic/\v2=.slice xa d.x xc/\Gy w la ia xa d:=by
 obtain⟨la,lc,rfl,a⟩:=h.log.at;obtain⟨ia,ic,rfl,h1⟩:=h.ints.at;obtain⟨xa,xc,rfl,h2⟩:=h.index.at;exact⟨la,lc,ia,ic,xa,xc,rfl,rfl,rfl,a,h1,h2⟩
theorem Lj.own{f:Nat->Pr}{n:Nat}{w:Y}{v:V9}{lo hi:Nat}(h:Lj f n w v lo hi){b:Nat}(e:v.ownBlock=some b):lo<=b/\b<hi/\b<w.heap.size:=by
 rcases h with⟨a,rfl⟩|⟨b',c,Z,g,rfl,h2,h3,h4,h5,d⟩
 ·cases e
 ·have e':b'=b:=by simpa[Value.ownBlock]using e
  subst e';exact⟨h2,h3,We h4⟩
structure D9 (w wr:Y) (v0 v1 v2:V9) (d:Dc):Prop where
 b0:wr.heap[w.heap.size]?=some (.cells #[N9,N9,N9,J 0,J 0,J 0] 92 (0,0))
 b1:wr.heap[w.heap.size+1]?=some (.cells #[v0,v1,v2,J d.used,J d.live,J d.turns] 92 (0,0))
 CH:B9 w wr
theorem D9.size{w wr:Y}{v0 v1 v2:V9}{d:Dc}(h:D9 w wr v0 v1 v2 d):w.heap.size+1<wr.heap.size:=(E1.1 h.b1).1
theorem D9.cells{w wr:Y}{v0 v1 v2:V9}{d:Dc}(h:D9 w wr v0 v1 v2 d):wr.cell? (Y9 w 0)=some v0/\wr.cell? (Y9 w 1)=some v1/\wr.cell? (Y9 w 2)=some v2/\wr.cell? (Y9 w 3)=some (J d.used)/\wr.cell? (Y9 w 4)=some (J d.live)/\wr.cell? (Y9 w 5)=some (J d.turns)/\∀q,wr.frozen? (Y9 w q)=false:=
 ⟨by simp[World.cell?,h.b1],by simp[World.cell?,h.b1],by simp[World.cell?,h.b1],by simp[World.cell?,h.b1],by simp[World.cell?,h.b1],by simp[World.cell?,h.b1],fun q=>by simp[World.frozen?,h.b1]⟩
theorem D9.keep{w wr w':Y}{v0 v1 v2:V9}{d:Dc}(h:D9 w wr v0 v1 v2 d)(a:w'.heap[w.heap.size]?=wr.heap[w.heap.size]?)(h1:w'.heap[w.heap.size+1]?=wr.heap[w.heap.size+1]?)(hb:B9 w w'):D9 w w' v0 v1 v2 d:=⟨a.trans h.b0,h1.trans h.b1,hb⟩
theorem D9.jR{w wr:Y}{v0 v1 v2 u:V9}{d:Dc}(h:D9 w wr v0 v1 v2 d):D9 w (wr.setCell (Y9 w 0) u) u v1 v2 d:=
 ⟨(At _ _ _ _ (by show w.heap.size≠w.heap.size+1;omega)).trans h.b0,(GW _ _ _ _ _ _ h.b1).trans (by simp),h.CH.setCell (by show w.heap.size<=w.heap.size+1;omega) _⟩
theorem D9.dE{w wr:Y}{v0 v1 v2 u:V9}{d:Dc}(h:D9 w wr v0 v1 v2 d):D9 w (wr.setCell (Y9 w 1) u) v0 u v2 d:=
 ⟨(At _ _ _ _ (by show w.heap.size≠w.heap.size+1;omega)).trans h.b0,(GW _ _ _ _ _ _ h.b1).trans (by simp),h.CH.setCell (by show w.heap.size<=w.heap.size+1;omega) _⟩
theorem D9.dF{w wr:Y}{v0 v1 v2 u:V9}{d:Dc}(h:D9 w wr v0 v1 v2 d):D9 w (wr.setCell (Y9 w 2) u) v0 v1 u d:=
 ⟨(At _ _ _ _ (by show w.heap.size≠w.heap.size+1;omega)).trans h.b0,(GW _ _ _ _ _ _ h.b1).trans (by simp),h.CH.setCell (by show w.heap.size<=w.heap.size+1;omega) _⟩
def Jo(f:Nat->Int)(k j:Nat):Int:=if j<k then f j else 0
theorem KC(f:Nat->Int)(k:Nat):Bm (Jo f k) k (f k)=Jo f (k+1):=by
 funext j
 unfold Jo;by_cases e:j=k
 ·subst e;rw[Al,C3 (by omega)]
 ·rw[Af _ _ e];by_cases h:j<k
  ·rw[C3 h,C3 (by omega)]
  ·rw[Cs h,Cs (by omega)]
theorem OQ(f:Nat->Int)(k:Nat)(h:f k=0):Jo f k=Jo f (k+1):=by
 rw[<-KC,h]
 funext j
 by_cases e:j=k
 ·subst e;rw[Al];exact Cs (by omega)
 ·rw[Af _ _ e]
theorem DG.congr{w:Y}{B:Nat}{v:V9}{n:Nat}{f g:Nat->Int}(h:DG w B v n f)(e:∀i,i<n->g i=f i):DG w B v n g:=by
 have hl:iL g n=iL f n:=by
  apply List.ext_getElem?;intro q;by_cases hq:q<n
  ·rw[GF hq,GF hq,e q hq]
  ·rw[SO (by rw[Cr];omega),SO (by rw[Cr];omega)]
 show w.ownsRow _ _ _ _ _ (iL g n);rw[hl];exact h
def LU(e:Nat)(p:Pr)(W:Y):Prop:=W.cell? (G e 0)=some (J p.key.kind)/\W.cell? (G e 1)=some (J p.key.num)/\W.cell? (G e 2)=some (F9 p.key.Ae)/\W.cell? (G e 3)=some (.string p.key.str)/\W.cell? (G e 4)=some (J p.key.ref)/\W.cell? (G e 5)=some (J p.val.kind)/\W.cell? (G e 6)=some (J p.val.num)/\W.cell? (G e 7)=some (F9 p.val.Ae)/\W.cell? (G e 8)=some (.string p.val.str)/\W.cell? (G e 9)=some (J p.val.ref)/\W.cell? (G e 10)=some (J p.turn)
theorem Bo.held{w:Y}{b:Nat}{p:Pr}{i:Nat}(h:Bo w b p i):LU b p w:=⟨h.k0,h.k1,h.k2,h.k3,h.k4,h.v0,h.v1,h.v2,h.v3,h.v4,h.tn⟩
def Z2(bk:Nat)(a b c:Int)(W:Y):Prop:=W.cell? (G bk 4)=some (J a)/\W.cell? (G bk 5)=some (J b)/\W.cell? (G bk 6)=some (J c)
def VX(c g m e:Nat)(x:Int)(W:Y):Prop:=W.cell? (G c 1)=some (S9 g m m)/\W.cell? (G e 11)=some (J x)
def V4(c g m s e:Nat)(x:Int)(W:Y):Prop:=W.cell? (G c 2)=some (S9 g m m)/\W.cell? (G s 5)=some (Q9 e)/\W.cell? (G e 11)=some (J x)
theorem Qc(bk:Nat)(r0 r1:V9)(R2:Nat)(E S:Nat->Nat)(d:Dc)(w:Y)(hM:AD w bk r0 r1 R2 E S d)(hS:Small d)(hI:∀j,j<d.m->0<=d.I j/\d.I j<=d.n)(hX:∀j,j<d.x->d.X j=0\/d.X j=-1\/(0<d.X j/\d.X j<=d.n)):
  C9 262 #[.pointer (some (G bk 0))] w fun e w'=>(∃v0 v1 v2,e=.returned (Z0 v0 v1 v2 d)/\DV d w' v0 v1 v2 w.heap.size w'.heap.size)/\B9 w w':=by
 obtain⟨i0,cb,cd,cg,ch⟩:=Tn Gi;have hn:=hS.n;have hm:=hS.m;have hx:=hS.x;obtain⟨a0,l0,e0⟩:=hM.log.slice;obtain⟨Q1,l1,e1⟩:=hM.rf;subst e0 e1;have s:=hM.lt;have c0:=hM.c0;have c4:=hM.c4;have c5:=hM.c5;have c6:=hM.c6;have c8:=MK d.m hm;have c9:=MK d.x hx;have HM:=O hM;have HI:=O hI;have HX:=O hX;clear hM hS hI hX
 go_enter func262,ntmps262
 go_wp2_with fail
 refine H9 (Z2 bk d.used d.live d.turns) ?_;have F:∀o,B9 w (w.alloc o):=fun o=>n9
 have Z:∀o,B9 w (w.alloc o).drew:=fun o=>(F o).drew
 have t:∀o,Z2 bk d.used d.live d.turns (w.alloc o).drew:=fun o=>⟨((Z o).cell (p:=(G bk 4)) s).trans c4,((Z o).cell (p:=(G bk 5)) s).trans c5,((Z o).cell (p:=(G bk 6)) s).trans c6⟩
 have bg:=t (.cells #[N9,N9,N9,J 0,J 0,J 0] 92);refine tz 0 (h:=tz 1 (h:=tz 2 (h:=tz 3 (h:=tz 4 (h:=tz 5 (h:=tz 6 (h:=tz 7 (h:=tz 8 (h:=tz 9 (h:=tz 10 (h:=tz 11 (h:=?_))))))))))));refine tz 12 (h:=tz 13 (h:=?_));refine ry 14 (fun K hK=>?_);go_simp;refine hK.out _ _ ⟨(((F _).alloc (by simp) _).drew.cell (p:=(G bk 4)) s).trans c4,(((F _).alloc (by simp) _).drew.cell (p:=(G bk 5)) s).trans c5,(((F _).alloc (by simp) _).drew.cell (p:=(G bk 6)) s).trans c6⟩ (fun B=>?_);clear hK K;refine ry 15 (fun K hK=>?_);go_simp;refine hK.out _ _ ⟨(((F _).alloc (by simp) _).drew.cell (p:=(G bk 4)) s).trans c4,(((F _).alloc (by simp) _).drew.cell (p:=(G bk 5)) s).trans c5,(((F _).alloc (by simp) _).drew.cell (p:=(G bk 6)) s).trans c6⟩ (fun _=>?_);clear hK K B t bg;refine FM ?_;obtain⟨W1,bb⟩:∃W1,W1=((w.alloc (.cells #[N9,N9,N9,J 0,J 0,J 0] 92)).alloc (.cells #[N9,N9,N9,J d.used,J d.live,J d.turns] 92)).drew:=⟨_,rfl⟩;rw[<-bb];have ay:D9 w W1 (N9) (N9) (N9) d:=by
  rw[bb];refine⟨(Fs _ _ _ (by simp)).trans (BE _ _),?_,((F _).alloc (by simp) _).drew⟩;have h1:=BE (w.alloc (.cells #[N9,N9,N9,J 0,J 0,J 0] 92)) (.cells #[N9,N9,N9,J d.used,J d.live,J d.turns] 92);rw[World.size_alloc]at h1;exact h1
 have cj:=(ay.CH.cell (p:=(G bk 0)) s).trans c0;have ck:=Be s ay.CH.size;have bq:=O ay;clear ay bb F Z c0 c4 c5 c6;go_wp2_with fail
 clear cj;go_loopw [29] (fun i wr=>∃(k:Nat) (v0:V9),k<=d.n/\i=J (k:Int)/\Ci wr (w.heap.size+2) v0 k d.L/\D9 w wr v0 (N9) (N9) d) (fun i _=>d.n-(intOf i).toNat)
 case atStart=>exact⟨0,N9,by omega,rfl,ON _ _ _ _,bq⟩
 case round=>
  clear bq;obtain⟨k,v0,hk,rfl,C,f⟩:=hrel;have c:=HM.below f.CH;have az:=f.size;by_cases l:k<d.n
  ·obtain⟨g0,da,e0,_,dc,_,br,_⟩:=c.log.form (by omega);cases e0;have rk:=br k l;have he:=c.Ca k l;have a:=he.lt;have bt:=(HM.Ca k l).lt;obtain⟨x0,_,_,_,_,_,r⟩:=f.cells;have fx:=r 0;have t:LU (E k) (d.L k) wr.drew:=he.drew.held;have aj:Hid (Ci wr.drew (w.heap.size+2) v0 k d.L):=O C.drew;have bh:Hid (∀(o:Obj) (g3 H:Nat) (w3:Y),w3.ownsRow (w.heap.size+2) 96 11 (.slice (some (G g3 0)) (k+1) H) (k+1) (pL d.L k++Eb (d.L k))->(wr.drew.alloc o).grownBy w3 v0.ownBlock->LU (E k) (d.L k) w3/\w3.cell? (Y9 w 0)=some v0/\w3.frozen? (Y9 w 0)=false/\w.heap.size+1<w3.heap.size/\LU (E k) (d.L k) (w3.setCell (Y9 w 0) (.slice (some (G g3 0)) (k+1) H))/\
     (Ci (w3.setCell (Y9 w 0) (.slice (some (G g3 0)) (k+1) H)) (w.heap.size+2) (.slice (some (G g3 0)) (k+1) H) (k+1) d.L/\D9 w (w3.setCell (Y9 w 0) (.slice (some (G g3 0)) (k+1) H)) (.slice (some (G g3 0)) (k+1) H) (N9) (N9) d)):=O (fun o g3 H w3 h1 h2=>by
    have hB:∀b,b<w.heap.size+2->w3.heap[b]?=wr.heap[b]?:=fun b hb=>(h2.block b (by simp;omega) (fun e=>by have:=(C.lt b e.symm).1;omega)).trans (Fs _ _ _ (by show b<wr.heap.size;omega))
    have cl:wr.heap.size<=w3.heap.size:=by have:=h2.size;simp at this;omega
    have P:D9 w w3 v0 (N9) (N9) d:=f.keep (hB _ (by omega)) (hB _ (by omega)) (((f.CH.drew).alloc (by show w.heap.size<=wr.heap.size;omega) o).grown h2 (by simp;omega) (fun q e=>by have:=(C.lt q e).1;omega));have bu:=he.keep cl (hB _ (by omega));obtain⟨y0,_,_,_,_,_,yf⟩:=P.cells;have dd:=(World.ownsRow.lt h1 g3 rfl).1;refine⟨bu.held,y0,yf 0,by omega,(bu.keep (by simp) (At _ _ _ _ (by show E k≠w.heap.size+1;omega))).held,Ck h1 (fun q e=>At _ _ _ _ (by
     have e':g3=q:=by simpa[Value.ownBlock]using e
     show q≠w.heap.size+1;omega)),P.jR⟩)
   clear C c br he f r;go_wp2_with fail
   refine H9 (LU (E k) (d.L k)) ?_;refine tz 0 (h:=tz 2 (h:=tz 3 (h:=tz 4 (h:=tz 5 (h:=?_)))));refine AaG (rs:=[1,6]) (by kernel_rfl) (by simp) ?_;refine RC rfl (fun K hK=>?_) (RC rfl (fun K hK=>?_) AaI)
   focus
    go_simp;refine hK.out _ _ t (fun _=>?_);clear hK K;refine ry 6 (fun K hK=>?_);go_simp;refine hK.out _ _ (by obtain⟨s0,s1,s2,s3,s4,s5,s6,s7,s8,s9,bc⟩:=t;exact(fun(hb:B9 wr _)=>(⟨(hb.cell (p:=(G (E k) 0)) a).trans s0,(hb.cell (p:=(G (E k) 1)) a).trans s1,(hb.cell (p:=(G (E k) 2)) a).trans s2,(hb.cell (p:=(G (E k) 3)) a).trans s3,(hb.cell (p:=(G (E k) 4)) a).trans s4,(hb.cell (p:=(G (E k) 5)) a).trans s5,(hb.cell (p:=(G (E k) 6)) a).trans s6,(hb.cell (p:=(G (E k) 7)) a).trans s7,(hb.cell (p:=(G (E k) 8)) a).trans s8,(hb.cell (p:=(G (E k) 9)) a).trans s9,(hb.cell (p:=(G (E k) 10)) a).trans bc⟩:LU (E k) (d.L k) _)) ((DD wr.heap.size wr).drew.alloc (A0 _) _)) (fun B=>?_)
   rotate_left
   focus
    go_simp;refine hK.out _ _ (by obtain⟨s0,s1,s2,s3,s4,s5,s6,s7,s8,s9,bc⟩:=t;exact(fun(hb:B9 wr _)=>(⟨(hb.cell (p:=(G (E k) 0)) a).trans s0,(hb.cell (p:=(G (E k) 1)) a).trans s1,(hb.cell (p:=(G (E k) 2)) a).trans s2,(hb.cell (p:=(G (E k) 3)) a).trans s3,(hb.cell (p:=(G (E k) 4)) a).trans s4,(hb.cell (p:=(G (E k) 5)) a).trans s5,(hb.cell (p:=(G (E k) 6)) a).trans s6,(hb.cell (p:=(G (E k) 7)) a).trans s7,(hb.cell (p:=(G (E k) 8)) a).trans s8,(hb.cell (p:=(G (E k) 9)) a).trans s9,(hb.cell (p:=(G (E k) 10)) a).trans bc⟩:LU (E k) (d.L k) _)) ((DD wr.heap.size wr).drew.alloc (A0 _) _)) (fun B=>?_);clear hK K;refine ry 1 (fun K hK=>?_);go_simp;refine hK.out _ _ B (fun _=>?_)
   rotate_left;all_goals
    clear hK K;refine ry 7 (fun K hK=>?_);refine Aap _ rfl (.tmp 34) (.tmp 39) 85 rfl (w.heap.size+2) 96 i0 PZ 11 104 underlying85 cb cd cg ch rfl (by decide) v0 k (pL d.L k) (by simp[Act.eval]) (IH aj _) (y wr 0) 1 1 (Eb (d.L k)) (by simp[Act.eval]) rfl (GP (BE _ _)) (Er _) (by decide) (by unfold maxLen;omega) (by omega) (by simp;omega) _ rfl ?_;intro g3 H w3 ad av ax cz;obtain⟨bw,x3,f3,l3,bx,bz⟩:=z bh _ g3 H w3 ad av;clear ad av ax;refine hK.out _ _ bw (fun bj=>?_);clear hK K;refine tz 8 (h:=?_);refine ry 9 (fun K hK=>?_);go_simp;refine hK.out _ _ bx (fun _=>?_);clear hK K t bw bj bx;refine FM ?_;have A:=O bz;clear bz x3 f3;go_wp2;go_roundw
    case rel=>exact⟨k+1,_,by omega,by go_num,A.1,A.2⟩
    case measure=>simp[intOf];omega
  ·have ak:k=d.n:=by omega
   subst ak;have cm:=O c;have aj:=O C;have c1:=c.c1;have lb:=c.lt;obtain⟨x0,x1,x2,x3,x4,x5,r⟩:=f.cells;have cn:=r 1;have HW:=O f;clear c C f r;go_wp2_with fail
   obtain⟨g1,aM⟩:∃g1,g1=wr.heap.size:=⟨_,rfl⟩;obtain⟨W2,ao⟩:∃W2,W2=(wr.setCell (Y9 w 1) (.slice (some (G wr.heap.size 0)) d.m d.m)).alloc (.cells (madeCells #[Value.int .i64 0] d.m) 3):=⟨_,rfl⟩;rw[<-ao];have b1:DG W2 (w.heap.size+2) (.slice (some (G g1 0)) d.m d.m) d.m (Jo d.I 0):=by
    have h1:=DG.made (wr.setCell (Y9 w 1) (.slice (some (G wr.heap.size 0)) d.m d.m)) (w.heap.size+2) d.m (by simp;omega) hm;rw[show(wr.setCell (Y9 w 1) (.slice (some (G wr.heap.size 0)) d.m d.m)).heap.size=g1 by rw[aM];simp]at h1;rw[ao];exact h1.congr (fun i _=>Cs (by omega))
   have ag:∀b,b<g1->b≠w.heap.size+1->W2.heap[b]?=wr.heap[b]?:=fun b hb Cy=>by
    rw[ao];exact(Fs _ _ _ (by simp;omega)).trans (At _ _ _ _ (by exact Cy))
   have a6:∀q,v0.ownBlock=some q->w.heap.size+2<=q/\q<g1:=fun q e=>by have:=aj.lt q e;omega
   have b2:Ci W2 (w.heap.size+2) v0 d.n d.L:=Ck aj (fun q e=>ag q (a6 q e).2 (by have:=(a6 q e).1;omega));have b3:D9 w W2 v0 (.slice (some (G g1 0)) d.m d.m) (N9) d:=by
    have h1:=HW.dE (u:=.slice (some (G g1 0)) d.m d.m);rw[aM]at h1 ⊢;rw[ao];exact h1.keep (Fs _ _ _ (by simp;omega)) (Fs _ _ _ (by simp;omega)) (h1.CH.alloc (by simp;omega) _)
   have cN:w.heap.size+2<=g1:=by omega
   have a7:=O (show DG W2 (w.heap.size+2) (.slice (some (G g1 0)) d.m d.m) d.m (Jo d.I 0)/\Ci W2 (w.heap.size+2) v0 d.n d.L/\D9 w W2 v0 (.slice (some (G g1 0)) d.m d.m) (N9) d from⟨b1,b2,b3⟩);rw[<-aM];have ah:=O a6;clear cm aj HW b1 ag a6 b2 b3 ao aM x0 x1 x2 x3 x4 x5 cn c1 lb az l hk ck;go_loopw [55] (fun i wr=>∃k:Nat,k<=d.m/\i=J (k:Int)/\DG wr (w.heap.size+2) (.slice (some (G g1 0)) d.m d.m) d.m (Jo d.I k)/\Ci wr (w.heap.size+2) v0 d.n d.L/\D9 w wr v0 (.slice (some (G g1 0)) d.m d.m) (N9) d) (fun i _=>d.m-(intOf i).toNat)
   case atStart=>exact⟨0,by omega,rfl,a7.1,a7.2.1,a7.2.2⟩
   case round=>
    clear a7;obtain⟨k,hk,rfl,U,V,f⟩:=hrel;have c:=HM.below f.CH;have az:=f.size;by_cases l:k<d.m
    ·obtain⟨_,_,e1,_,_,_,Q,_⟩:=c.ints.form (by omega);cases e1;have rk:wr.cell? (G Q1 k)=some (.pointer (B1 E (d.I k))):=Q k l;obtain⟨_,_,e2,cp,cq,_,R,T⟩:=U.form (by omega);cases e2;have gk:=R k l;have gf:=T k;have bd:=Hi _ _ rk;dsimp only at bd;obtain⟨b4,b5⟩:=z HI k l;obtain⟨x0,x1,_,_,_,_,r⟩:=f.cells;by_cases h0:d.I k=0
     focus
      rw[h0,show B1 E 0=none from Cs (by decide)]at rk;have A:Hid (DG wr (w.heap.size+2) (.slice (some (G g1 0)) d.m d.m) d.m (Jo d.I (k+1))/\Ci wr (w.heap.size+2) v0 d.n d.L/\D9 w wr v0 (.slice (some (G g1 0)) d.m d.m) (N9) d):=O ⟨by rw[<-OQ d.I k h0];exact U,V,f⟩;clear U V f c Q R T r h0 b4 b5
     rotate_left
     focus
      obtain⟨q,hq⟩:∃q:Nat,d.I k=(q:Int)+1:=⟨(d.I k-1).toNat,by omega⟩;have aq:q<d.n:=by omega
      rw[hq,show B1 E ((q:Int)+1)=some (G (E q) 0) by unfold B1;rw[C3 (by omega),show((q:Int)+1-1).toNat=q by omega]]at rk;have he:=c.Ca q aq;have a:=he.lt;have bt:=(HM.Ca q aq).lt;have cr:IntKind.i64.wrap ((q:Int)+1)=(q:Int)+1:=by rw[It];omega
      have t:VX (w.heap.size+1) g1 d.m (E q) q wr.drew:=⟨x1,he.pl⟩;have B:VX (w.heap.size+1) g1 d.m (E q) q (wr.setCell (G g1 k) (J ((q:Int)+1))).drew:=⟨(AX (by omega)).trans x1,(AX (by omega)).trans he.pl⟩;have A:Hid (DG (wr.setCell (G g1 k) (J ((q:Int)+1))).drew (w.heap.size+2) (.slice (some (G g1 0)) d.m d.m) d.m (Jo d.I (k+1))/\Ci (wr.setCell (G g1 k) (J ((q:Int)+1))).drew (w.heap.size+2) v0 d.n d.L/\D9 w (wr.setCell (G g1 k) (J ((q:Int)+1))).drew v0 (.slice (some (G g1 0)) d.m d.m) (N9) d):=O (by
       refine⟨?_,Ck V (fun b e=>At _ _ _ _ (by have:=z ah b e;show b≠g1;omega)),f.keep (At _ _ _ _ (by show w.heap.size≠g1;omega)) (At _ _ _ _ (by show w.heap.size+1≠g1;omega)) (f.CH.setCell (by show w.heap.size<=g1;omega) _).drew⟩;have h1:=(U.set l ((q:Int)+1)).drew;rw[<-hq,KC]at h1;rw[<-hq];exact h1)
      clear U V f c Q R T r h0 b4 b5 he hq;go_wp2_with fail
      refine H9 (VX (w.heap.size+1) g1 d.m (E q) q) ?_;refine tz 0 (h:=tz 1 (h:=tz 2 (h:=tz 3 (h:=tz 4 (h:=tz 5 (h:=tz 6 (h:=tz 7 (h:=tz 8 (h:=?_)))))))));refine ry 9 (fun K hK=>?_);go_simp;refine hK.out _ _ B (fun _=>?_);clear hK K t B;refine FM ?_
     rotate_left;all_goals
      go_wp2;go_roundw
      case rel=>exact⟨k+1,by omega,by go_num,A.1,A.2.1,A.2.2⟩
      case measure=>simp[intOf];omega
    ·have ak:k=d.m:=by omega
     subst ak;have bf:DG wr (w.heap.size+2) (.slice (some (G g1 0)) d.m d.m) d.m d.I:=U.congr (fun i hi=>(C3 hi).symm);have c3:=c.c3;have lb:=c.lt;obtain⟨x0,x1,x2,x3,x4,x5,r⟩:=f.cells;have ct:=r 2;have bm:=(bf.lt g1 rfl).2;have HP:=O bf;have HO:=O V;have HW:=O f;clear c U bf V f r;go_wp2_with fail
     obtain⟨g2,a8⟩:∃g2,g2=wr.heap.size:=⟨_,rfl⟩;obtain⟨W3,P⟩:∃W3,W3=(wr.setCell (Y9 w 2) (.slice (some (G wr.heap.size 0)) d.x d.x)).alloc (.cells (madeCells #[Value.int .i64 0] d.x) 3):=⟨_,rfl⟩;rw[<-P];have b6:DG W3 (w.heap.size+2) (.slice (some (G g2 0)) d.x d.x) d.x (Jo d.X 0):=by
      have h1:=DG.made (wr.setCell (Y9 w 2) (.slice (some (G wr.heap.size 0)) d.x d.x)) (w.heap.size+2) d.x (by simp;omega) hx;rw[show(wr.setCell (Y9 w 2) (.slice (some (G wr.heap.size 0)) d.x d.x)).heap.size=g2 by rw[a8];simp]at h1;rw[P];exact h1.congr (fun i _=>Cs (by omega))
     have ag:∀b,b<g2->b≠w.heap.size+1->W3.heap[b]?=wr.heap[b]?:=fun b hb Cy=>by
      rw[P];exact(Fs _ _ _ (by simp;omega)).trans (At _ _ _ _ (by exact Cy))
     have b7:Ci W3 (w.heap.size+2) v0 d.n d.L:=Ck HO (fun q e=>ag q (by have:=z ah q e;omega) (by have:=z ah q e;omega));have b8:DG W3 (w.heap.size+2) (.slice (some (G g1 0)) d.m d.m) d.m d.I:=Ck HP (fun q e=>by
      have e':g1=q:=by simpa[Value.ownBlock]using e
      exact ag q (by omega) (by omega))
     have b9:D9 w W3 v0 (.slice (some (G g1 0)) d.m d.m) (.slice (some (G g2 0)) d.x d.x) d:=by
      have h1:=HW.dF (u:=.slice (some (G g2 0)) d.x d.x);rw[a8]at h1 ⊢;rw[P];exact h1.keep (Fs _ _ _ (by simp;omega)) (Fs _ _ _ (by simp;omega)) (h1.CH.alloc (by simp;omega) _)
     have c7:g1<g2:=by omega
     have ar:=O (show DG W3 (w.heap.size+2) (.slice (some (G g2 0)) d.x d.x) d.x (Jo d.X 0)/\DG W3 (w.heap.size+2) (.slice (some (G g1 0)) d.m d.m) d.m d.I/\Ci W3 (w.heap.size+2) v0 d.n d.L/\D9 w W3 v0 (.slice (some (G g1 0)) d.m d.m) (.slice (some (G g2 0)) d.x d.x) d from⟨b6,b8,b7,b9⟩);rw[<-a8];clear HP HO HW b6 b8 b7 b9 ag P a8 x0 x1 x2 x3 x4 x5 ct c3 lb az l hk bm;go_loopw [86] (fun i wr=>∃k:Nat,k<=d.x/\i=J (k:Int)/\DG wr (w.heap.size+2) (.slice (some (G g2 0)) d.x d.x) d.x (Jo d.X k)/\DG wr (w.heap.size+2) (.slice (some (G g1 0)) d.m d.m) d.m d.I/\Ci wr (w.heap.size+2) v0 d.n d.L/\D9 w wr v0 (.slice (some (G g1 0)) d.m d.m) (.slice (some (G g2 0)) d.x d.x) d) (fun i _=>d.x-(intOf i).toNat)
     case atStart=>exact⟨0,by omega,rfl,ar.1,ar.2.1,ar.2.2.1,ar.2.2.2⟩
     case round=>
      clear ar;obtain⟨k,hk,rfl,M,U,V,f⟩:=hrel;have c:=HM.below f.CH;have az:=f.size;obtain⟨x0,x1,x2,x3,x4,x5,r⟩:=f.cells;by_cases l:k<d.x
      ·obtain⟨_,_,e1,_,_,_,Q,_⟩:=c.slots.form (by omega);cases e1;have rk:wr.cell? (G R2 k)=some (.pointer (Dd S k (d.X k))):=Q k l;obtain⟨_,_,e2,cp,cq,_,R,T⟩:=M.form (by omega);cases e2;have gk:=R k l;have gf:=T k;have bd:=Hi _ _ rk;dsimp only at bd;have au:=c.sl k l;have D:∀x:Int,d.X k=x->DG (wr.setCell (G g2 k) (J x)) (w.heap.size+2) (.slice (some (G g2 0)) d.x d.x) d.x (Jo d.X (k+1))/\DG (wr.setCell (G g2 k) (J x)) (w.heap.size+2) (.slice (some (G g1 0)) d.m d.m) d.m d.I/\Ci (wr.setCell (G g2 k) (J x)) (w.heap.size+2) v0 d.n d.L/\D9 w (wr.setCell (G g2 k) (J x)) v0 (.slice (some (G g1 0)) d.m d.m) (.slice (some (G g2 0)) d.x d.x) d:=fun x ca=>by
        refine⟨?_,Ck U (fun b e=>At _ _ _ _ (by
         have e':g1=b:=by simpa[Value.ownBlock]using e
         show b≠g2;omega)),Ck V (fun b e=>At _ _ _ _ (by have:=z ah b e;show b≠g2;omega)),f.keep (At _ _ _ _ (by show w.heap.size≠g2;omega)) (At _ _ _ _ (by show w.heap.size+1≠g2;omega)) (f.CH.setCell (by show w.heap.size<=g2;omega) _)⟩
        have h1:=M.set l x;rw[<-ca,KC]at h1;rw[<-ca];exact h1
       have W:=O D;rcases z HX k l with h0|h0|⟨h0,cu⟩
       ·rw[h0,show Dd S k 0=none from C3 rfl]at rk;have A:Hid (DG wr (w.heap.size+2) (.slice (some (G g2 0)) d.x d.x) d.x (Jo d.X (k+1))/\DG wr (w.heap.size+2) (.slice (some (G g1 0)) d.m d.m) d.m d.I/\Ci wr (w.heap.size+2) v0 d.n d.L/\D9 w wr v0 (.slice (some (G g1 0)) d.m d.m) (.slice (some (G g2 0)) d.x d.x) d):=O ⟨by rw[<-OQ d.X k h0];exact M,U,V,f⟩;clear M U V f c Q R T r h0 au D W;go_wp2;go_roundw
        case rel=>exact⟨k+1,by omega,by go_num,A.1,A.2.1,A.2.2.1,A.2.2.2⟩
        case measure=>simp[intOf];omega
       ·rw[h0,show Dd S k (-1)=some (G (S k) 0)from Cs (by decide)]at rk;have ae:=au.2 (by omega);have gg:=ae.gn;have cv:=ae.lt;have A:=O (D (-1) h0);clear M U V f c Q R T r h0 au D W ae;go_wp2;go_roundw
        case rel=>exact⟨k+1,by omega,by go_num,A.1,A.2.1,A.2.2.1,A.2.2.2⟩
        case measure=>simp[intOf];omega
       ·obtain⟨q,hq⟩:∃q:Nat,d.X k=(q:Int)+1:=⟨(d.X k-1).toNat,by omega⟩;have aq:q<d.n:=by omega
        rw[show Dd S k (d.X k)=some (G (S k) 0)from Cs (by omega)]at rk;have ai:Ge wr (S k) (d.at (d.X k)).key (E (d.X k-1).toNat):=au.1 h0;rw[show(d.X k-1).toNat=q by omega]at ai;have gg:=ai.gn;have gp:=ai.pt;have cv:=ai.lt;have he:=c.Ca q aq;have a:=he.lt;have bt:=(HM.Ca q aq).lt;have cw:S k≠g2:=fun e=>by
         obtain⟨cc,cx⟩:∃cc,wr.heap[g2]?=some (.cells cc 3 (0,0)):=by
          obtain⟨_,⟨hv,_⟩|⟨g,cap,cur,hv,_,bn,_⟩⟩:=M
          ·cases hv
          ·cases hv;exact⟨cur,bn⟩
         exact A9 (e▸ai.ob) cx (by decide)
        have cr:IntKind.i64.wrap ((q:Int)+1)=(q:Int)+1:=by rw[It];omega
        have t:V4 (w.heap.size+1) g2 d.x (S k) (E q) q wr.drew:=⟨x2,gp,he.pl⟩;have B:V4 (w.heap.size+1) g2 d.x (S k) (E q) q (wr.setCell (G g2 k) (J ((q:Int)+1))).drew:=⟨(AX (by omega)).trans x2,(AX (fun e=>cw e.symm)).trans gp,(AX (by omega)).trans he.pl⟩;have A:=O (D ((q:Int)+1) hq);clear M U V f c Q R T r h0 cu au D W he ai hq;go_wp2_with fail
        refine H9 (V4 (w.heap.size+1) g2 d.x (S k) (E q) q) ?_;refine tz 0 (h:=tz 1 (h:=tz 2 (h:=tz 3 (h:=tz 4 (h:=tz 5 (h:=tz 6 (h:=tz 7 (h:=tz 8 (h:=tz 9 (h:=tz 10 (h:=tz 11 (h:=?_))))))))))));refine ry 12 (fun K hK=>?_);go_simp;refine hK.out _ _ B (fun _=>?_);clear hK K t B;refine FM ?_;go_wp2;go_roundw
        case rel=>exact⟨k+1,by omega,by go_num,A.1.drew,A.2.1.drew,A.2.2.1.drew,A.2.2.2.keep rfl rfl A.2.2.2.CH.drew⟩
        case measure=>simp[intOf];omega
      ·have ak:k=d.x:=by omega
       subst ak;have y0:wr.cell? (y w 0)=some (N9):=by simp[World.cell?,f.b0]
       have y1:wr.cell? (y w 1)=some (N9):=by simp[World.cell?,f.b0]
       have y2:wr.cell? (y w 2)=some (N9):=by simp[World.cell?,f.b0]
       have y3:wr.cell? (y w 3)=some (J 0):=by simp[World.cell?,f.b0]
       have y4:wr.cell? (y w 4)=some (J 0):=by simp[World.cell?,f.b0]
       have y5:wr.cell? (y w 5)=some (J 0):=by simp[World.cell?,f.b0]
       have yf:∀q,wr.frozen? (y w q)=false:=fun q=>by simp[World.frozen?,f.b0]
       have df:w.heap.size<wr.heap.size:=by omega
       have af:DG wr (w.heap.size+2) (.slice (some (G g2 0)) d.x d.x) d.x d.X:=M.congr (fun i hi=>(C3 hi).symm);obtain⟨va,vc,ev⟩:∃va vc,v0=.slice va d.n vc:=by
        obtain⟨_,⟨hv,h0⟩|⟨g,cap,cur,hv,_⟩⟩:=V
        ·exact⟨none,0,by rw[hv,h0]⟩
        ·exact⟨_,_,hv⟩
       subst ev;have bp:Hid (∀W':World,Below (w.heap.size) w W'->wr.heap.size<=W'.heap.size->(∀b,w.heap.size+2<=b->W'.heap[b]?=wr.heap[b]?)->DV d W' (.slice va d.n vc) (.slice (some (G g1 0)) d.m d.m) (.slice (some (G g2 0)) d.x d.x) w.heap.size W'.heap.size):=O (fun W' hB hz hb=>by
        have o0:Ci W' w.heap.size (.slice va d.n vc) d.n d.L:=DK (Ck V (fun q e=>hb q (V.lt q e).1)) (by omega);have o1:DG W' w.heap.size (.slice (some (G g1 0)) d.m d.m) d.m d.I:=DK (Ck U (fun q e=>hb q (U.lt q e).1)) (by omega);have o2:DG W' w.heap.size (.slice (some (G g2 0)) d.x d.x) d.x d.X:=DK (Ck af (fun q e=>hb q (af.lt q e).1)) (by omega);refine⟨Lj.of o0,I3.of o1,I3.of o2,fun q e e'=>?_,fun q e e'=>?_,fun q e e'=>?_⟩
        ·have:=(ah q e).2;have e2:g1=q:=by simpa[Value.ownBlock]using e'
         omega
        ·have:=(ah q e).2;have e2:g2=q:=by simpa[Value.ownBlock]using e'
         omega
        ·have e1:g1=q:=by simpa[Value.ownBlock]using e
         have e2:g2=q:=by simpa[Value.ownBlock]using e'
         omega)
       have cy:=O f.CH;clear M af U V f c r;go_wp2;refine DO (v:=Z0 (.slice va d.n vc) (.slice (some (G g1 0)) d.m d.m) (.slice (some (G g2 0)) d.x d.x) d) (by simp[results,results262,go_sem,y0,y1,y2,y3,y4,y5]) rfl ?_;have aw:B9 w ((((((wr.setCell (y w 0) (.slice va d.n vc)).setCell (y w 1) (.slice (some (G g1 0)) d.m d.m)).setCell (y w 2) (.slice (some (G g2 0)) d.x d.x)).setCell (y w 3) (J d.used)).setCell (y w 4) (J d.live)).setCell (y w 5) (J d.turns)):=by
        iterate 6 (refine W0 ?_ (by exact A0 _) _)
        exact cy
       refine⟨⟨_,_,_,rfl,bp _ aw (by simp) (fun b hb=>?_)⟩,aw⟩;iterate 6 (refine(At _ _ _ _ (by show b≠w.heap.size;omega)).trans ?_)
       rfl
theorem cO(w:Y):Gy w none none none dP:=⟨.inl rfl,.inl rfl,.inl rfl⟩
section
section
variable {w W W':Y} {la ia xa:Option Addr} {lc ic xc:Nat} {d:Dc} {v:Vl}
end
theorem Lj.wide{f:Nat->Pr}{n:Nat}{w:Y}{v:V9}{lo hi a c:Nat}(h:Lj f n w v lo hi)(h1:a<=lo)(h2:hi<=c):Lj f n w v a c:=by
 rcases h with h|⟨b,d,Z,g,e1,e2,e3,e⟩
 ·exact .inl h
 ·exact .inr ⟨b,d,Z,g,e1,by omega,by omega,e⟩
theorem I3.wide{f:Nat->Int}{n:Nat}{w:Y}{v:V9}{lo hi a c:Nat}(h:I3 f n w v lo hi)(h1:a<=lo)(h2:hi<=c):I3 f n w v a c:=by
 rcases h with h|⟨b,d,Z,g,e1,e2,e3,e⟩
 ·exact .inl h
 ·exact .inr ⟨b,d,Z,g,e1,by omega,by omega,e⟩
theorem DV.wide{d:Dc}{w:Y}{v0 v1 v2:V9}{lo hi a b:Nat}(h:DV d w v0 v1 v2 lo hi)(h1:a<=lo)(h2:hi<=b):DV d w v0 v1 v2 a b:=⟨h.log.wide h1 h2,h.ints.wide h1 h2,h.index.wide h1 h2,h.gW,h.gX,h.a12⟩
end
section
open Classical in
theorem W8(la:T9)(lc:Nat)(ia:T9)(ic:Nat)(xa:T9)(xc:Nat)(d:Dc)(w:Y)(v:A8 w)(hA:Gy w la ia xa d)(r:Small d)(A:Rp d)(hk:CE d (hD d)=0):
  C9 355 #[Dv la lc ia ic xa xc d] w (R9 (J (Fx d)) w):=by
 have P:=r.m;have B:=O hA;have D:=O r;have E:=O A;have F:=O v;have C:Hid (Fx d=(Lp d:Int)):=O (C3 hk);have s:=O hk;clear hA r A v hk;have l:B9 w (w.alloc (.cells #[.slice la d.n lc,.slice ia d.m ic,.slice xa d.x xc,J d.used,J d.live,J d.turns] 92)):=n9;have a:=O l;clear l
 go_enter func355,ntmps355
 go_wp2_with fail
 refine m9 (EP A8 AL la lc ia ic xa xc d (hD d) _ (AL _ _ F a) (B.below a) D (fun q hq hk=>dN hk (E q hq).1) s) fun w1 e=>?_
 obtain⟨o,t⟩:=AJ e;have Q:w1.cell? (y w 1)=some (.slice ia d.m ic):=by rw[o _ _ (by simp)];simp[go_sem]
 have f:=O (a.trans (e.mono a.size));clear e o t;have H:=O (B.below f).ints;go_wp2_with fail
 go_loopw [11] (fun i wr=>∃k:Nat,k<=d.m/\i=J k/\Pm d.I d.m 0 d.m=Pm d.I d.m k (d.m-k)/\wr=w1) (fun i _=>d.m-(intOf i).toNat)
 case atStart=>exact⟨0,by omega,rfl,rfl,rfl⟩
 case round=>
  obtain⟨k,hk,rfl,hz,p⟩:=hrel;rw[p];clear p;have u:=O hz;clear hz;by_cases g:k<d.m
  ·obtain⟨b,off,rfl,K,hcs⟩:=H.resolve_left (by omega);have e0:=hcs k g;clear hcs;by_cases j:d.I k=0
   ·have h:Hid (Fx d=(k:Int)):=O (C.trans (congrArg Int.ofNat (u.trans (WT j g))));rw[j]at e0;clear j;go_wp2;go_ret;exact⟨by rw[z h];rfl,f⟩
   ·have L:Hid (Pm d.I d.m 0 d.m=Pm d.I d.m (k+1) (d.m-(k+1))):=O (u.trans (WS j g));have M:(d.I k==0)=false:=by simp[j]
    clear j;go_wp2;go_roundw
    case rel=>exact⟨k+1,by omega,by go_num,L,trivial⟩
    case measure=>simp[intOf];omega
  ·have c:k=d.m:=by omega
   have h:Hid (Fx d=(d.m:Int)):=O (C.trans (congrArg Int.ofNat (u.trans (by rw[c,Nat.sub_self];rfl))));clear c;go_wp2;go_ret;exact⟨by rw[z h];rfl,f⟩
end
theorem Om(c B i:Nat)(vT vS:V9)(U:Nat->Value)(D:Ds)(k:Vl)(w:Y)(hD:AQ 158 w c B vT vS U D)(hi:i<D.nt)(x:D.Good):
  C9 156 #[Q9 c,J i,V k.kind k.num k.Ae k.str k.ref] w (R9 (V ((D.T i).get k).kind ((D.T i).get k).num ((D.T i).get k).Ae ((D.T i).get k).str ((D.T i).get k).ref) w):=by
 have hn:=(x.t i hi).n;have S:=x.nt;obtain⟨W,f⟩:∃W,W=(w.alloc (.cells #[J k.kind,J k.num,F9 k.Ae,.string k.str,J k.ref] 43)).alloc (.cells #[J 0,J 0,F9 0,E9,J 0] 43):=⟨_,rfl⟩;have l:B9 w W:=by rw[f];exact(n9).alloc (by simp) _
 have hK:YC W w.heap.size k:=⟨by rw[f];simp;omega,by rw[f];simp[go_sem],by rw[f];simp[go_sem],by rw[f];simp[go_sem],by rw[f];simp[go_sem],by rw[f];simp[go_sem]⟩;have F:YC W (w.heap.size+1) nov:=⟨by rw[f];simp,by rw[f];simp[go_sem],by rw[f];simp[go_sem],by rw[f];simp[go_sem],by rw[f];simp[go_sem],by rw[f];simp[go_sem]⟩;have H:∀q,W.frozen? (Y9 w q)=false:=fun q=>by rw[f];simp[go_sem]
 have o:=hD.below l;obtain⟨g,cp,a,ac,rfl,hg,I,g0,g1,L⟩:=o.look hi;obtain⟨c0,_⟩:=o.cells;have hl:=o.lt;have A:=O L;have M:=O l;have m:=O F;have r:=O H;have HM:=O o;have HU:=O I;obtain⟨X,k0,k1,k2,k3,k4⟩:=hK;clear o l F H L I hD x
 go_enter func156,ntmps156
 go_wp2_with fail
 rw[<-f];clear f;refine qr W ?_;refine N (h:=N (h:=N (h:=N (h:=N (h:=N (h:=N (h:=N (h:=?_))))))));refine GS (fun K hK=>?_);go_simp;refine⟨_,fun w' s=>qk s (QF a ac (D.T i) k _ (A.below s rfl) hn),hK _ ?_⟩;clear hK K;refine N (h:=?_);refine GO ?_;intro w1 d;obtain⟨rl,r0,r1,r2,Q,R⟩:=m.below d m.lt;have f0:=(d.frozen (p:=(Y9 w 0)) m.lt).trans (r 0);have f1:=(d.frozen (p:=(Y9 w 1)) m.lt).trans (r 1);have f2:=(d.frozen (p:=(Y9 w 2)) m.lt).trans (r 2);have f3:=(d.frozen (p:=(Y9 w 3)) m.lt).trans (r 3);have f4:=(d.frozen (p:=(Y9 w 4)) m.lt).trans (r 4);have c0:=(d.cell (p:=(G c 0)) hl).trans c0;have g0:=(d.cell (p:=(G g (i*2))) hg).trans g0;have C:=O (A.below d rfl);have Z:c<w1.heap.size:=Be hl d.size;have ad:g<w1.heap.size:=Be hg d.size;have u:=O (M.trans (d.mono M.size));clear d k0 k1 k2 k3 k4 X A;rcases(D.T i).RF k with e|⟨j,e,hj⟩
 ·have E:Hid ((D.T i).get k=nov):=O (by unfold Pl.get;rw[e,C3 (by omega)]);rw[e];go_wp2_with fail
  exact DO (v:=V 0 0 0 ⟨#[]⟩ 0) (by simp[results,results156,go_sem,r0,r1,r2,Q,R]) rfl ⟨by rw[z E],KP u _ (by omega) _ _ _ _ _⟩
 ·have E:Hid ((D.T i).get k=((D.T i).P j).val):=O (by unfold Pl.get;rw[e,Cs (by omega),Lo]);rw[e];obtain⟨b,off,rfl,ae,hcs⟩:=C.resolve_left (by omega);obtain⟨e0,e1,e2,e3,e4,e5,e6,e7,e8,e9,af⟩:=hcs j hj;clear hcs;go_wp2_with fail
  exact DO (v:=V ((D.T i).P j).val.kind ((D.T i).P j).val.num ((D.T i).P j).val.Ae ((D.T i).P j).val.str ((D.T i).P j).val.ref) (by simp[results,results156,go_sem,r0,r1,r2,Q,R]) rfl ⟨by rw[z E],KP u _ (by omega) _ _ _ _ _⟩
def I1(c b kb vb:Nat)(vT:V9)(a:T9)(n ac:Nat)(d:Int)(k v:Vl)(W:Y):Prop:=
 W.cell? (G c 0)=some vT/\W.cell? (G b 0)=some (.slice a n ac)/\W.cell? (G b 1)=some (J d)/\
 W.cell? (G kb 0)=some (J k.kind)/\W.cell? (G kb 1)=some (J k.num)/\W.cell? (G kb 2)=some (F9 k.Ae)/\W.cell? (G kb 3)=some (.string k.str)/\W.cell? (G kb 4)=some (J k.ref)/\
 W.cell? (G vb 0)=some (J v.kind)/\W.cell? (G vb 1)=some (J v.num)/\W.cell? (G vb 2)=some (F9 v.Ae)/\W.cell? (G vb 3)=some (.string v.str)/\W.cell? (G vb 4)=some (J v.ref)
theorem I1.keep{c b kb vb:Nat}{vT:V9}{a:Option Addr}{n ac:Nat}{e:Int}{k v:Vl}{w w':Y}(h:I1 c b kb vb vT a n ac e k v w)(hc:w'.heap[c]?=w.heap[c]?)(f:w'.heap[b]?=w.heap[b]?)(hk:w'.heap[kb]?=w.heap[kb]?)(d:w'.heap[vb]?=w.heap[vb]?):I1 c b kb vb vT a n ac e k v w':=by
 obtain⟨g,h1,h2,k0,k1,k2,k3,k4,v0,v1,v2,v3,v4⟩:=h;exact⟨(As (a:=(G c 0)) hc).trans g,(As (a:=(G b 0)) f).trans h1,(As (a:=(G b 1)) f).trans h2,
  (As (a:=(G kb 0)) hk).trans k0,(As (a:=(G kb 1)) hk).trans k1,(As (a:=(G kb 2)) hk).trans k2,(As (a:=(G kb 3)) hk).trans k3,(As (a:=(G kb 4)) hk).trans k4,
  (As (a:=(G vb 0)) d).trans v0,(As (a:=(G vb 1)) d).trans v1,(As (a:=(G vb 2)) d).trans v2,(As (a:=(G vb 3)) d).trans v3,(As (a:=(G vb 4)) d).trans v4⟩
theorem Oo(c B i:Nat)(vT vS:V9)(U:Nat->Value)(D:Ds)(k v:Vl)(w:Y)(hD:AQ 158 w c B vT vS U D)(hi:i<D.nt)(hG:D.Good):
  C9 155 #[Q9 c,J i,V k.kind k.num k.Ae k.str k.ref,V v.kind v.num v.Ae v.str v.ref] w fun e w'=>e=.returned (J ((D.T i).code k v))/\∃U',AQ 158 w' c B vT vS U' (D.Gt i k v)/\BG (Bs c vT vS U D.nt) w (Bs c vT vS U' D.nt) w':=by
 have hn:=(hG.t i hi).n;have b7:=hG.nt;have b8:=(hG.t i hi).hi;have b9:=(hG.t i hi).lo;obtain⟨g,cp,a,ac,rfl,hg,eU,g0,g1,_⟩:=hD.look hi;obtain⟨c0,_⟩:=hD.cells;have hl:=hD.lt;obtain⟨W,s⟩:∃W,W=((w.alloc (.cells #[J k.kind,J k.num,F9 k.Ae,.string k.str,J k.ref] 43)).alloc (.cells #[J v.kind,J v.num,F9 v.Ae,.string v.str,J v.ref] 43)).alloc (.cells #[.slice a (D.T i).n ac,J (D.T i).turns] 88):=⟨_,rfl⟩;have af:B9 w W:=by rw[s];exact((n9).alloc (by simp) _).alloc (by simp;omega) _
 have hK:YC W w.heap.size k:=⟨by rw[s];simp;omega,by rw[s];simp[go_sem],by rw[s];simp[go_sem],by rw[s];simp[go_sem],by rw[s];simp[go_sem],by rw[s];simp[go_sem]⟩;have hV:YC W (w.heap.size+1) v:=⟨by rw[s];simp,by rw[s];simp[go_sem],by rw[s];simp[go_sem],by rw[s];simp[go_sem],by rw[s];simp[go_sem],by rw[s];simp[go_sem]⟩;have p0:W.cell? (Z9 w 0)=some (.slice a (D.T i).n ac):=by rw[s];simp[go_sem]
 have p1:W.cell? (Z9 w 1)=some (J (D.T i).turns):=by rw[s];simp[go_sem]
 have pl:w.heap.size+1+1<W.heap.size:=by rw[s];simp
 have hM:=hD.below af;obtain⟨_,_,a',aM,ea,_,A,_,_,hP⟩:=hM.look hi;clear ea;rw[eU]at A;cases A;have HB:=O af;have HM:=O hM;have HU:=O eU;have HV:=O hV;have aj:=O hK;have HP:=O hP;have HG:=O hG;have HQ:=O (And.intro p0 p1);have bj:Hid (∀q,Bs c (S9 g D.nt cp) vS U D.nt q->q<w.heap.size):=O (fun q h=>(hD.Lc h).2);have bk:=O (And.intro (hD.tb.lt g rfl).1 (And.intro (Be (hD.tb.lt g rfl).2 af.size) (hD.tb.lt g rfl).2));clear hM af hV hK hP eU hD hG p0 p1
 go_enter func155,ntmps155
 go_wp2_with fail
 rw[<-s];clear s;refine m9 (QF a ac (D.T i) k _ HP hn) fun w1 l=>?_
 have b:=O (HM.below l);have Q:Hid (BG (Bs c (S9 g D.nt cp) vS U D.nt) w (Bs c (S9 g D.nt cp) vS U D.nt) w1):=O ((BG.Ay HB).below l);obtain⟨vl,v0,v1,v2,v3,v4⟩:=HV.below l HV.lt;have p0:=(l.cell (p:=(Z9 w 0)) pl).trans HQ.1;have p1:=(l.cell (p:=(Z9 w 1)) pl).trans HQ.2;have R:=O (aj.below l aj.lt);have S:=O (HV.below l HV.lt);have ca:w.heap.size+1+1<w1.heap.size:=Be pl l.size;clear l HM HP HV aj HQ c0 g0 g1 hl hg;obtain⟨c0,_⟩:=b.cells;have a6:=b.lt;rcases(D.T i).RF k with e|⟨j,e,hj⟩
 ·rw[e];by_cases m:v.kind=0
  ·have F:Hid ((D.T i).code k v=0/\D.Gt i k v=D):=O (by
    unfold Pl.code Ds.Gt Pl.put;rw[e,Cs (by omega),C3 m,Cs (by omega),C3 m,PS];exact⟨rfl,rfl⟩)
   have d0:(v.kind==0)=true:=by simp[m]
   clear m;go_wp2_with fail
   go_ret;exact⟨by rw[(z F).1];rfl,U,by rw[(z F).2];exact b,Q⟩
  ·have d0:(v.kind==0)=false:=by simp[m]
   by_cases hf:(D.T i).full=true
   ·have F:Hid ((D.T i).code k v=5/\D.Gt i k v=D):=O (by
     unfold Pl.code Ds.Gt Pl.put;rw[e,Cs (by omega),Cs m,C3 hf,Cs (by omega),Cs m,C3 hf,PS];exact⟨rfl,rfl⟩)
    clear m;by_cases hm:(D.T i).n=500
    focus
     have d1:(((D.T i).n:Int)==500)=true:=by simp;omega
    rotate_left
    focus
     have d1:(((D.T i).n:Int)==500)=false:=by simp;omega
     have d2:((D.T i).turns==1000000000000)=true:=by simpa[Pl.full,hm]using hf
    rotate_left;all_goals
     clear hm hf;go_wp2_with fail
     go_ret;exact⟨by rw[(z F).1];rfl,U,by rw[(z F).2];exact b,Q⟩
   ·have a7:(D.T i).full=false:=by simpa using hf
    have a8:(D.T i).n≠500/\(D.T i).turns≠1000000000000:=by simpa[Pl.full]using a7
    have F:Hid ((D.T i).code k v=0/\D.Gt i k v={D with T:=AM D.T i ((D.T i).add k v)}):=O (by
     unfold Pl.code Ds.Gt Pl.put;rw[e,Cs (by omega),Cs m,Cs hf,Cs (by omega),Cs m,Cs hf];exact⟨rfl,rfl⟩)
    have d1:(((D.T i).n:Int)==500)=false:=by simp;omega
    have d2:((D.T i).turns==1000000000000)=false:=by simp[a8.2]
    have cb:(D.T i).n<500:=by omega
    have b4:(D.T i).turns<1000000000000:=by omega
    clear m hf a7 a8;obtain⟨g',bm,a',aM,eg,ag,A,g0,g1,_⟩:=b.look hi;cases eg;have bn:=HU.symm.trans A;cases bn;have bb:=W9 b.tb (i*2+1);have cc:IntKind.i64.wrap ((D.T i).turns+1)=(D.T i).turns+1:=by rw[It];omega
    obtain⟨x,H⟩:∃x,x=w1.setCell (G g (i*2+1)) (J ((D.T i).turns+1)):=⟨_,rfl⟩;go_wp2_with fail
    rw[<-H];have I:∀q,q≠g->x.heap[q]?=w1.heap[q]?:=fun q hq=>by rw[H];exact At _ _ _ _ (by exact hq)
    have Z:x.heap.size<=w1.heap.size:=by rw[H];simp
    have bp:w1.heap.size<=x.heap.size:=by rw[H];simp
    have bq:c≠g:=fun e=>b.tc (by rw[e];rfl)
    have cd:B<=g/\g<W.heap.size/\g<w.heap.size:=bk;have bc:I1 c (w.heap.size+1+1) w.heap.size (w.heap.size+1) (S9 g D.nt cp) a (D.T i).n ac (D.T i).turns k v x.drew:=by
     refine I1.keep (w:=w1) ⟨c0,p0,p1,R.c0,R.c1,R.c2,R.c3,R.c4,S.c0,S.c1,S.c2,S.c3,S.c4⟩ (I _ bq) (I _ (by omega)) (I _ (by omega)) (I _ (by omega))
    obtain⟨i0,ak,ao,aq,ar⟩:=Tn Gi;have br:Hid (Ci x B (.slice a (D.T i).n ac) (D.T i).n (D.T i).P):=O (Ai (by have:=b.pr i hi;rw[z HU]at this;exact this) fun q e=>I q (fun e2=>b.tu g i rfl hi (by rw[z HU,<-e2];exact e)));have cg:B<=x.drew.heap.size:=by show B<=x.heap.size;have:=b.base;omega
    have au:=O H;clear H I;refine H9 (I1 c (w.heap.size+1+1) w.heap.size (w.heap.size+1) (S9 g D.nt cp) a (D.T i).n ac (D.T i).turns k v) ?_;clear vl v0 v1 v2 v3 v4 p0 p1 c0 g0 g1 bb d0 d1 d2;refine tz 0 (h:=tz 1 (h:=tz 2 (h:=tz 3 (h:=tz 4 (h:=tz 5 (h:=tz 6 (h:=tz 7 (h:=tz 8 (h:=tz 9 (h:=tz 10 (h:=tz 11 (h:=?_))))))))))));refine tz 12 (h:=?_);refine ry 13 (fun K hK=>?_);go_simp;have L:B9 x ((x.alloc (.cells #[J k.kind,J k.num,F9 k.Ae,.string k.str,J k.ref,J v.kind,J v.num,F9 v.Ae,.string v.str,J v.ref,J ((D.T i).turns+1)] 96)).drew):=(n9).drew;have ax:=bc.keep (L.block c (by omega)) (L.block (w.heap.size+1+1) (by omega)) (L.block w.heap.size (by omega)) (L.block (w.heap.size+1) (by omega));refine hK.out _ _ ax (fun ch=>?_);clear hK K;refine ry 14 (fun K hK=>?_);refine Aap _ rfl (.tmp 92) (.tmp 99) 85 rfl B 96 i0 PZ 11 104 underlying85 ak ao aq ar rfl (by decide) (.slice a (D.T i).n ac) (D.T i).n (pL (D.T i).P (D.T i).n) (by simp[Act.eval]) (World.ownsRow.drew (IH br _)) (y x 0) 1 1 (Eb ⟨k,v,(D.T i).turns+1⟩) (by simp[Act.eval]) rfl (GP (w:=(x.alloc (.cells #[J k.kind,J k.num,F9 k.Ae,.string k.str,J k.ref,J v.kind,J v.num,F9 v.Ae,.string v.str,J v.ref,J ((D.T i).turns+1)] 96)).drew) (BE x _)) (by simp[Eb,Value.oneCell']) (by decide) (by unfold maxLen;omega) (by omega) (by simp;omega) _ rfl ?_;intro g3 bd w3 d f C ay;have ad:World.grownBy ((x.alloc (.cells #[J k.kind,J k.num,F9 k.Ae,.string k.str,J k.ref,J v.kind,J v.num,F9 v.Ae,.string v.str,J v.ref,J ((D.T i).turns+1)] 96)).drew) w3 (U i).ownBlock:=by rw[z HU];exact f
    have bt:∀q,Bs c (S9 g D.nt cp) vS U D.nt q->q<w.heap.size:=fun q h=>bj q h
    have M:∀q,(Value.slice a (D.T i).n ac).ownBlock=some q->q<w.heap.size/\q≠c/\q≠g:=fun q e=>⟨bt q (.inr (.inr (.inr ⟨i,hi,by rw[z HU];exact e⟩))),fun e2=>b.uc i hi (by rw[z HU,<-e2];exact e),fun e2=>b.tu g i rfl hi (by rw[z HU,<-e2];exact e)⟩
    have E:∀q,q<x.heap.size->(∀r,(Value.slice a (D.T i).n ac).ownBlock=some r->q≠r)->w3.heap[q]?=x.heap[q]?:=fun q hq h=>(f.block q (by simp;omega) (fun e=>h q e.symm rfl)).trans (L.block q hq)
    have bf:I1 c (w.heap.size+1+1) w.heap.size (w.heap.size+1) (S9 g D.nt cp) a (D.T i).n ac (D.T i).turns k v w3:=bc.keep (E _ (by omega) (fun r e=>fun e2=>(M r e).2.1 e2.symm)) (E _ (by omega) (fun r e=>by have:=(M r e).1;omega)) (E _ (by omega) (fun r e=>by have:=(M r e).1;omega)) (E _ (by omega) (fun r e=>by have:=(M r e).1;omega));have hN:=b.iR hi (k:=k) (v:=v) (w3:=w3) (X:=(x.alloc (.cells #[J k.kind,J k.num,F9 k.Ae,.string k.str,J k.ref,J v.kind,J v.num,F9 v.Ae,.string v.str,J v.ref,J ((D.T i).turns+1)] 96)).drew) (by rw[<-z au,<-Nat.le_antisymm Z bp];exact L) ad d (fun q e=>by
     rcases C with h|h
     ·left;rw[z HU,h];exact e
     ·right;have:q=g3:=by simpa[Value.ownBlock]using e.symm
      rw[this,h];simp;omega)
    have HN:=O hN;have x3:w3.cell? (G g (i*2))=some (.slice a (D.T i).n ac):=by
     have h1:=As (a:=(G g (i*2))) (E g (by omega) (fun r e e2=>(M r e).2.2 e2.symm));rw[h1,z au];obtain⟨_,_,a2,cj,e1,_,e2,e3,_,_⟩:=b.look hi;cases e1;rw[z HU]at e2;cases e2;rw[Ab (by omega)];exact e3
    have f3:w3.frozen? (G g (i*2))=false:=by
     have h1:=OK (a:=(G g (i*2))) (E g (by omega) (fun r e e2=>(M r e).2.2 e2.symm));rw[h1,z au];simp[go_sem,W9 (z b).tb (i*2)]
    have bg:c<w3.heap.size/\g<w3.heap.size:=by have:=f.size;simp at this;omega
    obtain⟨bg,ck⟩:=bg;clear d f ad C E hN;refine hK.out _ _ bf (fun b5=>?_);clear hK K;refine tz 15 (h:=tz 16 (h:=?_));refine ry 17 (fun K hK=>?_);go_simp;refine hK.out _ _ ?_ (fun _=>?_)
    ·refine bf.keep ?_ ?_ ?_ ?_;all_goals exact At _ _ _ _ (by show _≠g;omega)
    clear hK K;refine FM ?_;go_wp2_with fail
    go_ret;exact⟨by rw[(z F).1];rfl,AM U i (S9 g3 ((D.T i).n+1) bd),by rw[(z F).2];exact HN.1,Q.trans HN.2⟩
 ·rw[e];obtain⟨gb,cq,ah,hB,cl⟩:=(b.pr i hi).form (by omega);have bu:=HU.symm.trans ah;cases bu;have HO:=b.pr i hi;rw[ah]at HO;obtain⟨a2,cm,bw,av⟩:=HO.at;cases bw;obtain⟨b',b6,bx,bz,hcs⟩:=av.resolve_left (by omega);cases bx;by_cases m:v.kind=0
  ·have F:Hid ((D.T i).code k v=0/\D.Gt i k v={D with T:=AM D.T i ((D.T i).del j)}):=O (by
    unfold Pl.code Ds.Gt Pl.put;rw[e,C3 (by omega),C3 (by omega),C3 m,Lo];exact⟨rfl,rfl⟩)
   have d0:(v.kind==0)=true:=by simp[m]
   have cn:(v.kind !=0)=false:=by simp[m]
   clear m;obtain⟨i0,ak,ao,aq,ar⟩:=Tn Gi;have b0:=O hcs;clear hcs av HO;go_wp2_with fail
   go_loopw [11,42] (fun o ix wr=>∃(q:Nat) (u:V9),q<=(D.T i).n/\ix=J q/\u=o/\Ci wr w1.heap.size u (FP j q) ((D.T i).del j).P/\B9 w1 wr) (fun _ ix _=>(D.T i).n-(intOf ix).toNat)
   case atStart=>exact⟨0,_,P9 _,rfl,rfl,ON _ _ _ _,DD _ _⟩
   case round=>
    obtain⟨q,o,hq,rfl,rfl,ho,hb⟩:=hrel;have Z:=hb.size;have cr:=YP j q;have HB:=O hb;have ae:=O ho;by_cases bh:q<(D.T i).n
    ·obtain⟨e0,e1,e2,e3,e4,e5,e6,e7,e8,e9,aw⟩:=(b0 q bh).keep (fun r=>hb.cell (p:=(G gb r)) bz);rw[Aaa]at e0 e1 e2 e3 e4 e5 e6 e7 e8 e9 aw;clear hb ho;by_cases ai:q=j
     ·subst ai;have HN:=O (Ul q);go_wp2_with fail
      go_roundw
      case rel=>exact⟨q+1,_,by omega,by go_num,rfl,by rw[z HN];exact ae.alloc _,HB.alloc Z _⟩
      case measure=>simp[intOf];omega
     ·have HN:=O (Um ai);have HA:=O (bL (D.T i) ai);have dj:((q:Int)==(j:Int))=false:=by simp;omega
      have az:=O ae.lt;clear ai;go_wp2_with (first|(at_builtin;refine Aah _ rfl _ _ 85 rfl w1.heap.size 96 i0 PZ 11 104 underlying85 ak ao aq ar rfl (by decide) o (FP j q) (pL ((D.T i).del j).P (FP j q)) rfl ((ae.alloc _).alloc _) (Y9 wr 0) 1 1 (Eb ((D.T i).P q)) rfl rfl (K7 wr _ (Eb ((D.T i).P q)) _) (Er _) (by decide) (by unfold maxLen;omega) (by omega) (by simp;omega) _ rfl ?_;intro g3 bd w3 d f C ay;have b1:=O (((HB.alloc (by omega) _).alloc (by simp;omega) _).trans (Jw f (fun r e=>(az r e).1) (by simp;omega)));have b2:=O d;clear d f)|go_in)
      go_roundw
      case rel=>
       refine⟨q+1,_,by omega,by go_num,rfl,?_,b1⟩;rw[z HN];show w3.ownsRow w1.heap.size _ 11 _ _ (pL ((D.T i).del j).P (FP j q)++Eb (((D.T i).del j).P (FP j q)));rw[z HA];exact b2
      case measure=>simp[intOf];omega
    ·have b3:q=(D.T i).n:=by omega
     subst b3;obtain⟨oa,oc,eo,_⟩:=ho.at;subst eo;have c0:=(hb.cell (p:=(G c 0)) a6).trans c0;obtain⟨g',bm,a',aM,eg,ag,A,g0,g1,_⟩:=b.look hi;cases eg;rw[ah]at A;cases A;have g0:=(hb.cell (p:=(G g (i*2))) ag).trans g0;have bb:=(hb.frozen (p:=(G g (i*2))) ag).trans (W9 b.tb (i*2));have ct:c<wr.heap.size:=Be a6 Z;have cu:g<wr.heap.size:=Be ag Z;have hN:=b.swap hi (X:=wr) (u':=.slice oa (FP j (D.T i).n) oc) (t':=(D.T i).del j) rfl ⟨hb.os,hb.tape,hb.output,hb.size⟩ (fun r hr _=>hb.block r hr) (by
      have h:=OC ho (FZ b.base (Aar b.lt));have e:FP j (D.T i).n=((D.T i).del j).n:=by unfold FP;rw[Cs (by omega)];rfl
      show World.ownsRow _ _ _ _ _ ((D.T i).del j).n (pL ((D.T i).del j).P ((D.T i).del j).n);rw[<-e];exact h) (fun r e=>.inr (ho.lt r e).1)
     have HN:=O hN;clear hN ho hb bh g1;go_wp2_with fail
     go_ret;exact⟨by rw[(z F).1];rfl,AM U i (.slice oa (FP j (D.T i).n) oc),by rw[(z F).2];exact HN.1,Q.trans HN.2⟩
  ·have F:Hid ((D.T i).code k v=0/\D.Gt i k v={D with T:=AM D.T i ((D.T i).EE j v)}):=O (by
    unfold Pl.code Ds.Gt Pl.put;rw[e,C3 (by omega),C3 (by omega),Cs m,Lo];exact⟨rfl,rfl⟩)
   have d0:(v.kind==0)=false:=by simp[m]
   clear m;obtain⟨e0,e1,e2,e3,e4,e5,e6,e7,e8,e9,aw⟩:=hcs j hj;rw[Aaa]at e0 e1 e2 e3 e4 e5 e6 e7 e8 e9 aw;have f5:=W9 HO (j*11+5);have f6:=W9 HO (j*11+5+1);have f7:=W9 HO (j*11+5+2);have f8:=W9 HO (j*11+5+3);have f9:=W9 HO (j*11+5+4);have hS:=b.EE hi (j:=j) ah hj v;have HS:=O hS;clear hcs av hS HO;go_wp2_with fail
   go_ret;exact⟨by rw[(z F).1];rfl,U,by rw[(z F).2];exact HS.1,Q.trans HS.2⟩
abbrev Ee(c B:Nat)(vT vS:V9)(U:Nat->Value)(D:Ds)(a:Ac)(w:Y):Prop:=
 C9 90 #[Q9 c,IC a] w fun e w'=>e=.returned (DS (D.I6 a))/\∃b d U',AQ 158 w' c B b d U' (D.step a)/\BG (Bs c vT vS U D.nt) w (Bs c b d U' (D.step a).nt) w'
theorem Td{a:Ac}(h:AY a=true):(1<=a.op/\a.op<=9)/\0<=a.t/\a.t<100/\0<=a.site/\a.site<50/\0<=a.n:=by
 unfold AY at h
 revert h
 unfold E8 Av;intro h;by_cases h1:a.op=1<;>by_cases h2:a.op=2<;>by_cases h3:a.op=3<;>by_cases h4:a.op=4<;>by_cases h5:a.op=5<;>by_cases b:a.op=6<;>by_cases c:a.op=7<;>by_cases d:a.op=8<;>by_cases e:a.op=9<;>simp_all<;>omega
theorem eT(c B:Nat)(vT vS:V9)(U:Nat->Value)(D:Ds)(a:Ac)(w:Y)(hD:AQ 158 w c B vT vS U D)(l:D.Good)(b:AY a=false):Ee c B vT vS U D a w:=by
 have f:Hid (D.I6 a=AO 1/\D.step a=D):=O (by simp[Ds.I6,Ds.step,FL,b]);obtain⟨t,tc,rfl⟩:=Ao hD.tb;obtain⟨sa,sc,rfl⟩:=Ao hD.st;have u:=l.nt;have x:=l.ns;obtain⟨W,p,g,hA,q,hz⟩:=boxes w a;have A:Hid (∀k,Bs c (.slice t D.nt tc) (.slice sa D.ns sc) U D.nt k->k<w.heap.size):=O (fun k h=>(hD.Lc h).2);have C:=hD.lt;have r:=O (hD.below g);have E:=O g;have F:=O hA;have s:=O q;have X:=O l;clear hD g hA q l
 go_enter func90,ntmps90
 go_wp2_with fail
 rw[<-p];clear p;refine(Ch a _).mono ?_;rw[b];rintro e w1 ⟨rfl,j⟩;have i:=O j;clear j;have Z:=i.size;have za:w.heap.size<w1.heap.size:=by omega
 have H:w.heap.size+1<w1.heap.size:=by omega
 have zc:c<w1.heap.size:=by omega
 obtain⟨a0,a1,a2,a3,a4,a5,a6,a7,a8,a9,I,K,a12,L⟩:=(F.below i (by omega)).all;obtain⟨c0,c1⟩:=(r.below i).cells;obtain⟨r0,r1,r2,M,P,Q,R,S,T,V,n,o⟩:=(s.below i (by omega)).all;have fr:=(s.below i (by omega)).frozen;go_wp2_with fail
 refine DO (v:=DS (AO 1)) (by simp[results,results90,go_sem,H,r0,r1,r2,M,P,Q,R,S,T,V,n,o,AO,B5,CL]) rfl ?_;rw[(z f).1,(z f).2];obtain⟨m,d⟩:=Gf rfl (AO 1) E A (by omega) hz (r.below i) (BG.Ay i);exact⟨rfl,_,_,_,m,d⟩
theorem eV(c B:Nat)(vT vS:V9)(U:Nat->Value)(D:Ds)(a:Ac)(w:Y)(hD:AQ 158 w c B vT vS U D)(n:D.Good)(f:AY a=true)(x:B7 a.op=true)(h2:(D.nt:Int)<=a.t):Ee c B vT vS U D a w:=by
 have g:Hid (D.I6 a=AO 2/\D.step a=D):=O (by simp[Ds.I6,Ds.step,FL,f,x,h2]);have e2:decide ((D.nt:Int)<=a.t)=true:=by simpa using h2
 clear h2;generalize M:Cp a.op=sB;obtain⟨P,tc,rfl⟩:=Ao hD.tb;obtain⟨sa,sc,rfl⟩:=Ao hD.st;have Q:=n.nt;have R:=n.ns;obtain⟨W,A,i,hA,C,hz⟩:=boxes w a;have S:Hid (∀k,Bs c (.slice P D.nt tc) (.slice sa D.ns sc) U D.nt k->k<w.heap.size):=O (fun k h=>(hD.Lc h).2);have T:=hD.lt;have E:=O (hD.below i);have V:=O i;have X:=O hA;have F:=O C;have HG:=O n;clear hD i hA C n
 go_enter func90,ntmps90
 go_wp2_with fail
 rw[<-A];clear A;refine(Ch a _).mono ?_;rw[f];rintro e w1 ⟨rfl,j⟩;have b:=O j;clear j;have H:=b.size;have I:w.heap.size<w1.heap.size:=by omega
 have o:w.heap.size+1<w1.heap.size:=by omega
 have K:c<w1.heap.size:=by omega
 obtain⟨a0,a1,a2,a3,a4,a5,Z,a7,a8,a9,p,q,a12,r⟩:=(X.below b (by omega)).all;obtain⟨c0,c1⟩:=(E.below b).cells;go_wp2_with fail
 refine(BL a.op _).mono ?_;rw[x,M];rintro e w2 ⟨rfl,L⟩;rw[L];clear L w2;go_wp2_with fail
 refine qr w1 ?_;refine N (h:=N (h:=N (h:=N (h:=N (h:=N (h:=N (h:=N (h:=N (h:=N (h:=N (h:=?_)))))))))));refine GO ?_;intro w2 l;clear H I o K a0 a1 a2 a3 a4 a5 Z a7 a8 a9 p q a12 r c0 c1;have b:=O (b.trans (l.mono b.size));clear l;have H:=b.size;have I:w.heap.size<w2.heap.size:=by omega
 have o:w.heap.size+1<w2.heap.size:=by omega
 have K:c<w2.heap.size:=by omega
 obtain⟨r0,r1,r2,r3,r4,r5,r6,r7,r8,r9,s,u⟩:=(F.below b (by omega)).all;have fr:=(F.below b (by omega)).frozen;go_wp2_with fail
 refine DO (v:=DS (AO 2)) (by simp[results,results90,go_sem,o,r0,r1,r2,r3,r4,r5,r6,r7,r8,r9,s,u,AO,B5,CL]) rfl ?_;rw[(z g).1,(z g).2];obtain⟨m,d⟩:=Gf rfl (AO 2) V S (by omega) hz (E.below b) (BG.Ay b);exact⟨rfl,_,_,_,m,d⟩
theorem eW(c B:Nat)(vT vS:V9)(U:Nat->Value)(D:Ds)(a:Ac)(w:Y)(hD:AQ 158 w c B vT vS U D)(r:D.Good)(g:AY a=true)(K:B7 a.op=true)(L:Cp a.op=true)(h2:a.t<(D.nt:Int))(h3:(D.ns:Int)<=a.site):Ee c B vT vS U D a w:=by
 have i:Hid (D.I6 a=AO 3/\D.step a=D):=O (by simp[Ds.I6,Ds.step,FL,g,K,L,h3,show¬(D.nt:Int)<=a.t by omega]);have e2:decide ((D.nt:Int)<=a.t)=false:=by simpa using h2
 have e3:decide ((D.ns:Int)<=a.site)=true:=by simpa using h3
 clear h2 h3;obtain⟨T,tc,rfl⟩:=Ao hD.tb;obtain⟨sa,sc,rfl⟩:=Ao hD.st;have V:=r.nt;have X:=r.ns;obtain⟨W,M,j,hA,P,hz⟩:=boxes w a;have Z:Hid (∀k,Bs c (.slice T D.nt tc) (.slice sa D.ns sc) U D.nt k->k<w.heap.size):=O (fun k h=>(hD.Lc h).2);have ad:=hD.lt;have A:=O (hD.below j);have HB:=O j;have Q:=O hA;have R:=O P;have HG:=O r;clear hD j hA P r
 go_enter func90,ntmps90
 go_wp2_with fail
 rw[<-M];clear M;refine(Ch a _).mono ?_;rw[g];rintro e w1 ⟨rfl,p⟩;have b:=O p;clear p;have s:=b.size;have u:w.heap.size<w1.heap.size:=by omega
 have q:w.heap.size+1<w1.heap.size:=by omega
 have x:c<w1.heap.size:=by omega
 obtain⟨a0,a1,a2,a3,a4,a5,C,E,F,a9,l,n,a12,o⟩:=(Q.below b (by omega)).all;obtain⟨c0,c1⟩:=(A.below b).cells;go_wp2_with fail
 refine(BL a.op _).mono ?_;rw[K,L];rintro e w2 ⟨rfl,S⟩;rw[S];clear S w2;go_wp2_with fail
 refine qr w1 ?_;refine N (h:=N (h:=N (h:=N (h:=N (h:=N (h:=N (h:=N (h:=N (h:=N (h:=N (h:=?_)))))))))));refine GO ?_;intro w2 f;clear s u q x a0 a1 a2 a3 a4 a5 C E F a9 l n a12 o c0 c1;have b:=O (b.trans (f.mono b.size));clear f;have s:=b.size;have u:w.heap.size<w2.heap.size:=by omega
 have q:w.heap.size+1<w2.heap.size:=by omega
 have x:c<w2.heap.size:=by omega
 obtain⟨a0,a1,a2,a3,a4,a5,C,E,F,a9,l,n,a12,o⟩:=(Q.below b (by omega)).all;obtain⟨c0,c1⟩:=(A.below b).cells;go_wp2_with fail
 refine qr w2 ?_;refine N (h:=N (h:=N (h:=N (h:=N (h:=N (h:=N (h:=N (h:=N (h:=N (h:=N (h:=?_)))))))))));refine GO ?_;intro w3 f;clear s u q x a0 a1 a2 a3 a4 a5 C E F a9 l n a12 o c0 c1;have b:=O (b.trans (f.mono b.size));clear f;have s:=b.size;have u:w.heap.size<w3.heap.size:=by omega
 have q:w.heap.size+1<w3.heap.size:=by omega
 have x:c<w3.heap.size:=by omega
 obtain⟨r0,r1,r2,r3,r4,r5,r6,r7,r8,r9,H,I⟩:=(R.below b (by omega)).all;have fr:=(R.below b (by omega)).frozen;go_wp2_with fail
 refine DO (v:=DS (AO 3)) (by simp[results,results90,go_sem,q,r0,r1,r2,r3,r4,r5,r6,r7,r8,r9,H,I,AO,B5,CL]) rfl ?_;rw[(z i).1,(z i).2];obtain⟨m,d⟩:=Gf rfl (AO 3) HB Z (by omega) hz (A.below b) (BG.Ay b);exact⟨rfl,_,_,_,m,d⟩
def bQ:Ds:=⟨0,fun _=>default,0,fun _=>⟨#[]⟩⟩
theorem Ww:bQ.Good:=⟨by decide,by decide,fun i h=>absurd h (NO _),fun i h=>absurd h (NO _)⟩
def FR(f:Nat->Ac):Nat->Ds
 |0=>bQ
 |k+1=>(FR f k).step (f k)
def FN(f:Nat->Ac)(i:Nat):An:=(FR f i).I6 (f i)
theorem Ju(f:Nat->Ac):∀k,(FR f k).Good
 |0=>Ww
 |k+1=>(Ju f k).step (f k)
def Mf(g:Nat->An):Nat->List Value
 |0=>[]
 |k+1=>Mf g k++EX (g k)
theorem I5(g:Nat->An)(n:Nat):(Mf g n).length=n*12:=by
 induction n with
 |zero=>rfl
 |succ n ih=>simp[Mf,ih,EX];omega
theorem YJ{g:Nat->An}{n i j:Nat}(hi:i<n)(hj:j<12):(Mf g n)[i*12+j]?=(EX (g i))[j]?:=by
 induction n with
 |zero=>omega
 |succ n ih=>
  show(Mf g n++EX (g n))[i*12+j]?=_;by_cases h:i<n
  ·rw[PC (by rw[I5];omega),ih h]
  ·have:i=n:=by omega
   subst this;rw[TO (by rw[I5];omega),I5,show i*12+j-i*12=j by omega]
def Ud(w:Y)(v:V9)(n:Nat)(f:Nat->Ac):Prop:=
 ∃b a,v=S9 b n a/\b<w.heap.size/\∀i,i<n->∀j u,(Bn (f i)).toList[j]?=some u->w.cell? (G b (i*14+j))=some u
theorem Ud.below{w w':Y}{v:V9}{n:Nat}{f:Nat->Ac}(h:Ud w v n f)(hb:B9 w w'):Ud w' v n f:=by
 obtain⟨b,a,c,hl,hc⟩:=h;exact⟨b,a,c,Be hl hb.size,fun i hi j u hu=>(hb.cell (p:=(G b (i*14+j))) hl).trans (hc i hi j u hu)⟩
abbrev IZ(w:Y)(B:Nat)(v:V9)(n:Nat)(g:Nat->An):Prop:=w.ownsRow B 45 12 v n (Mf g n)
abbrev gP(ok:Bool)(va vT:V9):Value:=.agg #[.bool ok,va,vT]
def eE(x:An):Value:=DS x
theorem dH(w:Y):(sizeOf 45).run prog w=.ok 12 w:=by kernel_rfl
theorem Pc(x:An):∀u∈EX x,u.oneCell'=true:=by
 intro u h;simp only[EX,Aau,Aaq,or_false]at h;rcases h with rfl|rfl|rfl|rfl|rfl|rfl|rfl|rfl|rfl|rfl|rfl|rfl<;>rfl
theorem X8(w:Y)(x:An):(Instr.storeAt 45 (Q9 w.heap.size) (eE x)).run prog (w.alloc (.cells Ns 45))=.ok () (w.alloc (.cells (EX x).toArray 45)):=by
 have h:=Dm (P:=prog) w 45 (EX x) [] Ns.toList rfl (Pc x);have hs:=dH;unfold Instr.storeAt storeVar;simp only[So,UP]at h;have hc:(eE x).cells.toList=EX x:=rfl;have hn:(eE x).cells.size=12:=rfl;simp only[AaA];have a:∀w',(Instr.sureAddr (Q9 w.heap.size)).run prog w'=.ok (y w 0) w':=fun w'=>by simp[go_sem]
 simp[a,hs,hc,hn];exact h
theorem Ui{w:Y}{b:Nat}{x:An}(h:w.heap[b]?=some (.cells (EX x).toArray 45 (0,0))):∀j u,(EX x)[j]?=some u->w.cell? (G b j)=some u:=fun j u hu=>by
 rw[NB w b j _ _ _ h];simpa using hu
theorem eR{ty:TypeId}{w:Y}{c B:Nat}(hb:B<=c)(h:w.heap[c]?=some (.cells #[N9,N9] ty (0,0))):AQ ty w c B (N9) (N9) (fun _=>N9) bQ:=
 ⟨hb,h,ON _ _ _ _,fun i hi=>absurd hi (NO _),ON _ _ _ _,by simp[Value.ownBlock],by simp[Value.ownBlock],fun i hi=>absurd hi (NO _),by simp[Value.ownBlock],by simp[Value.ownBlock],by simp[Value.ownBlock],fun g i j hi=>absurd hi (NO _)⟩
def Uc(f:Nat->Vl)(j:Nat):Value:=((OS (f (j/5)))[j%5]?).getD undef
def TZ(f:Nat->Si)(j:Nat):Value:=((M8 (f (j/5)))[j%5]?).getD undef
theorem Yo(f:Nat->Vl)(k i:Nat)(hi:i<5):Uc f (k*5+i)=((OS (f k))[i]?).getD undef:=by
 unfold Uc;rw[show(k*5+i)/5=k by omega,show(k*5+i)%5=i by omega]
theorem XU(f:Nat->Si)(k i:Nat)(hi:i<5):TZ f (k*5+i)=((M8 (f k))[i]?).getD undef:=by
 unfold TZ;rw[show(k*5+i)/5=k by omega,show(k*5+i)%5=i by omega]
theorem dL{w:Y}{b Z n:Nat}{t:TypeId}{g:Nat->Value}{f:Nat->Vl}(h:w.rowIs b t Z g)(hN:n*5<=Z)(hg:∀j,j<n*5->g j=Uc f j){i:Nat}(hi:i<n):IK w b (i*5) (f i):=by
 have e:∀j,j<5->w.cell? (G b (i*5+j))=some (((OS (f i))[j]?).getD undef):=fun j hj=>by
  rw[h.cell (i:=i*5+j) (by omega),hg _ (by omega),Yo f i j hj]
 exact⟨e 0 (by omega),e 1 (by omega),e 2 (by omega),e 3 (by omega),e 4 (by omega)⟩
theorem dD{w:Y}{b Z n:Nat}{t:TypeId}{g:Nat->Value}{f:Nat->Si}(h:w.rowIs b t Z g)(hN:n*5<=Z)(hg:∀j,j<n*5->g j=TZ f j){i:Nat}(hi:i<n):eB w b (i*5) (f i):=by
 have e:∀j,j<5->w.cell? (G b (i*5+j))=some (((M8 (f i))[j]?).getD undef):=fun j hj=>by
  rw[h.cell (i:=i*5+j) (by omega),hg _ (by omega),XU f i j hj]
 exact⟨e 0 (by omega),e 1 (by omega),e 2 (by omega),e 3 (by omega),e 4 (by omega)⟩
def O5(f:Nat->Vl)(n:Nat)(w:Y)(v:V9)(lo hi:Nat):Prop:=
 (n=0/\v=N9)\/∃b a Z g,v=S9 b n a/\lo<=b/\b<hi/\w.rowIs b 43 Z g/\n*5<=Z/\∀j,j<n*5->g j=Uc f j
theorem O5.keep{f:Nat->Vl}{n:Nat}{w w':Y}{v:V9}{lo hi:Nat}(h:O5 f n w v lo hi)(hk:∀b,v.ownBlock=some b->w'.heap[b]?=w.heap[b]?):O5 f n w' v lo hi:=by
 rcases h with h|⟨b,a,Z,g,rfl,h2,h3,h4,h5,c⟩
 ·exact .inl h
 ·exact .inr ⟨b,a,Z,g,rfl,h2,h3,Re h4 (hk b rfl),h5,c⟩
theorem O5.at{f:Nat->Vl}{n:Nat}{w:Y}{v:V9}{lo hi:Nat}(h:O5 f n w v lo hi):∃a c,v=.slice a n c/\Hg w a n f:=by
 rcases h with⟨d,rfl⟩|⟨b,c,Z,g,h1,h2,h3,h4,h5,e⟩
 ·subst d;exact⟨_,_,rfl,.inl rfl⟩
 ·exact⟨_,_,h1,.inr ⟨b,0,rfl,We h4,fun i hi=>by rw[Aaa];exact dL h4 h5 e hi⟩⟩
theorem Lj.JB{f:Nat->Pr}{n:Nat}{w w':Y}{v:V9}{lo hi:Nat}(h:Lj f n w v lo hi)(hk:∀b,v.ownBlock=some b->w'.heap[b]?=w.heap[b]?):Lj f n w' v lo hi:=by
 rcases h with h|⟨b,a,Z,g,rfl,h2,h3,h4,h5,c⟩
 ·exact .inl h
 ·exact .inr ⟨b,a,Z,g,rfl,h2,h3,Re h4 (hk b rfl),h5,c⟩
theorem I3.JB{f:Nat->Int}{n:Nat}{w w':Y}{v:V9}{lo hi:Nat}(h:I3 f n w v lo hi)(hk:∀b,v.ownBlock=some b->w'.heap[b]?=w.heap[b]?):I3 f n w' v lo hi:=by
 rcases h with h|⟨b,a,Z,g,rfl,h2,h3,h4,h5,c⟩
 ·exact .inl h
 ·exact .inr ⟨b,a,Z,g,rfl,h2,h3,Re h4 (hk b rfl),h5,c⟩
theorem I3.Te{f:Nat->Int}{n:Nat}{w:Y}{v:V9}{lo hi:Nat}(h:I3 f n w v lo hi):∃a c,v=.slice a n c/\V5 w a n f:=by
 rcases h with⟨d,rfl⟩|⟨b,c,Z,g,h1,h2,h3,h4,h5,e⟩
 ·subst d;exact⟨_,_,rfl,.inl rfl⟩
 ·exact⟨_,_,h1,.inr ⟨b,0,rfl,We h4,fun i hi=>by rw[Aaa,h4.cell (by omega),e i hi]⟩⟩
structure Hs where
 v:Value
 l:Value
 i:Value
 x:Value
def Hs.own(h:Hs)(q:Nat):Prop:=h.v.ownBlock=some q\/h.l.ownBlock=some q\/h.i.ownBlock=some q\/h.x.ownBlock=some q
structure YG (lo hi:Nat) (w:Y) (b o:Nat) (h:Hs) (t:Tb):Prop where
 c0:w.cell? (G b o)=some (J t.shape)
 c1:w.cell? (G b (o+1))=some h.v
 c2:w.cell? (G b (o+2))=some h.l
 c3:w.cell? (G b (o+3))=some h.i
 c4:w.cell? (G b (o+4))=some h.x
 c5:w.cell? (G b (o+5))=some (J t.d.used)
 c6:w.cell? (G b (o+6))=some (J t.d.live)
 c7:w.cell? (G b (o+7))=some (J t.d.turns)
 v:O5 t.V t.nv w h.v lo hi
 l:Lj t.d.L t.d.n w h.l lo hi
 i:I3 t.d.I t.d.m w h.i lo hi
 x:I3 t.d.X t.d.x w h.x lo hi
theorem YG.keep{lo hi:Nat}{w w':Y}{b o:Nat}{h:Hs}{t:Tb}(H:YG lo hi w b o h t)(hk:∀q,h.own q->w'.heap[q]?=w.heap[q]?)(hc:∀j,j<8->w'.cell? (G b (o+j))=w.cell? (G b (o+j))):YG lo hi w' b o h t:=
 ⟨(hc 0 (by omega)).trans H.c0,(hc 1 (by omega)).trans H.c1,(hc 2 (by omega)).trans H.c2,(hc 3 (by omega)).trans H.c3,(hc 4 (by omega)).trans H.c4,(hc 5 (by omega)).trans H.c5,(hc 6 (by omega)).trans H.c6,(hc 7 (by omega)).trans H.c7,
  H.v.keep (fun q e=>hk q (.inl e)),H.l.JB (fun q e=>hk q (.inr (.inl e))),H.i.JB (fun q e=>hk q (.inr (.inr (.inl e)))),H.x.JB (fun q e=>hk q (.inr (.inr (.inr e))))⟩
theorem YG.lt{lo hi:Nat}{w:Y}{b o:Nat}{h:Hs}{t:Tb}(H:YG lo hi w b o h t){q:Nat}(hq:h.own q):q<w.heap.size/\lo<=q/\q<hi:=by
 rcases hq with e|e|e|e
 ·rcases H.v with⟨_,h1⟩|⟨b,a,Z,g,h1,h2,h3,h4,h5,c⟩
  ·rw[h1]at e;cases e
  ·rw[h1]at e;cases e;exact⟨We h4,h2,h3⟩
 ·rcases H.l with⟨_,h1⟩|⟨b,a,Z,g,h1,h2,h3,h4,h5,c⟩
  ·rw[h1]at e;cases e
  ·rw[h1]at e;cases e;exact⟨We h4,h2,h3⟩
 ·rcases H.i with⟨_,h1⟩|⟨b,a,Z,g,h1,h2,h3,h4,h5,c⟩
  ·rw[h1]at e;cases e
  ·rw[h1]at e;cases e;exact⟨We h4,h2,h3⟩
 ·rcases H.x with⟨_,h1⟩|⟨b,a,Z,g,h1,h2,h3,h4,h5,c⟩
  ·rw[h1]at e;cases e
  ·rw[h1]at e;cases e;exact⟨We h4,h2,h3⟩
theorem YG.at{lo hi:Nat}{w:Y}{b o:Nat}{h:Hs}{t:Tb}(H:YG lo hi w b o h t):Wd w b o t:=by
 obtain⟨va,vc,e0,r0⟩:=H.v.at;obtain⟨la,lc,e1,r1⟩:=H.l.at;obtain⟨ia,ic,e2,r2⟩:=H.i.Te;obtain⟨xa,xc,e3,a⟩:=H.x.Te;exact⟨va,vc,la,lc,ia,ic,xa,xc,⟨H.c0,H.c1.trans (by rw[e0]),H.c2.trans (by rw[e1]),H.c3.trans (by rw[e2]),H.c4.trans (by rw[e3]),H.c5,H.c6,H.c7⟩,r0,⟨r1,r2,a⟩⟩
structure dT (b n:Nat) (H:Nat->Hs):Prop where
 nb:∀i,i<n->¬(H i).own b
 ij:∀i j q,i<n->j<n->(H i).own q->(H j).own q->i=j
 vl:∀i q,i<n->(H i).v.ownBlock=some q->(H i).l.ownBlock≠some q
 vi:∀i q,i<n->(H i).v.ownBlock=some q->(H i).i.ownBlock≠some q
 vx:∀i q,i<n->(H i).v.ownBlock=some q->(H i).x.ownBlock≠some q
 li:∀i q,i<n->(H i).l.ownBlock=some q->(H i).i.ownBlock≠some q
 lx:∀i q,i<n->(H i).l.ownBlock=some q->(H i).x.ownBlock≠some q
 ix:∀i q,i<n->(H i).i.ownBlock=some q->(H i).x.ownBlock≠some q
def Wa(f:Nat->Si)(n:Nat)(w:Y)(v:V9)(lo hi:Nat):Prop:=
 (n=0/\v=N9)\/∃b a Z g,v=S9 b n a/\lo<=b/\b<hi/\w.rowIs b 103 Z g/\n*5<=Z/\∀j,j<n*5->g j=TZ f j
theorem Wa.keep{f:Nat->Si}{n:Nat}{w w':Y}{v:V9}{lo hi:Nat}(h:Wa f n w v lo hi)(hk:∀b,v.ownBlock=some b->w'.heap[b]?=w.heap[b]?):Wa f n w' v lo hi:=by
 rcases h with h|⟨b,a,Z,g,rfl,h2,h3,h4,h5,c⟩
 ·exact .inl h
 ·exact .inr ⟨b,a,Z,g,rfl,h2,h3,Re h4 (hk b rfl),h5,c⟩
theorem Wa.at{f:Nat->Si}{n:Nat}{w:Y}{v:V9}{lo hi:Nat}(h:Wa f n w v lo hi):∃a c,v=.slice a n c/\L4 w a n f:=by
 rcases h with⟨d,rfl⟩|⟨b,c,Z,g,h1,h2,h3,h4,h5,e⟩
 ·subst d;exact⟨_,_,rfl,.inl rfl⟩
 ·exact⟨_,_,h1,.inr ⟨b,0,rfl,We h4,fun i hi=>by rw[Aaa];exact dD h4 h5 e hi⟩⟩
theorem GV.JB{f:Nat->Bf}{n:Nat}{w w':Y}{v:V9}{lo hi:Nat}(h:GV f n w v lo hi)(hk:∀b,v.ownBlock=some b->w'.heap[b]?=w.heap[b]?):GV f n w' v lo hi:=by
 rcases h with h|⟨a,b,c,rfl,h2,h3,h4⟩
 ·exact .inl h
 ·exact .inr ⟨a,b,c,rfl,h2,h3,h4.of_block (hk b rfl)⟩
def YB(lo hi:Nat)(w:Y)(v:V9)(n:Nat)(f:Nat->Tb)(H:Nat->Hs):Prop:=
 (n=0/\v=N9)\/∃b a Z g,v=S9 b n a/\lo<=b/\b<hi/\w.rowIs b 94 Z g/\n*8<=Z/\(∀i,i<n->YG lo hi w b (i*8) (H i) (f i))/\dT b n H
theorem YB.keep{lo hi:Nat}{w w':Y}{v:V9}{n:Nat}{f:Nat->Tb}{H:Nat->Hs}(h:YB lo hi w v n f H)(hk:∀b,v.ownBlock=some b->w'.heap[b]?=w.heap[b]?)(a:∀i q,i<n->(H i).own q->w'.heap[q]?=w.heap[q]?):YB lo hi w' v n f H:=by
 rcases h with h|⟨b,c,Z,g,rfl,h2,h3,h4,h5,d,e⟩
 ·exact .inl h
 ·exact .inr ⟨b,c,Z,g,rfl,h2,h3,Re h4 (hk b rfl),h5,fun i hi=>(d i hi).keep (fun q hq=>a i q hi hq) (fun j _=>As (hk b rfl)),e⟩
theorem YB.at{lo hi:Nat}{w:Y}{v:V9}{n:Nat}{f:Nat->Tb}{H:Nat->Hs}(h:YB lo hi w v n f H):∃a c,v=.slice a n c/\aC w a n f:=by
 rcases h with⟨d,rfl⟩|⟨b,c,Z,g,rfl,h2,h3,h4,h5,e,j⟩
 ·subst d;exact⟨_,_,rfl,.inl rfl⟩
 ·exact⟨_,_,rfl,.inr ⟨b,0,rfl,We h4,fun i hi=>by rw[Aaa];exact(e i hi).at⟩⟩
theorem GV.own{f:Nat->Bf}{n:Nat}{w:Y}{v:V9}{lo hi:Nat}(h:GV f n w v lo hi){q:Nat}(e:v.ownBlock=some q):lo<=q/\q<hi/\q<w.heap.size:=by
 rcases h with⟨a,rfl⟩|⟨a,b,c,rfl,h2,h3,h4⟩
 ·cases e
 ·cases e;exact⟨h2,h3,h4.lt⟩
theorem Wa.own{f:Nat->Si}{n:Nat}{w:Y}{v:V9}{lo hi:Nat}(h:Wa f n w v lo hi){q:Nat}(e:v.ownBlock=some q):lo<=q/\q<hi/\q<w.heap.size:=by
 rcases h with⟨a,rfl⟩|⟨b,c,Z,g,rfl,h2,h3,h4,h5,d⟩
 ·cases e
 ·cases e;exact⟨h2,h3,We h4⟩
theorem YB.own{lo hi:Nat}{w:Y}{v:V9}{n:Nat}{f:Nat->Tb}{H:Nat->Hs}(h:YB lo hi w v n f H){q:Nat}(e:v.ownBlock=some q):lo<=q/\q<hi/\q<w.heap.size:=by
 rcases h with⟨a,rfl⟩|⟨b,c,Z,g,rfl,h2,h3,h4,h5,d,i⟩
 ·cases e
 ·cases e;exact⟨h2,h3,We h4⟩
theorem YB.row{lo hi:Nat}{w:Y}{v:V9}{n:Nat}{f:Nat->Tb}{H:Nat->Hs}(h:YB lo hi w v n f H){i q:Nat}(a:i<n)(e:(H i).own q):lo<=q/\q<hi/\q<w.heap.size:=by
 rcases h with⟨d,rfl⟩|⟨b,j,Z,g,rfl,h2,h3,h4,h5,c,k⟩
 ·omega
 ·have:=(c i a).lt e;exact⟨this.2.1,this.2.2,this.1⟩
structure Uf (lo hi:Nat) (w:Y) (vF vT vS:V9) (s:AV) (H:Nat->Hs):Prop where
 f:GV s.F s.nf w vF lo hi
 t:YB lo hi w vT s.nt s.T H
 si:Wa s.S s.ns w vS lo hi
 ft:∀q,vF.ownBlock=some q->vT.ownBlock≠some q
 fs:∀q,vF.ownBlock=some q->vS.ownBlock≠some q
 fr:∀q i,vF.ownBlock=some q->i<s.nt->¬(H i).own q
 st:∀q,vS.ownBlock=some q->vT.ownBlock≠some q
 sr:∀q i,vS.ownBlock=some q->i<s.nt->¬(H i).own q
theorem Uf.keep{lo hi:Nat}{w w':Y}{vF vT vS:V9}{s:AV}{H:Nat->Hs}(h:Uf lo hi w vF vT vS s H)(hk:∀q,lo<=q->q<hi->q<w.heap.size->w'.heap[q]?=w.heap[q]?):Uf lo hi w' vF vT vS s H:=
 ⟨h.f.JB (fun q e=>hk q (h.f.own e).1 (h.f.own e).2.1 (h.f.own e).2.2),h.t.keep (fun q e=>hk q (h.t.own e).1 (h.t.own e).2.1 (h.t.own e).2.2) (fun i q hi e=>hk q (h.t.row hi e).1 (h.t.row hi e).2.1 (h.t.row hi e).2.2),h.si.keep (fun q e=>hk q (h.si.own e).1 (h.si.own e).2.1 (h.si.own e).2.2),h.ft,h.fs,h.fr,h.st,h.sr⟩
theorem Uf.below{lo hi B:Nat}{w w':Y}{vF vT vS:V9}{s:AV}{H:Nat->Hs}(h:Uf lo hi w vF vT vS s H)(hb:Below B w w')(a:hi<=B):Uf lo hi w' vF vT vS s H:=h.keep fun q _ h2 _=>hb.block q (by omega)
abbrev f1:Nat->Bf:=fun _=>⟨-1,⟨#[]⟩,0⟩
abbrev ES(v:V9):Value:=.agg #[v,N9,N9]
abbrev SB(b:Nat):Value:=S9 b 1 1
theorem kO{w:Y}{b lo hi:Nat}(h:w.rowIs b 205 3 (cellOf f1))(h1:lo<=b)(h2:b<hi):GV f1 1 w (SB b) lo hi:=
 .inr ⟨by omega,b,1,rfl,h1,h2,3,cellOf f1,by omega,h,fun _ _=>rfl⟩
theorem jP(w:Y):(w.alloc (.cells #[J (-1),E9,J 0] 205)).rowIs w.heap.size 205 3 (cellOf f1):=
 AaK w #[J (-1),E9,J 0] 205 (cellOf f1) (fun i hi=>by
  have:i<3:=hi
  match i,this with
  |0,_=>rfl
  |1,_=>rfl
  |2,_=>rfl)
theorem XR(w:Y):C9 127 #[] w (R9 (.agg #[J (-1),E9,J 0]) w):=by
 go_enter func127,ntmps127
 go_wp2;exact DO (v:=.agg #[J (-1),E9,J 0]) (by simp[results,results127,go_sem]) rfl ⟨rfl,n9⟩
theorem RZ(w:Y):C9 68 #[] w fun e w'=>(∃b,e=.returned (ES (SB b))/\GV f1 1 w' (SB b) w.heap.size w'.heap.size)/\B9 w w':=by
 have f:Hid (B9 w (w.alloc (.cells #[N9,N9,N9] 42))):=O (n9)
 go_enter func68,ntmps68
 go_wp2_with fail
 refine m9 (XR _) fun w1 a=>?_
 obtain⟨c,d⟩:=AJ a;have g:=a.size;simp at g;have j:w.heap.size<w1.heap.size:=by omega
 have c0:w1.cell? (y w 0)=some (N9):=by rw[c _ _ (by simp)];simp[go_sem]
 have c1:w1.cell? (y w 1)=some (N9):=by rw[c _ _ (by simp)];simp[go_sem]
 have c2:w1.cell? (y w 2)=some (N9):=by rw[c _ _ (by simp)];simp[go_sem]
 have fr:∀o,w1.frozen? (y w o)=false:=fun o=>by rw[d _ _ (by simp)];simp[go_sem]
 have i:=O (f.trans (a.mono (by simp)));clear a c d;go_wp2;have h:=jP (((w1.setCell (y w 0) (SB w1.heap.size)).setCell (y w 1) (N9)).setCell (y w 2) (N9));simp only[World.size_setCell]at h;refine DO (v:=ES (SB w1.heap.size)) (by simp[results,results68,go_sem,GC,j,c0,c1,c2]) rfl ⟨⟨w1.heap.size,rfl,kO h (by omega) (by simp)⟩,?_⟩;refine Below.alloc ?_ (by simp;omega) _;iterate 3 (refine W0 ?_ (by show w.heap.size<=w.heap.size;omega) _)
 exact i
section
open Go.RowKit Go.Shelf
theorem Wp(u v:Int)(b:0<=u)(h1:u<256)(g0:0<=v)(g1:v<256)(wr:Y):(convert 71 9 (S9 wr.heap.size 2 2)).run prog (wr.alloc (.cells #[.int .u8 u,.int .u8 v] 5))=.ok (.string ⟨[UInt8.ofNat u.toNat,UInt8.ofNat v.toNat].toArray⟩) (wr.alloc (.cells #[.int .u8 u,.int .u8 v] 5)):=
 run_convert_bytes_back (P:=prog) (wr.alloc (.cells #[.int .u8 u,.int .u8 v] 5)) 71 9 5 (y wr 0) 2 [UInt8.ofNat u.toNat,UInt8.ofNat v.toNat] underlying71 underlying5 underlying9 (by
  intro j hj;have a:j<2:=hj;have e:((UInt8.ofNat u.toNat).toNat:Int)=u:=by rw[UInt8.toNat_ofNat'];omega
  have e':((UInt8.ofNat v.toNat).toNat:Int)=v:=by rw[UInt8.toNat_ofNat'];omega
  rcases(show j=0\/j=1 by omega)with rfl|rfl
  ·have e2:([UInt8.ofNat u.toNat,UInt8.ofNat v.toNat][0]'hj)=UInt8.ofNat u.toNat:=rfl;rw[e2,e];simp[Addr.add,go_sem]
  ·have e2:([UInt8.ofNat u.toNat,UInt8.ofNat v.toNat][1]'hj)=UInt8.ofNat v.toNat:=rfl;rw[e2,e'];simp[Addr.add,go_sem])
end
theorem VQ{x:Nat}(h:fz x=true):∃s i,Ieee.double.read x=.number s 0 i:=by
 have h':(Ieee.double.order x 0==some .eq)=true:=h;rcases Fl.CG x with⟨s,m,i,a,hi,c,e,_⟩|⟨s,a⟩|⟨s,t,a⟩
 ·rw[Fl.B6 a Fl.CP hi (by omega),Fl.C0,Fl.Fa]at h';have b:Fl.sc s m i=0:=by simpa using h'
  unfold Fl.sc at b;rw[Fl.Cv]at b;have d:=Fl.Ep (i+1074).toNat;have:m=0:=by
   generalize (2:Int)^(i+1074).toNat=u at b d;have h1:(m:Int)*u=0:=by
    cases s
    ·simpa using b
    ·simpa using b
   rcases Int.mul_eq_zero.1 h1 with h|h<;>omega
  subst this;exact⟨s,i,a⟩
 ·exfalso;unfold Ieee.Format.order at h';rw[a,Fl.CP]at h';cases s<;>simp[Ieee.Datum.order]at h'
 ·exfalso;unfold Ieee.Format.order at h';rw[a]at h';simp[Ieee.Datum.order]at h'
theorem Vp{x:Nat}(h:fz x=true):∃r,floatBits .quo .f64 4607182418800017408 x=some r/\(O9 r r==some .eq)=true:=by
 obtain⟨s,i,a⟩:=VQ h;refine⟨Ieee.double.write (.infinity (false^^s)),?_,?_⟩
 ·show((Ieee.double.read 4607182418800017408).quotient _ (Ieee.double.read x)).map Ieee.double.write=_;rw[a,Fl.QT];simp[Ieee.Datum.quotient]
 ·cases s<;>decide
theorem IB(kind num:Int)(Ae:Nat)(s:ByteArray)(ref:Int)(w:Y):
  C9 44 #[V kind num Ae s ref,V kind num Ae s ref] w (R9 (.bool true) w):=by
 by_cases h1:Ea Ae=true
 ·have g1:(O9 Ae Ae !=some .eq)=true:=h1;clear h1
  go_enter func44,ntmps44
  go_wp2;go_ret;exact⟨rfl,(n9).alloc (by simp) _⟩
 have g1:(O9 Ae Ae !=some .eq)=false:=(by simpa using h1:Ea Ae=false);have g2:(O9 Ae Ae==some .eq)=true:=by simpa using g1
 by_cases h2:fz Ae=true
 focus
  have g3:(O9 Ae 0!=some .eq)=false:=by
   have:(O9 Ae 0==some .eq)=true:=h2;simpa using this
  obtain⟨r,a,g4⟩:=Vp h2;have hq:∀w:World,(binOp .quo 29 (F9 4607182418800017408) (F9 Ae)).run prog w=.ok (F9 r) w:=fun w=>run_float_arith w .quo 29 .f64 _ _ r a
  clear h1 h2 a
 rotate_left
 focus
  have g3:(O9 Ae 0!=some .eq)=true:=by
   have:(O9 Ae 0==some .eq)=false:=(by simpa using h2:fz Ae=false);simpa using this
  clear h1 h2
 rotate_left;all_goals
  go_enter func44,ntmps44
  go_wp2;go_ret;exact⟨rfl,(n9).alloc (by simp) _⟩
theorem XA(b:Nat)(n:Int)(w:Y)(hn:n<=1):
  C9 77 #[Q9 b,J n] w fun e w'=>e=.returned (J 0)/\w'=w:=by
 go_enter func77,ntmps77
 go_wp2;go_ret;exact⟨rfl,rfl⟩
theorem QO(b Z:Nat)(n:Int)(w:Y)(h:Cu b Z w)(hN:Z<=1099511627000)(c:1<=n)(a:n<=70000):
  C9 77 #[Q9 b,J n] w fun e w'=>(∃x:Int,e=.returned (J x)/\0<=x/\x<n)/\Cu b (Z+2) w'/\KK b w w':=by
 by_cases h1:1<n
 ·exact Ax b Z n w h hN h1 a
 ·refine(XA b n w (by omega)).mono fun e w' h'=>?_
  rw[h'.2];exact⟨⟨0,h'.1,by omega,by omega⟩,h.mono (by omega),KK.refl _ _⟩
end Go.Proofs.YtgmlkfgfjjggnaaGreatDoor
