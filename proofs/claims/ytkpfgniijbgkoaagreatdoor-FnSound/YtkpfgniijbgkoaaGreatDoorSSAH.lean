import Derived.Test.YtkpfgniijbgkoaaGreatDoorSSAG
set_option linter.all false
set_option maxHeartbeats 40000000
set_option maxRecDepth 100000
namespace Go.Proofs.YtkpfgniijbgkoaaGreatDoor
open Go.Proofs.Tryz
open Go.RowKit
attribute [local go_sem] AB Aw CU
variable {M:Nat->Prop}{n n0 bk R2 x e p i a b b' lo hi:Nat}{A B C W W' w w' w3 wr:Y}{k v:Vl}{T:World->Prop}{hf:Vl->Nat}{d c:Dc}{u r0 r1 v0 v1 v2:V9}{E S:Nat->Nat}{K:Vl->Prop}{f:Nat->Pr}
section
open Go.RowKit Go.Shelf
attribute [local go_sem] Oper.semAt_some
structure KX (M:Nat->Prop) (n:Nat) (A B:Y):Prop where
 C7:Below n A B
 BH:∀b,b<A.heap.size->¬M b->B.heap[b]?=A.heap[b]?
def KX.refl M n A:KX M n A A:=⟨BE _ _,λ_ _ _=>rfl⟩
theorem KX.trans(h:KX M n A B)(k:KX M n B C):KX M n A C:=⟨h.C7.trans k.C7,λb hb a=>(k.BH b (A0 hb h.C7.size) a).trans<|h.BH b hb a⟩
def KX.mono{M'}(h:KX M n A B)(e:∀b,b<A.heap.size->M b->M' b):KX M' n A B:=⟨h.C7,λb hb a=>h.BH b hb λc=>a<|e b hb c⟩
def KX.Am(h:B9 A B)(hn:n<=A.heap.size):KX M n A B:=⟨h.mono hn,λb hb _=>h.block b hb⟩
def KX.setCell(h:KX M n A B){g q}(c:n<=g)(d:g<A.heap.size->M g)u:KX M n A<|B.setCell (G g q) u:=
 ⟨h.C7.setCell (by exact c) _,λb hb a=>(At _ _ _ _ (by intro e;have e:b=g:=e;subst e;exact a<|d hb)).trans<|h.BH b hb a⟩
def KX.alloc(h:KX M n A B)(hn:n<=A.heap.size)o:KX M n A<|B.alloc o:=
 ⟨h.C7.alloc (GO hn h.C7.size) _,λb hb a=>(E1 _ _ _<|A0 hb h.C7.size).trans<|h.BH b hb a⟩
def KX.drew(h:KX M n A B):KX M n A B.drew:=⟨h.C7.drew,h.BH⟩
theorem KX.grown{row}(h:KX M n A B)(a:B.grownBy C row)(hn:n<=A.heap.size)(c:∀r,row=some r->A.heap.size<=r\/(n<=r/\M r)):KX M n A C:=
 ⟨h.C7.grown a (GO hn h.C7.size) (λk e=>by rcases c k e with h'|h'<;>omega),λb hb d=>(a.block b (A0 hb h.C7.size) (λe=>by
  rcases c b e.symm with h'|h'
  .omega
  exact d h'.2)).trans (h.BH b hb d)⟩
def Oy(n0 bk R2 x:Nat)(k:Vl)(e:Nat)(W:Y):Prop:=
 W.cell? (G n0 0)=some (.pointer<|some<|G bk 2)/\W.cell? (G bk 3)=some (S9 R2 x x)/\W.cell? (G (n0+1) 0)=some (J k.kind)/\W.cell? (G (n0+1) 1)=some (J k.num)/\W.cell? (G (n0+1) 2)=some (F9 k.Ah)/\W.cell? (G (n0+1) 3)=some (.string k.str)/\W.cell? (G (n0+1) 4)=some (J k.ref)/\W.cell? (G (n0+1+1) 0)=some (Q9 e)
def Oy.block(h:Oy n0 bk R2 x k e W)(hb:∀b,b<n0+3->b=n0\/b=n0+1\/b=n0+1+1\/b=bk->W'.heap[b]?=W.heap[b]?)(hl:bk<n0):Oy n0 bk R2 x k e W':=by
 obtain⟨a,s1,s2,c,d,f,g,i⟩:=h;have k0:=hb n0 om om;have k1:=hb (n0+1) om om;have k2:=hb (n0+1+1) om om;have k3:=hb bk om om;exact⟨(As k0).trans a,(As k3).trans s1,(As k1).trans s2,(As k1).trans c,(As k1).trans d,(As k1).trans f,(As k1).trans g,(As k2).trans i⟩
def Lz(U:EJ T){bk}{r0 r1}{R2}{E S}{d}{k}p{h}(hh:Qt T k h){w:Y}(hT:T w)(hM:AL w bk r0 r1 R2 E S d)(hS:Small d)(hX:∀j,j<d.x->d.X j=0\/d.X j=-1\/0<d.X j)(hk:(d.L p).key=k)(hu:Cj d.X d.x<d.x)(aw:0<=d.used)(ax:d.used<=4194304):
  C9 188 #[.pointer (some<|G bk 2),V k.kind k.num k.Ah k.str k.ref,Q9 (E p)] w λe w'=>((∃u,e=.returned u)/\∃a S',Db d.x d.X (h%d.x)=some a/\AL w' bk r0 r1 R2 E S' {d with X:=AW d.X a ((p:Int)+1),used:=if d.X a=0 then d.used+1 else d.used})/\KX (λb=>b=bk\/b=R2) bk w w':=by
 have hx:=hS.x;refine(W0 (n:=10)).1 ?_;refine callsIn_of_wp_marks func188 rfl trivial ?_ rfl;simp only[ntmps188,Aaw,Aac,VC,Nat.reduceAdd,Nat.reduceSub,Aaf,Aae,Aax,Aam,Wx,Aau];gi_wp2_with (refine⟨trivial,?_⟩;gi_at_call 175;refine(W0.2<|Um (some<|G bk 2) k _).mono ?_;rintro e w' ⟨rfl,rfl⟩);obtain⟨u,g⟩:=qa<|((((w.alloc<|.cells #[.pointer (some<|G bk 2)] 257).alloc<|.cells (qi k) 32).alloc<|.cells #[Q9 (E p)] 218).alloc<|.cells #[.pointer (some<|G bk 2)] 257).alloc<|.cells (qi k) 32;rw[<-g];have zu:u.heap.size=w.heap.size+5:=by rw[g];simp
 have bu:B9 w u:=by rw[g];exact((((n9).alloc oq _).alloc ot _).alloc ot _).alloc ot _
 obtain⟨n0,i0,i1,i2,i3,i4,af,m0,j0,j1,j2,j3,j4⟩:u.cell? (y w 0)=some (.pointer<|some<|G bk 2)/\u.cell? (Y9 w 0)=some (J k.kind)/\u.cell? (Y9 w 1)=some (J k.num)/\u.cell? (Y9 w 2)=some (F9 k.Ah)/\u.cell? (Y9 w 3)=some (.string k.str)/\u.cell? (Y9 w 4)=some (J k.ref)/\u.cell? (Z9 w 0)=some (Q9<|E p)/\u.cell? (G (w.heap.size+1+1+1) 0)=some (.pointer<|some<|G bk 2)/\u.cell? (G (w.heap.size+1+1+1+1) 0)=some (J k.kind)/\u.cell? (G (w.heap.size+1+1+1+1) 1)=some (J k.num)/\u.cell? (G (w.heap.size+1+1+1+1) 2)=some (F9 k.Ah)/\u.cell? (G (w.heap.size+1+1+1+1) 3)=some (.string k.str)/\u.cell? (G (w.heap.size+1+1+1+1) 4)=some (J k.ref):=by rw[g];simp[go_sem]
 rcases hM.below bu,U _ _ hT bu,hM.lt,hM.PS with⟨P,ag,m,au⟩;clear g;refine wpIn_rangeFunc_ownF rfl oo (gf:=189) (lb:=#[Q9 (w.heap.size+1+1+1),Q9 (w.heap.size+1+1+1+1)]) rfl trivial (enters_of func189 ou rfl)
  (Pb 9 oo U bk R2 (w.heap.size+1+1+1) (w.heap.size+1+1+1+1) d w.heap.size hh u ag hx m0 P.c2 P.c3 j0 j1 j2 j3 j4) belowK_t (belowK_b om) (BE _ _) (λ_=>rfl)
  (λpre W=>((∀Z∈pre,0<d.X Z.1)/\W.cell? (y w 0)=some (.pointer<|some<|G bk 2)/\W.cell? (Y9 w 0)=some (J k.kind)/\W.cell? (Y9 w 1)=some (J k.num)/\W.cell? (Y9 w 2)=some (F9 k.Ah)/\W.cell? (Y9 w 3)=some (.string k.str)/\W.cell? (Y9 w 4)=some (J k.ref)/\W.cell? (Z9 w 0)=some (Q9<|E p))/\B9 w W)
  (λc pre W=>(c=.ret/\(∃f a,pre=f++[a]/\(∀Z∈f,0<d.X Z.1)/\d.X a.1<=0/\∃S',AL W bk r0 r1 R2 E S' {d with X:=AW d.X a.1 ((p:Int)+1),used:=if d.X a.1=0 then d.used+1 else d.used}))/\KX (λb=>b=bk\/b=R2) bk w W)
  (OwnFrom.and (Own.from (λs A B row hs o v=>⟨hs.1,NB hs.2.1 o v,NB hs.2.2.1 o v,NB hs.2.2.2.1 o v,NB hs.2.2.2.2.1 o v,NB hs.2.2.2.2.2.1 o v,NB hs.2.2.2.2.2.2.1 o v,NB hs.2.2.2.2.2.2.2 o v⟩) _)<|ownFrom_below (Be _) om)
  (λc=>OwnFrom.and (Own.from (λs A B row hs o v=>⟨hs.1,by obtain⟨f,a,h1,h2,h3,S',h4⟩:=hs.2;exact⟨f,a,h1,h2,h3,S',h4.grown o v⟩⟩) _) λs W W' row hs o v=>hs.grown o om λk e=>.inl<|oT (v k e).1)
  ⟨⟨oq,n0,i0,i1,i2,i3,i4,af⟩,bu⟩
  ?a1 ?assign ?body ?done ?stop
 case assign=>
  intro l x W K hK;gi_wp2;exact hK
 case body=>
  rintro l pre ⟨a,C⟩ W ⟨⟨hp,g0,e0,e1,e2,e3,e4,s0⟩,F⟩ _;have i:=hM.below F;rcases i.c3,i.c4,i.fz 4 with⟨c3,c4,f4⟩;obtain⟨g',cp',e',_,lR,_,ah,ai⟩:=i.slots.form om;cases e';rcases ah a C,ai a,i.sl a C with⟨p0,q0,H⟩;have nR:R2≠bk:=oT i.PS.1;have ay:bk≠R2:=λe=>nR e.symm;rcases I9 _ _ g0,I9 _ _ e0,I9 _ _ s0 with⟨z0,z1,z2⟩;dsimp only at z0 z1 z2;rcases O hp,O F,O hk with⟨HP,ad,HK⟩;clear hp F n0 i0 i1 i2 i3 i4 af m0 j0 j1 j2 j3 j4 P ag bu zu hM hT hh U ah ai;have aj:=hX a C;clear hX;rcases aj with hs|hs|hs
  .rw[show DX S a (d.X a)=none from DD hs]at p0;have ae:=(i.Kg<|d.used+1).PR (x:=(p:Int)+1) C om ⟨λ_=>by show _=jE (d.L ((p:Int)+1-1).toNat).key _;rw[show((p:Int)+1-1).toNat=p by omega,z HK],λh=>om⟩;rw[show(W.setCell (G bk 4) (J (d.used+1))).heap.size=W.heap.size by simp]at ae;have HN:=O ae;clear ae;have HX:=O hs;clear H hs;gi_wp2;refine Qm (Oy w.heap.size bk R2 d.x k<|E p) ou ou ?_;change wpAnyH _ _ _ _ _ _ _ _ (World.drew _);have hz:∀b q,bk≠b->(W.setCell (G bk 4)<|J<|d.used+1).cell? (G b q)=W.cell? (G b q):=λb q h=>Aq h;have I:Oy w.heap.size bk R2 d.x k (E p) (W.setCell (G bk 4)<|J<|d.used+1).drew:=⟨(hz _ _ om).trans g0,(Aa oo).trans c3,(hz _ _ om).trans e0,(hz _ _ om).trans e1,(hz _ _ om).trans e2,(hz _ _ om).trans e3,(hz _ _ om).trans e4,(hz _ _ om).trans s0⟩;clear hz;refine tz 0 (h:=tz 1 (h:=tz 2 (h:=tz 3 (h:=tz 4 (h:=tz 5 (h:=tz 6 (h:=tz 7 (h:=?_))))))));refine ry 8 λK hK=>?_;go_simp;refine hK.out _ _ ?_ λak=>?_
   .exact I.block (λb hb _=>E1 _ _ _<|by show b<(W.setCell _ _).heap.size;simp;omega) m
   clear hK K;refine tz 9 (h:=?_);refine ry 10 λK hK=>?_;go_simp;refine hK.out _ _ ?_ λao=>?_
   .exact I.block (λb hb h=>(E1 _ _ _ ot).trans<|At _ _ _ _<|by show b≠R2;omega) m
   clear hK K;refine FI ?_;gi_wp2;exact⟨(((Q2 _ _ _).trans<|Q2 _ _ _).trans<|KeepsOthers.alloc _ _).trans<|KeepsOthers.drew _,⟨rfl,pre,⟨a,C⟩,rfl,HP,by have:=z HX;show d.X a<=0;omega,_,by rw[DD (z HX)];exact HN.below (BE _ _).drew⟩,((((KX.Am ad om).setCell (Be _) (λ_=>.inl rfl) _).setCell om (λ_=>.inr rfl) _).alloc om _).drew⟩
  .rw[show DX S a (d.X a)=some (G (S a) 0)from C3 om]at p0;obtain⟨aq,az⟩:=H.2 om;have HN:=i.PR (x:=(p:Int)+1) C om ⟨λ_=>by show _=jE (d.L ((p:Int)+1-1).toNat).key _;rw[show((p:Int)+1-1).toNat=p by omega,z HK],λh=>om⟩;have HX:Hid<|d.X a≠0/\d.X a<=0:=O om;clear H hs;gi_wp2;refine Qm (Oy w.heap.size bk R2 d.x k<|E p) ou ou ?_;change wpAnyH _ _ _ _ _ _ _ _ (World.drew _);have I:Oy w.heap.size bk R2 d.x k (E p) W.drew:=⟨g0,c3,e0,e1,e2,e3,e4,s0⟩;refine tz 0 (h:=tz 1 (h:=tz 2 (h:=tz 3 (h:=tz 4 (h:=tz 5 (h:=tz 6 (h:=tz 7 (h:=?_))))))));refine ry 8 λK hK=>?_;go_simp;refine hK.out _ _ ?_ λak=>?_
   .exact I.block (λb hb _=>E1 _ _ _<|by show b<W.heap.size;omega) m
   clear hK K;refine tz 9 (h:=?_);refine ry 10 λK hK=>?_;go_simp;refine hK.out _ _ ?_ λao=>?_
   .exact I.block (λb hb h=>(E1 _ _ _ ot).trans<|At _ _ _ _<|by show b≠R2;omega) m
   clear hK K;refine FI ?_;gi_wp2;exact⟨((Q2 _ _ _).trans<|KeepsOthers.alloc _ _).trans<|KeepsOthers.drew _,⟨rfl,pre,⟨a,C⟩,rfl,HP,by have:=z HX;show d.X a<=0;omega,_,by rw[C3 (z HX).1];exact HN.below (BE _ _).drew⟩,(((KX.Am ad om).setCell om (λ_=>.inr rfl) _).alloc om _).drew⟩
  rw[show DX S a (d.X a)=some (G (S a) 0)from C3 om]at p0;obtain⟨aq,f0,f1,f2,f3,aM,f5,f6⟩:=H.1 hs;have HX:=O hs;clear H hs;gi_wp2;exact⟨KeepsOthers.refl _,BE _ _,⟨λZ hy=>(AaG.1 hy).elim (HP Z) (λe=>by simp at e;subst e;exact HX),g0,e0,e1,e2,e3,e4,s0⟩,ad⟩
 case done=>
  rintro D ys W hD ar ⟨⟨hp,_⟩,F⟩ hK;exfalso;obtain⟨t,ht,hf,a6,av⟩:=Fp (a:=h%d.x) (X:=d.X) (Tn _ om) hu;have hm:(h%d.x+t)%d.x∈ys.map (·.1):=by
   rw[show ys.map (·.1)=Fk d.x (h%d.x) d.x from ar];unfold Fk;exact List.mem_map.2 ⟨t,List.mem_range.2 ht,rfl⟩
  obtain⟨Z,hy,e⟩:=List.mem_map.1 hm;have:=hp Z hy;rw[e]at this;omega
 case stop=>
  rintro D c pre W hD Q ⟨⟨rfl,f,a,rfl,h1,h2,S',hN⟩,F⟩ hK;have HF:Hid<|Db d.x d.X (h%d.x)=some a.1:=O (by
   have hp:(f++[a]).map (·.1)<+:Fk d.x (h%d.x) d.x:=Q;have M:=hp.length_le;rw[AaR,OR,Nw]at M;have M:f.length+1<=d.x:=M;have R:∀j,j<f.length+1->((f++[a]).map (·.1))[j]?=some ((h%d.x+j)%d.x):=λj hj=>by
    obtain⟨r,v⟩:=hp;have e:(Fk d.x (h%d.x) d.x)[j]?=((f++[a]).map (·.1))[j]?:=by rw[<-v,Aak ot]
    rw[<-e];unfold Fk;rw[List.getElem?_map,List.getElem?_range (show j<d.x by omega)];rfl
   have C:=R f.length om;rw[List.getElem?_map,Aav (Be _)]at C;have C:a.1=(h%d.x+f.length)%d.x:=by simpa using C
   rw[C];refine Ni om (λj hj=>?_) (by rw[<-C];exact h2);have hb:=R j om;rw[List.getElem?_map,Aak hj]at hb;obtain⟨Z,hy,e⟩:=Option.map_eq_some_iff.1 hb;rw[<-e];exact h1 Z (List.mem_of_getElem? hy))
  clear Q h1 h2 hh hM P;gi_wp2;refine⟨oq,.inl ⟨_,_,rfl,AaJ hK,?_⟩⟩;have o:=MM W D<|.deferred none;refine⟨_,AaE rfl _ _ _,⟨⟨_,rfl⟩,a.1,S',HF,hN.grown o λr e=>by cases e;exact⟨_,hK,rfl⟩⟩,F.grown o om λk e=>by cases e;exact .inl om⟩
end
def Em(hf:Vl->Nat)(d:Dc)(x:Nat)(l:List Nat):Dc:=l.foldl (λc p=>AY hf c (d.L p).key p) {d with x:=x,X:=λ_=>0,used:=0}
def KP hf d x l p:Em hf d x (l++[p])=AY hf (Em hf d x l) (d.L p).key p:=by
 unfold Em;rw[List.foldl_append];rfl
structure GY (d:Dc) (a N:Nat) (c:Dc):Prop where
 x:c.x=a
 n:c.n=d.n
 L:c.L=d.L
 m:c.m=d.m
 I:c.I=d.I
 live:c.live=d.live
 turns:c.turns=d.turns
 use:Cj c.X a<=N
 used:(Cj c.X a:Int)=c.used
 pos:∀j,j<a->0<=c.X j
 up:∀j,j<a->c.X j<=d.n
def GY.step{Z}(h:GY d x Z c)(hN:Z<x)(hp:p<d.n):GY d x (Z+1)<|AY hf c k p:=by
 obtain⟨t,l,f,g,_⟩:=Fp (a:=hf k%x) (X:=c.X) (Tn _ om)<|oT h.use;have hs:(hf k%x+t)%x<x:=Tn _ om;have i:c.X ((hf k%x+t)%x)=0:=oT<|h.pos _ hs;generalize (hf k%x+t)%x=a at*;have e:=Fy (d:=c) (k:=k) (p:=p) (a:=a) (by rw[h.x];exact f);rw[e];have hu:=Qf (v:=(p:Int)+1) om i x;rw[DD hs]at hu;refine⟨h.x,h.n,h.L,h.m,h.I,h.live,h.turns,?_,?_,λj hj=>?_,λj hj=>?_⟩
 .show Cj (AW c.X a<|(p:Int)+1) x<=Z+1;rw[hu];have:=h.use;omega
 .grind [hN,AY,Cj,AW,GY.used]
 .show 0<=AW c.X a ((p:Int)+1) j;by_cases b:j=a
  .subst b;rw[Ax];omega
  rw[Ao _ _ b];exact h.pos j hj
 show AW c.X a ((p:Int)+1) j<=d.n;by_cases b:j=a
 .subst b;rw[Ax];omega
 rw[Ao _ _ b];exact h.up j hj
def GY.start d x:GY d x 0 {d with x:=x,X:=λ_=>0,used:=0}:=
 ⟨rfl,rfl,rfl,rfl,rfl,rfl,rfl,by show Cj (λ_=>0) x<=0;rw[Ki];exact Be _,by show((Cj (λ_=>0) x:Nat):Int)=0;rw[Ki];rfl,λj hj=>Int.le_refl _,λj hj=>by show(0:Int)<=d.n;omega⟩
def O3{l}(hl:l.length<=x)(hn:∀p∈l,p<d.n):GY d x l.length<|Em hf d x l:=by
 suffices h:∀(k:Nat),k<=l.length->GY d x k (Em hf d x<|l.take k) by
  have:=h l.length<|Be _
  rwa [List.take_length]at this
 intro k
 induction k with
 |zero=>intro _;exact GY.start d x
 |succ k ih=>
  intro hk;have e:l.take (k+1)=l.take k++[l[k]]:=(List.take_append_getElem om).symm;rw[e,KP];exact(ih om).step om (hn _<|List.getElem_mem _)
noncomputable def CQ(d:Dc)(k:Nat):List Nat:=(A8 d k).filter λi=>!tells (AA d.m (d.L i).key)
def mO{k}(h:(d.L k).turn=0\/AA d.m (d.L k).key):CQ d (k+1)=CQ d k:=by
 grind [AA,CQ,Cm,Bs,Al,GY.L]
def eQ{k}(a:(d.L k).turn≠0)(h:¬AA d.m (d.L k).key):CQ d (k+1)=CQ d k++[k]:=by
 grind [AA,CQ,Bs,Ag]
def Yl d k:(CQ d k).length<=(A8 d k).length:=List.length_filter_le _ _
def PE{k}(h:i∈CQ d k):i<k/\(d.L i).turn≠0/\¬AA d.m (d.L i).key:=by
 unfold CQ at h;obtain⟨h1,h2⟩:=List.mem_filter.1 h;obtain⟨h3,h4⟩:=PF.1 h1;grind [CQ,AA,Al]
def Nu(hp:∀i,i<d.n->(d.L i).turn≠0->0<(d.L i).turn):∀k,k<=d.n->Bp hf d x k=Em hf d x (CQ d k)/\BV d k=(CQ d k).length:=by
 intro k
 induction k with
 |zero=>intro _;exact⟨rfl,rfl⟩
 |succ k ih=>
  intro hk;obtain⟨h1,h2⟩:=ih om;by_cases h:AZ d k
  .have a:(d.L k).turn≠0:=oT h.1;rw[D9 h,EW h,eQ a h.2,KP,h1,h2,OR];exact⟨rfl,rfl⟩
  rw[Eg h,GI h,mO (by
   by_cases a:(d.L k).turn=0
   .exact .inl a
   refine .inr (AaO λhs=>h ⟨hp k om a,hs⟩))]
  exact⟨h1,h2⟩
section
open Go.RowKit Go.Shelf
attribute [local go_sem] Oper.semAt_some
def CS{B s}{v:V9}{xs}(h:w.ownsRow B e s v n xs)(hb:∀q,v.ownBlock=some q->w'.heap[q]?=w.heap[q]?):w'.ownsRow B e s v n xs:=by
 obtain⟨hl,h|⟨g,cap,cur,h1,h2,h3,h4⟩⟩:=h
 .exact⟨hl,.inl h⟩
 exact⟨hl,.inr ⟨g,cap,cur,h1,h2,(hb g<|qm h1).trans h3,h4⟩⟩
noncomputable def Hh(d:Dc)(pre:List<|M4 d):List Nat:=(pre.map (·.1)).filter λi=>!tells (AA d.m (d.L i).key)
def rO{pre}{x}(h:AA d.m (d.L x.1).key):Hh d (pre++[x])=Hh d pre:=by
 grind [AA,Hh,Al]
def mN{pre}{x}(h:¬AA d.m (d.L x.1).key):Hh d (pre++[x])=Hh d pre++[x.1]:=by
 grind [AA,Hh,Ag]
def mL{pre}(h:pre.map (·.1)=A8 d d.n):Hh d pre=CQ d d.n:=by
 unfold Hh CQ;rw[h]
def rN pre:(Hh d pre).length<=pre.length:=by
 grind [Hh,tells,AA,Small.m]
def eP(E:Nat->Nat)(l:List Nat)(j:Nat):Option Addr:=some<|G (E<|l.getD j 0) 0
def Ya E l i:G8 (eP E l) l.length++[Q9 (E i)]=G8 (eP E<|l++[i]) (l.length+1):=by
 grind [G8,eP,Ve,MQ,Ax,Ao]
def bQ(w u:Y)(p n0:Nat)(E:Nat->Nat)(d:Dc)(pre:List<|M4 d)(W:Y):Prop:=
 ∃v,W.rowIs p 238 1 (λ_=>v)/\Rw W n0 DB v (Hh d pre).length (eP E<|Hh d pre)/\Qu p n0 u W/\B9 w W
theorem bQ.own w u p n0 D E d(hn:n0<=D)(hu:n0<=u.heap.size)(g:w.heap.size<=D):OwnFrom D<|bQ w u p n0 E d:=by
 rintro pre A B row ⟨v,h1,h2,h3,h4⟩ a f;refine⟨v,?_,RK h2 a f,⟨GO h3.size a.size,λb hb hp=>?_⟩,h4.grown a h4.size λk e=>GO g (f k e).1⟩
 .obtain⟨c,hb,hc⟩:=h1;exact TO ⟨c,hb,hc⟩<|KT hb a f
 have hl:=A0 hb<|GO hu h3.size;exact(a.block b hl λe=>oT (f b e.symm).1).trans (h3.block b hb hp)
def bQ.below{u c:Y}{pre a}(h:bQ w u p n0 E d pre W)(h2:B9 W c)(e:Hh d a=Hh d pre)(l:p<n0)(j:n0<=u.heap.size):KeepsOthers W c/\Qu p n0 W c/\bQ w u p n0 E d a c:=by
 obtain⟨v,hp,f,g,i⟩:=h;have DM:Qu p n0 W c:=⟨h2.size,λb hb _=>h2.block b<|A0 hb<|GO j g.size⟩;refine⟨⟨h2.size,λk o hk _=>(h2.block k (GC.1 hk).1).trans hk⟩,DM,v,hp.of_block<|h2.block p hp.lt,?_,g.trans DM,o9 i h2⟩;rw[e];exact Dp f h2.size λq _ hq=>h2.block q hq
def bQ.add{u}{pre}{x}{v:V9}{o}{g3}(hp:W.rowIs p 238 1 λ_=>v)(f:Rw W n0 DB v (Hh d pre).length<|eP E<|Hh d pre)(n:Qu p n0 u W)(g:B9 w W)(h2:B9 W C)
  (h1:w3.ownsRow n0 DB 1 (S9 g3 ((Hh d pre).length+1) a) ((Hh d pre).length+1)<|G8 (eP E<|Hh d pre) (Hh d pre).length++[Q9 (E x.1)]) (r:(C.alloc o).grownBy w3 v.ownBlock) (s:p<n0) (D:n0<=u.heap.size) (F:w.heap.size<=p) (hs:¬AA d.m (d.L x.1).key):
  (w3.cell? (G p 0)=some v/\w3.frozen? (G p 0)=false)/\KeepsOthers W (w3.setCell (G p 0)<|S9 g3 ((Hh d pre).length+1) a)/\Qu p n0 W (w3.setCell (G p 0)<|S9 g3 ((Hh d pre).length+1) a)/\bQ w u p n0 E d (pre++[x]) (w3.setCell (G p 0)<|S9 g3 ((Hh d pre).length+1) a):=by
 have K:=n.size;have z2:=h2.size;have z3:W.heap.size<=w3.heap.size:=by have:=r.size;simp at this;omega
 have t:∀b,b<W.heap.size->v.ownBlock≠some b->w3.heap[b]?=W.heap[b]?:=λb hb H=>(r.block b ot λe=>H e.symm).trans<|(E1 _ _ _ om).trans<|h2.block b hb;have j:∀b,b<n0->v.ownBlock≠some b:=λb hb e=>oT (f.lt b e).1;have l:=hp.of_block<|t p hp.lt<|j p s;have I:=(World.ownsRow.lt h1 g3 rfl).1;have os:∀b,b≠p->(w3.setCell (G p 0)<|S9 g3 ((Hh d pre).length+1) a).heap[b]?=w3.heap[b]?:=λb hb=>At _ _ _ _ (by exact hb);have hk:Qu p n0 W<|w3.setCell (G p 0)<|S9 g3 ((Hh d pre).length+1) a:=⟨by simpa using z3,λb h1 A=>(os b A).trans<|t b om<|j b h1⟩;refine⟨⟨l.cell (i:=0) om,l.frozen 0⟩,?_,hk,S9 g3 ((Hh d pre).length+1) a,(l.set 0 _).congr λq hq=>by simp[show q=0 by omega],?_,n.trans hk,?_⟩
 .have B:KeepsOthers W w3:=⟨z3,λk o' h hc=>(t k (GC.1 h).1 (λe=>by
   obtain⟨c,hb⟩:=Rw.block f e;rw[hb]at h;cases h;cases hc)).trans h⟩
  exact B.trans<|Q2 _ _ _
 .rw[mN hs];have hl:(Hh d pre++[x.1]).length=(Hh d pre).length+1:=oq;rw[hl];refine CS ?_ (λq e=>os q (by
   have e':g3=q:=oS e;omega))
  rw[Ya]at h1;exact h1
 exact(((o9 g h2).alloc (oT g.size) _).grown r (by have:=g.size;simp;omega) λk e=>oT (f.lt k e).1).setCell (by show w.heap.size<=p;omega) _
def Fe(n:Nat):Nat:=if n=0 then 0 else Cz n
def Vt(h:n<=500):Fe n<=4000:=by
 grind [Fe,DI]
def P5(h:n<=500):4*n<=Fe n:=by
 unfold Fe;split
 .omega
 exact(DI h).1
def oZ(n0 bk p:Nat)(v:V9)(W:Y):Prop:=W.cell? (G n0 0)=some (Q9 bk)/\W.cell? (G p 0)=some v
def cF(n0 bk e:Nat)(k:Vl)(W:Y):Prop:=W.cell? (G n0 0)=some (Q9 bk)/\W.cell? (G e 0)=some (J k.kind)/\W.cell? (G e 1)=some (J k.num)/\W.cell? (G e 2)=some (F9 k.Ah)/\W.cell? (G e 3)=some (.string k.str)/\W.cell? (G e 4)=some (J k.ref)
def QB(x:Nat){w}(a:AL w bk r0 r1 R2 E S d)(f:x<=4194304):
  C9 195 #[.pointer (some<|G bk 2),J x] w λe w'=>((∃u,e=.returned u)/\AL w' bk r0 r1 w.heap.size E S {d with x:=x,X:=λ_=>0,used:=0})/\KX (λb=>b=bk) bk w w':=by
 rcases a.lt,a.c3,a.c4,a.fz 3,a.fz 4,J8 underlying239 Uz x f with⟨c,c3,c4,f3,f4,mk⟩;have g:Dw (w.alloc<|.cells (madeCells (Value.pointer none).cells x) Vy) w.heap.size x Vy λ_=>none:=Dw.fresh w x Vy;have hN:=((a.below<|(BE _ _).alloc (Be _)<|.cells (madeCells (Value.pointer none).cells x) Vy).iR ((g.own om f).congr λj hj=>by simp[DX]) (λj hj=>⟨λh=>absurd h<|Int.lt_irrefl 0,λh=>absurd h<|Int.lt_irrefl 0⟩) λj hj h=>absurd rfl h).Kg 0;rw[World.setCell_alloc_past _ _ _ _ c,World.setCell_alloc_past _ _ _ _ (by simpa using c)]at hN;have i:=O hN;have k:Hid<|∀o,KX (λb=>b=bk) bk w<|((w.setCell (G bk 3)<|S9 w.heap.size x x).setCell (G bk 4)<|J 0).alloc o:=O λo=>KX.alloc (n:=bk) (A:=w) (((KX.refl (λb=>b=bk) _ _).setCell (Be _) (λ_=>rfl) _).setCell (Be _) (λ_=>rfl) _) om _;clear a g hN;go_enter func195,ntmps195;go_wp2;go_end0;exact⟨⟨⟨_,rfl⟩,i⟩,k _⟩
def I0(b9:EJ T)(hf){bk}(ca:∀w w',T w->Below bk w w'->T w'){r0 r1}{R2}{E S}{d}(g){w:Y}(hT:T w)(hM:AL w bk r0 r1 R2 E S d)(hS:Small d)
  (hH:∀i,i<d.n->(d.L i).turn≠0->Qt T (d.L i).key (hf (d.L i).key)) (ad:(CQ d d.n).length+g<=500):
  C9 187 #[.pointer (some<|G bk 0),J g] w λe w'=>((∃u,e=.returned u)/\∃bq S',AL w' bk r0 r1 bq E S' (Em hf d (Fe<|(CQ d d.n).length+g)<|CQ d d.n)/\w.heap.size<=bq)/\KX (λb=>b=bk) bk w w':=by
 rcases Ok J4,hS.m,hS.n,hM.lt with⟨⟨i0,cc,cd,cg,ch⟩,br,da,c6⟩;refine(W0 (n:=20)).1 ?_;refine callsIn_of_wp_marks func187 rfl trivial ?_ rfl;simp only[ntmps187,Aaw,Aac,VC,Nat.reduceAdd,Nat.reduceSub,Aaf,Aae,Aax,Aam,Wx,Aau];rcases O hH,O ad,O hT with⟨HH,HL,HT⟩;clear hH ad hT;gi_wp2_with fail;refine⟨trivial,?_⟩;refine(W0.2<|Iv bk _).mono ?_;rintro e w4 ⟨rfl,rfl⟩;gi_wp2_with fail;obtain⟨u,hu⟩:=qa<|((w.alloc<|.cells #[.pointer (some<|G bk 0)] 215).alloc<|.cells #[N9] 238).alloc<|.cells #[.pointer (some<|G bk 0)] 215;try simp only[World.size_alloc]
 rw[<-hu];have zu:u.heap.size=w.heap.size+1+1+1:=by rw[hu];simp
 have bu:B9 w u:=by rw[hu];exact((n9).alloc oq _).alloc ot _
 obtain⟨a8,b0⟩:u.cell? (Z9 w 0)=some (.pointer<|some<|G bk 0)/\u.cell? (y w 0)=some (.pointer<|some<|G bk 0):=by rw[hu];simp[go_sem]
 have bb:u.rowIs (w.heap.size+1) 238 1 λ_=>N9:=by
  have h1:=World.rowIs_alloc (w.alloc<|.cells #[.pointer (some<|G bk 0)] 215) #[N9] 238 (λ_=>N9) (λi hi=>by
   have:i=0:=by simpa using hi
   subst this;rfl)
  rw[World.size_alloc]at h1;refine TO h1 ?_;rw[hu];exact E1 _ _ _ oq
 clear hu;have aw:=hM.below bu;obtain⟨R0,R1,Q⟩:=aw.book;have bc:=bb.cell (i:=0) om;have bt:0<d.n->R0<u.heap.size/\R0≠w.heap.size+1:=λh0=>⟨Q.l0,λe=>by
  have:=Q.r0 0 h0;rw[e,bc]at this;cases this⟩
 have ax:∀i,i<d.n->E i<u.heap.size/\E i≠w.heap.size+1:=λi hi=>⟨(Q.CH i hi).lt,λe=>by
  have:=(Q.CH i hi).k0;rw[e,bc]at this;cases this⟩
 obtain⟨Q1,k1,e1⟩:=aw.rf;have bw:u.cell? (G bk 1)=some (.slice (some<|G Q1 0) d.m k1):=by rw[aw.c1,e1]
 clear bc;refine wpIn_rangeFunc_ownF rfl oo (gf:=194) (lb:=#[.pointer (some<|G (w.heap.size+1+1) 0)]) rfl trivial (enters_of func194 ou rfl)
  (QI 19 oo (w.heap.size+1+1) (w.heap.size+1) u.heap.size Q hS bt ax a8) Qu.trans (Qu.put<|Be _) (BE _ _) (λ_=>rfl)
  (bQ w u (w.heap.size+1) u.heap.size E d)
  (λc pre W=>False)
  (bQ.own w u (w.heap.size+1) u.heap.size u.heap.size E d (Be _) (Be _) om)
  (λc _ _ _ _ h=>h.elim)
  ⟨N9,bb,IF _ _ _ _,Qu.refl _ _ _,bu⟩
  ?a1 ?assign ?body ?done ?stop
 case assign=>
  intro l x W K hK;gi_wp2;exact hK
 case stop=>
  rintro D c pre W hD c7 h hK;exact h.elim
 case body=>
  rintro l pre ⟨i,hi,ht⟩ W ⟨v,hp,s,t,X⟩ ad;have ai:=t.block (E i) (ax i hi).1 (ax i hi).2;obtain⟨dc,q0,q1,q2,q3,q4,_⟩:=(Q.CH i hi).keep t.size ai;have cb:W.cell? (y w 0)=some (.pointer<|some<|G bk 0):=(As (a:=y w 0)<|t.block w.heap.size om om).trans b0;have c1:W.cell? (G bk 1)=some (.slice (some<|G Q1 0) d.m k1):=(As (a:=G bk 1)<|t.block bk om om).trans bw;have zW:=t.size;have lW:w.heap.size<W.heap.size:=om;have lb:bk<W.heap.size:=om;rcases O s,O t,O X,O hp,hp.lt,O (rN pre) with⟨af,bx,ay,HP,cj,ck⟩;clear ai s t X hp a8;by_cases hs:AA d.m (d.L i).key
  .have bd:=O<|Al hs;have cl:=O<|rO (pre:=pre) (x:=⟨i,hi,ht⟩) hs;clear hs;gi_wp2_with fail;refine wpIn_region_quiet (C:=λw'=>B9 W w') ou ou ou ((BE _ _).drew) ?_;show wpQuiet _ _ _ _ [_,_,_,_,_,_,_,_,_,_,_,_] _;(iterate 10 refine N (h:=?_));refine GS λK hK=>?_;go_simp;apply Exists.intro;refine qp (λw' ag=>?_)<|hK _ ?_
   .refine((z bd)▸Cr (d.L i).key d.m _ br).mono ?_;rintro e cm ⟨rfl,hb⟩;exact⟨rfl,o9 ag hb⟩
   clear hK K;refine N (h:=?_);refine Hz ?_;intro w2 P;gi_wp2;exact bQ.below ⟨v,HP,af,bx,ay⟩ P cl om<|Be _
  have bd:=O<|Ag hs;have cn:=O hs;clear hs;gi_wp2_with fail;refine wpIn_region_quiet (C:=λw'=>B9 W w') ou ou ou ((BE _ _).drew) ?_;show wpQuiet _ _ _ _ [_,_,_,_,_,_,_,_,_,_,_,_] _;(iterate 10 refine N (h:=?_));refine GS λK hK=>?_;go_simp;apply Exists.intro;refine qp (λw' ag=>?_)<|hK _ ?_
  .refine((z bd)▸Cr (d.L i).key d.m _ br).mono ?_;rintro e cm ⟨rfl,hb⟩;exact⟨rfl,o9 ag hb⟩
  clear hK K;refine N (h:=?_);refine Hz ?_;intro w2 P;have x2:=o7 P cj<|HP.cell (i:=0) om;have av:Rw w2 u.heap.size DB v (Hh d pre).length<|eP E<|Hh d pre:=Dp af P.size λq _ hq=>P.block q hq;have z2:=P.size;have c8:w.heap.size+1<w2.heap.size:=om;have dd:=z ck;have bn:Hid<|∀(o:Obj) (v3:V9) (w3:Y),w3.ownsRow u.heap.size DB 1 v3 ((Hh d pre).length+1) (G8 (eP E<|Hh d pre) (Hh d pre).length++[.pointer (some (G (E i) 0))])->(w2.alloc o).grownBy w3 v.ownBlock->∃g3 I,v3=.slice (some<|G g3 0) ((Hh d pre).length+1) I/\(w3.cell? (Y9 w 0)=some v/\w3.frozen? (Y9 w 0)=false)/\KeepsOthers W (w3.setCell (Y9 w 0)<|.slice (some<|G g3 0) ((Hh d pre).length+1) I)/\Qu (w.heap.size+1) u.heap.size W (w3.setCell (Y9 w 0)<|.slice (some<|G g3 0) ((Hh d pre).length+1) I)/\bQ w u (w.heap.size+1) u.heap.size E d (pre++[⟨i,hi,ht⟩]) (w3.setCell (Y9 w 0)<|.slice (some<|G g3 0) ((Hh d pre).length+1) I):=O (λo v3 w3 A U=>by
   obtain⟨g3,I,rfl⟩:∃g3 I,v3=.slice (some<|G g3 0) ((Hh d pre).length+1) I:=by
    obtain⟨_,⟨_,h0⟩|⟨g,cap,cur,hv,_⟩⟩:=A
    .omega
    exact⟨g,cap,hv⟩
   exact⟨g3,I,rfl,bQ.add (x:=⟨i,hi,ht⟩) HP af bx ay P A U om (Be _) om cn⟩)
  clear P;gi_wp2_with (gi_at_builtin;refine wpListIn_append_own _ rfl _ _ 238 rfl u.heap.size DB i0 (.pointer none) 1 8 underlying238 cc cd cg ch rfl oo v (Hh d pre).length (G8 (eP E<|Hh d pre) (Hh d pre).length) rfl (NX av _) (y w2 0) 1 1 [.pointer (some (G (E i) 0))] rfl rfl (Is<|DO _ _) oh od om ot ?_;intro v3 w3 A U _;obtain⟨g3,I,rfl,⟨x3,f3⟩,cp⟩:=z bn _ v3 w3 A U;clear A U);exact cp
 case done=>
  rintro D ys W hD bz ⟨v,hp,s,t,X⟩ hK;have aj:ys.map (·.1)=A8 d d.n:=bz;rw[mL aj]at s;obtain⟨va,vc,rfl⟩:=s.slice;have x0:=hp.cell (i:=0) om;have zW:=t.size;have cb:W.cell? (y w 0)=some (.pointer<|some<|G bk 0):=(As (a:=y w 0)<|t.block w.heap.size om om).trans b0;have bf:=z HL;have ak:∀q∈CQ d d.n,q<d.n/\(d.L q).turn≠0/\¬AA d.m (d.L q).key:=λq hq=>PE hq;rcases O ak,hM.below X,O X,O s,Vt bf,P5 bf with⟨ae,cr,ay,af,df,dh⟩;have lW:w.heap.size<W.heap.size:=om;have ct:w.heap.size+1<W.heap.size:=om;have lb:bk<W.heap.size:=om;have ao:∀q,(Value.slice va (CQ d d.n).length vc).ownBlock=some q->u.heap.size<=q/\q<W.heap.size:=λq e=>s.lt q e;have c9:=O ao;generalize b1:CQ d d.n=H at*;have cu:=O b1;clear b1;have di:IntKind.i64.wrap ((H.length:Int)+(g:Int))=(H.length:Int)+(g:Int):=oj;clear bz aj hp s t X ak ao a8 b0 bw aw Q bb bt ax bu;have cv:Hid<|∀W',C9 196 #[J ((H.length:Int)+(g:Int))] W'<|R9 (J (Fe (H.length+g):Nat)) W':=O (λW'=>by
   have h1:=QC (H.length+g) W' bf;rw[Int.natCast_add]at h1;exact h1)
  gi_wp2_with fail
  refine Qn (oZ w.heap.size bk (w.heap.size+1)<|.slice va H.length vc) ou ?_;change wpAnyH _ _ _ _ _ _ _ _ (World.drew _);have bg:oZ w.heap.size bk (w.heap.size+1) (.slice va H.length vc) W.drew:=⟨cb,x0⟩;refine tz 0 (h:=tz 1 (h:=tz 2 (h:=tz 3 (h:=tz 4 (h:=tz 5 (h:=tz 6 (h:=?_)))))));refine ry 7 λK hK=>?_;go_simp;refine(cv _).mono ?_;rintro e w1 ⟨rfl,M⟩;have M:=(BE W.heap.size W).drew.trans M;have bh:=(M.cell lW).trans cb;have x1:=(M.cell ct).trans x0;refine hK.out _ _ ⟨bh,x1⟩ λcw=>?_;clear hK K bg;have z1:=M.size;generalize b2:Fe (H.length+g)=sx at*;have cx:=O b2;clear b2;refine ry 8 λK hK=>?_;go_simp;refine(QB sx (cr.below M) om).mono ?_;rintro e w2 ⟨⟨⟨uu,rfl⟩,cy⟩,Z⟩;have z2:=Z.C7.size;have bj:=(As (a:=y w 0)<|Z.BH w.heap.size om om).trans bh;have x2:=(As (a:=Y9 w 0)<|Z.BH (w.heap.size+1) om om).trans x1;refine hK.out _ _ ⟨bj,x2⟩ λcz=>?_;clear hK K cw bh x1 cb x0;refine FI ?_;have az:=((KX.Am ay om).trans<|KX.Am M om).trans Z;have aq:Hid<|∀b,b<W.heap.size->b≠bk->w2.heap[b]?=W.heap[b]?:=O λb hb cD=>(Z.BH b om cD).trans<|M.block b hb;have dj:D<W.heap.size:=(GC.1 hK).1;have cN:w2.heap[D]?=some (.deferred<|some []):=(aq D (GC.1 hK).1 om).trans hK;clear M Z cz hK;gi_wp2
  gi_loopw [38] (λi wr=>∃(j:Nat) (S':Nat->Nat),j<=H.length/\i=J (j:Int)/\AL wr bk r0 r1 w1.heap.size E S' (Em hf d sx<|H.take j)/\KX (λb=>b=bk\/b=w1.heap.size) bk w2 wr) λi _=>H.length-(intOf i).toNat
  case atStart=>exact⟨0,S,om,rfl,cy,KX.refl _ _ _⟩
  case round=>
   obtain⟨j,S',hj,rfl,ah,B⟩:=hrel;by_cases aM:j<H.length
   .obtain⟨p,hp⟩:=qa<|H[j];obtain⟨a6,b3,dk⟩:=z ae H[j]<|List.getElem_mem aM;rw[<-hp]at a6 b3;have f:=O3 (hf:=hf) (x:=sx) (l:=H.take j) ot λp hp=>(ae p<|List.mem_of_mem_take hp).1;rw[List.length_take,Nat.min_eq_left om]at f;have b4:Em hf d sx (H.take<|j+1)=AY hf (Em hf d sx<|H.take j) (d.L p).key p:=by rw[<-List.take_append_getElem aM,KP,<-hp]
    obtain⟨gq,cq,eq,g1,g2,_,b5,_⟩:=af.form om;cases eq;have hb:=λb (h:b<W.heap.size) (h':b≠bk)=>(B.BH b om<|by rintro(e|e)<;>omega).trans<|aq b h h';have rc:wr.cell? (G gq j)=some (.pointer<|some<|G (E p) 0):=(As (a:=G gq j)<|hb gq g2 om).trans (by rw[b5 j aM,hp];simp[eP,List.getD,aM]);have b6:wr.cell? (y w 0)=some (.pointer<|some<|G bk 0):=(As (a:=y w 0)<|B.BH w.heap.size om<|by rintro(e|e)<;>omega).trans bj;have R:=ah.CH p (by rw[f.n];exact a6);rw[f.L]at R;have dm:=B.C7.size;have ar:Hid<|C9 188 #[.pointer (some<|G bk 2),V (d.L p).key.kind (d.L p).key.num (d.L p).key.Ah (d.L p).key.str (d.L p).key.ref,.pointer (some<|G (E p) 0)] wr.drew λe w5=>(∃u,e=.returned u)/\(∃S5,AL w5 bk r0 r1 w1.heap.size E S5<|Em hf d sx<|H.take<|j+1)/\KX (λb=>b=bk\/b=w1.heap.size) bk w2 w5/\cF w.heap.size bk (E p) (d.L p).key w5:=O (by
     have dn:=f.use;have dp:=f.used;refine(Lz b9 p (HH p a6 b3) (ca _ _ HT ((az.C7.trans B.C7).drew)) (ah.below (BE _ _).drew) ⟨by rw[f.n];omega,by rw[f.m];omega,by rw[f.x];omega⟩ (λq hq=>by rw[f.x]at hq;have:=f.pos q hq;omega) (by rw[f.L]) (by rw[f.x];omega) om om).mono ?_;rintro e w5 ⟨⟨hu,a5,S5,c0,bm⟩,bp⟩;rw[<-Fy c0,<-b4]at bm;have a7:=B.trans (KX.trans ((KX.refl _ _ _).drew) bp);have au:=O3 (hf:=hf) (x:=sx) (l:=H.take (j+1)) ot (λp hp=>(ae p (List.mem_of_mem_take hp)).1);have F:=bm.CH p (by rw[au.n];exact a6);rw[au.L]at F;exact⟨hu,⟨S5,bm⟩,a7,(As (a:=(y w 0)) (a7.BH w.heap.size om (by rintro(e|e)<;>omega))).trans bj,F.k0,F.k1,F.k2,F.k3,F.k4⟩)
    have bg:cF w.heap.size bk (E p) (d.L p).key wr.drew:=⟨b6,R.k0,R.k1,R.k2,R.k3,R.k4⟩;clear f b4 b5 hb R ah B b6 hp;gi_wp2_with fail;refine Qn (cF w.heap.size bk (E p) (d.L p).key) ou ?_;change wpAnyH _ _ _ _ _ _ _ _ (World.drew _);refine tz 0 (h:=tz 1 (h:=tz 2 (h:=tz 3 (h:=tz 4 (h:=tz 5 (h:=tz 6 (h:=tz 7 (h:=tz 8 (h:=?_)))))))));refine ry 9 λK hK=>?_;go_simp;refine ar.mono ?_;rintro e w5 ⟨⟨dq,rfl⟩,⟨S5,c3⟩,a7,b7⟩;refine hK.out _ _ b7 λ_=>?_;clear hK K bg ar b7;refine FI ?_;gi_wp2;go_roundw
    .exact⟨j+1,S5,om,ov,c3,a7⟩
    exact ow
   have c4:j=H.length:=om;subst c4;rw[List.take_length]at ah;have b8:=(B.BH D om<|by rintro(e|e)<;>omega).trans cN;have c5:Hid<|KX (λb=>b=bk) bk w wr:=O ⟨az.C7.trans B.C7,λb hb hm=>(B.BH b (oT az.C7.size)<|by rintro(e|e);exact hm e;omega).trans<|az.BH b hb hm⟩;clear B;gi_wp2;refine⟨oq,.inl ⟨_,_,rfl,AaJ b8,?_⟩⟩;have hg:=MM wr D<|.deferred none;exact⟨_,AaE rfl _ _ _,⟨⟨_,rfl⟩,w1.heap.size,S',by rw[z cu,z cx];exact ah.grown hg (λr e=>by cases e;exact⟨_,b8,rfl⟩),om⟩,c5.grown hg om λk e=>by cases e;exact .inl om⟩
def BM.Yy{p}(h:w.heap[b]?=some (.cells (NH p i) 245 (0,0))):BM w b p i:=
 by constructor<;>first|exact(GC.1 h).1|exact h|simp[World.cell?,h,NH]
def BM.iQ{p}(h:BM w b p i)(j:Nat):BM (w.setCell (G b 11)<|J<|j) b p j:=
 BM.Yy ((IH w b 11 _ _ _ h.ob).trans<|by simp[NH])
structure Q6 (p n0:Nat) (E:Nat->Nat) (n:Nat) (A B:Y):Prop where
 size:A.heap.size<=B.heap.size
 block:∀b,b<n0->b≠p->(∀i,i<n->E i≠b)->B.heap[b]?=A.heap[b]?
 CH:∀i q,i<n->q≠11->B.cell? (G (E i) q)=A.cell? (G (E i) q)
def Q6.refl p n0 E n A:Q6 p n0 E n A A:=⟨Be _,λ_ _ _ _=>rfl,λ_ _ _ _=>rfl⟩
theorem Q6.trans(h:Q6 p n0 E n A B)(k:Q6 p n0 E n B C):Q6 p n0 E n A C:=⟨GO h.size k.size,λb h1 h2 h3=>(k.block b h1 h2 h3).trans<|h.block b h1 h2 h3,λi q h1 h2=>(k.CH i q h1 h2).trans<|h.CH i q h1 h2⟩
def Q6.Am(h:Below n0 A B)(a:∀i,i<n->E i<n0):Q6 p n0 E n A B:=⟨h.size,λb h1 _ _=>h.block b h1,λi q h1 _=>h.cell (p:=G (E i) q)<|a i h1⟩
def Q6.put(hn:n0<=w.heap.size)(a:∀i,i<n->E i<n0)W l o o'(hl:w.heap.size<=l)(h:W.heap[l]?=some o)(_:o.isCells=false)(_:o.isWalk=false):Q6 p n0 E n W<|W.putObj l o':=
 Q6.Am ((BE n0 W).grown (MM W l o') (oT (GC.1 h).1) λk e=>by cases e;omega) a
def QH(n)(hn:1<=n){bk r D R2}(B p n0){E S}{d}{w}(F:Kj w bk r D R2 E S d)(H:Small d)(I:0<d.n->r<n0/\r≠p/\∀i,i<d.n->E i≠r)
  (m0:w.cell? (G B 0)=some (Q9 bk)):
  SeqStopsK Fence.wide n prog 194 #[Q9 B] (λa=>#[Q9 (E a.1)]) (Q6 p n0 E d.n)
   (cK d) (TU d) d.n w:=λl Z T W C U K M P=>by
 have m0:=(C.cell<|I9 _ _ m0).trans m0;have g:=F.below C;obtain⟨a0,k0,c0,v⟩:=g.c0;have Q:=H.n;refine callsIn_of_wp func194 rfl trivial ?_ rfl;simp only[ntmps194,Aaw,Aac,VC,Nat.reduceAdd,Nat.reduceSub,Aaf,Aae,Aax,Aam,Wx,Aau];gi_wp2
 gi_loopw [10] (λi wr=>∃(k:Nat) (pre:List<|M4 d),k<=d.n/\i=J (k:Int)/\I6 d k pre/\Z pre wr/\Q6 p n0 E d.n W wr) λi _=>d.n-(intOf i).toNat
 case atStart=>exact⟨0,[],om,rfl,rfl,z<|O P,Q6.refl _ _ _ _ _⟩
 case round=>
  obtain⟨k,pre,hk,rfl,c,j,f⟩:=hrel;by_cases b:k<d.n
  .obtain rfl:=z (O v) om;have m:=I om;have V:=(As (a:=G r k)<|f.block _ m.1 m.2.1 m.2.2).trans<|g.r0 k b;have t0:=(f.CH k 10 b oo).trans (g.CH k b).tn;by_cases q:(d.L k).turn=0
   .have u:I6 d (k+1) pre:=by unfold I6;rw[Cm q];exact c
    rw[q]at t0;gi_wp2;refine⟨λ_ h=>(by cases h),?_⟩;gi_wp2;go_roundw
    .exact⟨k+1,pre,om,ov,u,j,f⟩
    exact ow
   have R:((d.L k).turn !=0)=true:=by simp[q]
   obtain⟨fn,tmps,assign,body,hy,o⟩:=z (O M) pre ⟨k,b,q⟩ wr j (by
    have h1:=congrArg List.length c;rw[AaR]at h1;have:=FW d k;omega)
   have u:Hid<|I6 d (k+1)<|pre++[⟨k,b,q⟩]:=O (by
    unfold I6;rw[Bs q,Aaj,show pre.map (·.1)=A8 d k from c];rfl)
   dsimp only at hy;gi_wp2;refine o.mono ?_;rintro e X (⟨rfl,x,A⟩|⟨rfl,s⟩)
   .clear hy o;gi_wp2;go_roundw
    .exact⟨k+1,_,om,ov,u,x,f.trans A⟩
    exact ow
   clear hy o;gi_wp2;refine Fs (AaE rfl _ _ _) rfl ?_;exact⟨⟨_,rfl⟩,.inr ⟨_,u.pre om,s⟩⟩
  have t:k=d.n:=om;subst t;gi_wp2;go_end0;exact⟨⟨_,rfl⟩,.inl ⟨pre,c,j⟩⟩
end
noncomputable def PW(hf:Vl->Nat)(d:Dc):Dc:=if(d.x:Int)<2*(d.used+1)then Em hf d (Fe<|(CQ d d.n).length+1) (CQ d d.n)else d
def Lf(e:Nat)(k:Vl)(W:Y):Prop:=W.cell? (G e 0)=some (J k.kind)/\W.cell? (G e 1)=some (J k.num)/\W.cell? (G e 2)=some (F9 k.Ah)/\W.cell? (G e 3)=some (.string k.str)/\W.cell? (G e 4)=some (J k.ref)
def OO(C:EJ T)(hf){bk}(D:∀w w',T w->Below bk w w'->T w'){r0 r1}{R2}{E S}{d}{w:Y}(hT:T w)(P:AL w bk r0 r1 R2 E S d)(hS:Small d)
  (hH:∀i,i<d.n->(d.L i).turn≠0->Qt T (d.L i).key (hf (d.L i).key)) (r:(CQ d d.n).length+1<=500) (s:BM w (E d.n) (d.L d.n) d.n) (ao:bk<E d.n) (hk:Qt T (d.L d.n).key<|hf (d.L d.n).key)
  (hX:∀j,j<d.x->d.X j=0\/d.X j=-1\/0<d.X j) (hu:(Cj d.X d.x:Int)=d.used):
  C9 174 #[.pointer (some<|G bk 0),.pointer (some<|G (E d.n) 0)] w λe w'=>((∃u,e=.returned u)/\∃A S',AL w' bk r0 r1 A E S'<|AY hf (PW hf d) (d.L d.n).key d.n)/\KX (λb=>b=bk\/b=R2) bk w w':=by
 rcases P.c3,P.c4,hS.x with⟨c3,c4,hx⟩;have aq:Cj d.X d.x<=d.x:=YV _ _;have ar:IntKind.i64.wrap (d.used+1)=d.used+1:=oj;have au:IntKind.i64.wrap (2*(d.used+1))=2*(d.used+1):=oj;obtain⟨c2,ad⟩:=P.slots.block (b:=R2) rfl;have av:E d.n≠R2:=λe=>BC (e▸s.ob) ad oo;have Q:∀(W:Y) (B:Nat) (I:Nat->Nat) (c:Dc),AL W bk r0 r1 B E I c->Small c->T W->BM W (E d.n) (d.L d.n) d.n->c.n=d.n->c.L=d.L->(∀j,j<c.x->c.X j=0\/c.X j=-1\/0<c.X j)->Cj c.X c.x<c.x->0<=c.used->c.used<=4194304->
   C9 188 #[.pointer (some<|G bk 2),V (d.L d.n).key.kind (d.L d.n).key.num (d.L d.n).key.Ah (d.L d.n).key.str (d.L d.n).key.ref,.pointer (some<|G (E d.n) 0)] W λe w'=>((∃u,e=.returned u)/\∃S',AL w' bk r0 r1 B E S'<|AY hf c (d.L d.n).key d.n)/\KX (λb=>b=bk\/b=B) bk W w':=λW B I c h1 h2 h3 h4 h5 h6 h7 h8 h9 ae=>by
  refine(Lz C d.n hk h3 h1 h2 h7 (by rw[h6]) h8 h9 ae).mono ?_;rintro e w' ⟨⟨M,a,S',af,hN⟩,ag⟩;refine⟨⟨M,S',?_⟩,ag⟩;rw[Fy af];exact hN
 by_cases M:(d.x:Int)<2*(d.used+1)
 .have hd:decide ((d.x:Int)<2*(d.used+1))=true:=by simpa using M
  have HR:Hid<|PW hf d=Em hf d (Fe<|(CQ d d.n).length+1) (CQ d d.n):=O<|DD M;have aw:=Vt r;have ax:=P5 r;have ah:=O3 (hf:=hf) (x:=Fe<|(CQ d d.n).length+1) (l:=CQ d d.n) om λp hp=>(PE hp).1;have R:Hid<|∀W,B9 w W->C9 187 #[.pointer (some<|G bk 0),J 1] W λe w'=>((∃u,e=.returned u)/\∃A S',AL w' bk r0 r1 A E S' (Em hf d (Fe<|(CQ d d.n).length+1)<|CQ d d.n)/\W.heap.size<=A)/\KX (λb=>b=bk) bk W w':=O λW hW=>I0 C hf D 1 (C _ _ hT hW) (P.below hW) hS hH r;generalize Em hf d (Fe<|(CQ d d.n).length+1) (CQ d d.n)=c at*;have ai:=s.lt;go_enter func174,ntmps174;go_wp2_with fail
  go_region
  go_wp2_with fail
  refine(R _ (BE _ _).drew).mono ?_;rintro e w1 ⟨⟨⟨uu,rfl⟩,B,S1,aj,U⟩,f⟩;have f:=(KX.refl _ _ _).drew.trans f;have U:w.heap.size<=B:=U;have z1:=f.C7.size;have q:=s.keep z1<|f.BH _ ai om;have F:Lf (E d.n) (d.L d.n).key w1.drew:=⟨q.k0,q.k1,q.k2,q.k3,q.k4⟩;have g:Hid<|C9 188 #[.pointer (some<|G bk 2),V (d.L d.n).key.kind (d.L d.n).key.num (d.L d.n).key.Ah (d.L d.n).key.str (d.L d.n).key.ref,.pointer (some<|G (E d.n) 0)] w1.drew λe w'=>((∃u,e=.returned u)/\∃S',AL w' bk r0 r1 B E S'<|AY hf c (d.L d.n).key d.n)/\Lf (E d.n) (d.L d.n).key w'/\KX (λb=>b=bk\/b=R2) bk w w':=O (by
   have o:=ah;have ay:=o.use;have az:=o.used;have Z:=hS;refine(z (O Q) w1.drew B S1 c (aj.below (BE _ _).drew) ⟨by rw[o.n];exact Z.n,by rw[o.m];exact Z.m,by rw[o.x];omega⟩ (D _ _ (z (O hT)) f.C7.drew) (q.keep (Be _) rfl) o.n o.L (λj hj=>by rw[o.x]at hj;have:=o.pos j hj;omega) (by rw[o.x];omega) om om).mono ?_;rintro e w' ⟨h1,h2⟩;have h3:=h2.BH (E d.n) q.lt (by rintro(e|e)<;>omega);have k:=q.keep h2.C7.size h3;exact⟨h1,⟨k.k0,k.k1,k.k2,k.k3,k.k4⟩,f.C7.trans (Below.trans (BE _ _).drew h2.C7),λb hb hm=>(h2.BH b (by show b<w1.heap.size;omega) (by rintro(e|e);exact hm (.inl e);omega)).trans (f.BH b hb (λe=>hm (.inl e)))⟩)
  go_wp2_with fail
  refine Hx (Lf (E d.n) (d.L d.n).key) ?_;refine tz 0 (h:=tz 1 (h:=tz 2 (h:=tz 3 (h:=tz 4 (h:=tz 5 (h:=tz 6 (h:=tz 7 (h:=tz 8 (h:=?_)))))))));refine ry 9 λK hK=>?_;go_simp;refine g.mono ?_;rintro e w2 ⟨⟨⟨ak,rfl⟩,I,H⟩,t,v⟩;refine hK.out _ _ t λ_=>?_;clear hK K F g t;refine FI ?_;go_wp2;go_end0;exact⟨⟨⟨_,rfl⟩,B,I,by rw[z HR];exact H⟩,v⟩
 have hd:decide ((d.x:Int)<2*(d.used+1))=false:=by simpa using M
 have HR:Hid<|PW hf d=d:=O<|C3 M;have F:Lf (E d.n) (d.L d.n).key w.drew.drew:=⟨s.k0,s.k1,s.k2,s.k3,s.k4⟩;have g:Hid<|C9 188 #[.pointer (some<|G bk 2),V (d.L d.n).key.kind (d.L d.n).key.num (d.L d.n).key.Ah (d.L d.n).key.str (d.L d.n).key.ref,.pointer (some<|G (E d.n) 0)] w.drew.drew λe w'=>((∃u,e=.returned u)/\∃S',AL w' bk r0 r1 R2 E S'<|AY hf d (d.L d.n).key d.n)/\Lf (E d.n) (d.L d.n).key w'/\KX (λb=>b=bk\/b=R2) bk w w':=O (by
  refine(Q w.drew.drew R2 S d (P.below (BE _ _).drew.drew) hS (D _ _ hT (BE _ _).drew.drew) (s.keep (Be _) rfl) rfl rfl hX om om om).mono ?_;rintro e w' ⟨h1,h2⟩;have h3:=h2.BH (E d.n) s.lt (by rintro(e|e)<;>omega);have k:=s.keep h2.C7.size h3;exact⟨h1,⟨k.k0,k.k1,k.k2,k.k3,k.k4⟩,KX.trans ((KX.refl _ _ _).drew.drew) h2⟩)
 go_enter func174,ntmps174;go_wp2_with fail
 go_region
 go_wp2_with fail
 refine Hx (Lf (E d.n) (d.L d.n).key) ?_;refine tz 0 (h:=tz 1 (h:=tz 2 (h:=tz 3 (h:=tz 4 (h:=tz 5 (h:=tz 6 (h:=tz 7 (h:=tz 8 (h:=?_)))))))));refine ry 9 λK hK=>?_;go_simp;refine g.mono ?_;rintro e w2 ⟨⟨⟨ak,rfl⟩,I,H⟩,t,v⟩;refine hK.out _ _ t λ_=>?_;clear hK K F g t;refine FI ?_;go_wp2;go_end0;exact⟨⟨⟨_,rfl⟩,R2,I,by rw[z HR];exact H⟩,v⟩
section
variable {w w3:Y} {bk:Nat} {r0 r1:V9} {R2:Nat} {E S:Nat->Nat} {d:Dc}
def AL.pV(h:AL w bk r0 r1 R2 E S d){W:Y}(r:B9 w W){o:Obj}{g3 f}{x}{a}(H:a=CY E x)(h1:w3.ownsRow (bk+1) DB 1 (S9 g3 (d.m+1) f) (d.m+1)<|G8 (λi=>CY E<|d.I i) d.m++[.pointer a])(s:W.grownBy w3 r1.ownBlock)(hl:r1.ownBlock=some g3\/w.heap.size<=g3):
  AL (w3.setCell (G bk 1)<|S9 g3 (d.m+1) f) bk r0 (S9 g3 (d.m+1) f) R2 E S {d with m:=d.m+1,I:=AW d.I d.m x}/\KX (λb=>b=bk\/r1.ownBlock=some b) bk w (w3.setCell (G bk 1)<|S9 g3 (d.m+1) f):=by
 have g:=h.lt;have u:=r.size;have hz:=GO u s.size;have l:∀b,b<w.heap.size->r1.ownBlock≠some b->w3.heap[b]?=w.heap[b]?:=λb hb B=>(s.block b om λe=>B e.symm).trans<|r.block b hb;have p:r1.ownBlock≠some bk:=λe=>oT (h.ints.lt bk e).1;have os:∀b,b≠bk->(w3.setCell (G bk 1)<|S9 g3 (d.m+1) f).heap[b]?=w3.heap[b]?:=λb hb=>At _ _ _ _ (by exact hb);have hc:∀q,w3.cell? (G bk q)=w.cell? (G bk q):=λq=>As (a:=G bk q)<|l bk g p;have n:∀q,q≠1->(w3.setCell (G bk 1)<|S9 g3 (d.m+1) f).cell? (G bk q)=w.cell? (G bk q):=λq hq=>(Aa λe=>hq e.symm).trans<|hc q;have ty:∀{t:TypeId} {c:Array Value} {b:Nat},w.heap[b]?=some (.cells c t (0,0))->t≠DB->r1.ownBlock≠some b:=λ{t c b} hb C e=>by
  obtain⟨c',v⟩:=h.ints.block e;exact BC hb v C
 have D:=(World.ownsRow.lt h1 g3 rfl).1;refine⟨⟨by simpa using A0 g hz,(n 0 oo).trans h.c0,ID _ _ _<|by rw[hc,h.c1];rfl,(n 2 oo).trans h.c2,(n 3 oo).trans h.c3,(n 4 oo).trans h.c4,(n 5 oo).trans h.c5,(n 6 oo).trans h.c6,λq=>by rw[PC];exact(GW (a:=G bk q)<|l bk g p).trans (h.fz q),?_,?_,⟨_,_,rfl⟩,?_,?_,λi hi=>?_,h.eb,h.inj,λj hj=>?_,h.sg⟩,?_⟩
 .exact CS h.log λq e=>(os q<|oT (h.log.lt q e).1).trans<|l q (h.log.lt q e).2 λe'=>h.ap q e e'
 .have h2:(w3.setCell (G bk 1)<|S9 g3 (d.m+1) f).ownsRow (bk+1) DB 1 (S9 g3 (d.m+1) f) (d.m+1)<|G8 (λi=>CY E<|d.I i) d.m++[.pointer a]:=CS h1 (λq e=>os q (by
   have e':g3=q:=oS e;omega))
  grind [CY,G8,AW,Ve,Rw.congr,Ax,Ao]
 .exact CS h.slots (λq e=>by
   obtain⟨c,hb⟩:=h.slots.block e;exact(os q (oT (h.slots.lt q e).1)).trans (l q (h.slots.lt q e).2 (ty hb oo)))
 .intro q e e';have e2:g3=q:=oS e';subst e2;rcases hl with hl|hl
  .exact h.ap g3 e hl
  have:=(h.log.lt g3 e).2;omega
 .exact(h.CH i hi).keep (by simpa using hz) ((os _<|oT<|h.eb i hi).trans<|l _ (h.CH i hi).lt<|ty (h.CH i hi).ob oo)
 .by_cases F:d.X j=0
  .exact⟨λhp=>absurd hp<|by show¬0<d.X j;omega,λhp=>absurd hp<|by show¬d.X j<0;omega⟩
  exact DY.keep (d:={d with m:=d.m+1,I:=AW d.I d.m x}) (w:=w) (h.sl j hj) (by simpa using hz) λc hc=>(os _<|oT<|h.sg j hj F).trans<|l _ (GC.1 hc).1<|ty hc oo
 refine⟨((r.mono om).grown s om λk e=>oT (h.ints.lt k e).1).setCell (by exact Be _) _,λb hb A=>(os b λe=>A<|.inl e).trans<|l b hb λe=>A<|.inr e⟩
end
def nT:∀(f a),probe {c with n:=n} v a f=probe c v a f:=by
 intro f
 induction f with
 |zero=>intro a;rfl
 |succ f ih=>intro a;unfold probe;rw[ih]
def jB c n v a:A1 {c with n:=n} v a=A1 c v a:=by
 unfold A1;show _=_;simp only[nT]
def D4.cut(h:BW K hf c)(hn:c.n=n+1)(hs:AA c.m (c.L n).key):D4 {c with n:=n}:=by
 obtain⟨h1,h2,h3,h4⟩:=h.d4;refine⟨h1,λj hj=>?_,?_,?_⟩
 .rcases h.idx.range j hj with e|e|⟨e1,e2,e3,a⟩
  .exact .inl e
  .exact .inr (.inl e)
  have b:(c.X j-1).toNat≠n:=λe=>a (by rw[e];exact hs);exact .inr<|.inr ⟨e1,by show c.X j<=(n:Int);omega,e3,a⟩
 all_goals grind [AA,D4,FH]
def cG(bk R2 x s b e:Nat)(W:Y):Prop:=W.cell? (G bk 3)=some (S9 R2 x x)/\W.cell? (G R2 s)=some (Q9 b)/\W.cell? (G b 5)=some (Q9 e)
def Jn s{w}(a:AL w bk r0 r1 R2 E S d)(c:Small d)(hs:s<d.x):
  C9 169 #[.pointer (some<|G bk 2),J s] w λe w'=>((∃u,e=.returned u)/\∃S',AL w' bk r0 r1 R2 E S' {d with X:=AW d.X s (-1)})/\KX (λb=>b=R2) bk w w':=by
 rcases c.x,a.lt,a.c3,a.PS with⟨m,i,c3,f⟩;have j:=f.2;obtain⟨g,cp,e,_,_,_,hc,hf⟩:=a.slots.form om;cases e;have d0:=hc s hs;have f0:=hf s;have k:=O<|a.PR hs (x:=-1) oo ⟨λh=>om,λ_=>rfl⟩;have l:Hid<|KX (λb=>b=R2) bk w<|(w.setCell (G R2 s)<|Q9 w.heap.size).alloc<|.cells Yi 248:=O<|KX.alloc (n:=bk) (A:=w) ((KX.refl (λb=>b=R2) _ _).setCell om (λ_=>rfl) _) om _;clear a c hc hf f;go_enter func169,ntmps169;go_wp2;go_end0;exact⟨⟨⟨_,rfl⟩,_,k⟩,l⟩
structure bR (K:Vl->Prop) (hf:Vl->Nat) (w:Y) (bk:Nat) (r0 r1:V9) (R2:Nat) (E:Nat->Nat) (d D1:Dc) (c:Dc) (f:Nat) (a:V9) (S:Nat->Nat) (W:Y):Prop where
 inv:BW K hf c
 n:c.n=d.n+1
 L:c.L=d.L
 x:c.x=d.x
 m:d.m+1<=c.m
 pos:FX c.X c.x<f
 mv:Cy hf f c=Cy hf (d.x+1) D1
 sum:c.m+FX c.X c.x<=d.m+1+d.x
 bm:AL W bk r0 a R2 E S {c with n:=d.n}
 kx:KX (λb=>b=bk\/r1.ownBlock=some b\/b=R2) bk w W
 row:∀b,a.ownBlock=some b->r1.ownBlock=some b\/w.heap.size<=b
def bR.below{D1}{f}{a}(h:bR K hf w bk r0 r1 R2 E d D1 c f a S W)(hb:B9 W W')(b:bk<w.heap.size):bR K hf w bk r0 r1 R2 E d D1 c f a S W':=
 ⟨h.inv,h.n,h.L,h.x,h.m,h.pos,h.mv,h.sum,h.bm.below hb,h.kx.trans<|KX.Am hb<|oT h.bm.lt,h.row⟩
def bR.step(p:KeyLaw K hf){w}{bk}{r0 r1}{R2}{E}{d D1 c}{f}{a g}{S S'}{W k j}{s}(h:bR K hf w bk r0 r1 R2 E d D1 c f a S W)(e:A1 c (CM<|(c.m:Int)+1) (hf<|CM<|(c.m:Int)+1)=some s)
  (k1:KX (λb=>b=bk\/a.ownBlock=some b) bk W k) (u:∀b,g.ownBlock=some b->a.ownBlock=some b\/W.heap.size<=b) (k2:KX (λb=>b=R2) bk k j) (q:AL j bk r0 g R2 E S' {c with m:=c.m+1,I:=AW c.I c.m (c.X s),X:=AW c.X s (-1),n:=d.n}) (r:bk<w.heap.size):∃f',bR K hf w bk r0 r1 R2 E d D1 (DW c s) f' g S' j:=by
 obtain⟨s1,s2,v,A⟩:=h.inv.slot e;obtain⟨f',rfl⟩:∃f',f=f'+1:=⟨f-1,oT h.pos⟩;have hp:=K4 s2 c.x;rw[DD s1]at hp;rcases h.pos,h.sum,h.m,h.kx.C7.size,k1.C7.size with⟨l,o,B,hz,t⟩;refine⟨f',ML p h.inv e,h.n,h.L,h.x,by show d.m+1<=c.m+1;omega,by show FX (AW c.X s (-1)) c.x<f';omega,by rw[<-h.mv,Gk e],by show c.m+1+FX (AW c.X s (-1)) c.x<=_;omega,q,⟨h.kx.C7.trans<|k1.C7.trans k2.C7,λb hb i=>?_⟩,λb hb=>?_⟩
 .refine(k2.BH b om λe=>i<|.inr<|.inr e).trans ((k1.BH b om λe=>?_).trans<|h.kx.BH b hb i);grind [A1,CM,AW,DW,bR.row,AL.row]
 grind [A1,CM,AW,DW,bR.row,AL.row]
def OM(T)(b0:EJ T)(hf)(K)(KL:KeyLaw K hf)(b1:∀v,K v->Qt T v (hf v))(bk)(b2:∀w w',T w->Below bk w w'->T w')(r0 r1)(R2)(E S)(d)(w)(hT:T w)(hM:AL w bk r0 r1 R2 E S d)(hS:Small d)(cg:d.m<=4000000)
  (b3:(d.L d.n).key.kind=2) (DM:(d.L d.n).key.num=(d.m:Int)+1) (hI:BW K hf {d with n:=d.n+1,m:=d.m+1,I:=AW d.I d.m ((d.n:Int)+1)}):
  C9 173 #[.pointer (some<|G bk 0),.pointer (some<|G (E d.n) 0)] w λe w'=>((∃u,e=.returned u)/\∃b4 S',AL w' bk r0 b4 R2 E S' {Cy hf (d.x+1) {d with n:=d.n+1,m:=d.m+1,I:=AW d.I d.m ((d.n:Int)+1)}with n:=d.n})/\KX (λb=>b=bk\/r1.ownBlock=some b\/b=R2) bk w w':=by
 obtain⟨i0,a6,a7,a8,bb⟩:=Ok J4;obtain⟨D1,C⟩:∃D1:Dc,D1={d with n:=d.n+1,m:=d.m+1,I:=AW d.I d.m ((d.n:Int)+1)}:=⟨_,rfl⟩;rw[<-C]at hI ⊢;have ch:d.x<=4000:=by
  have:=hI.sz;rw[C]at this;rcases this with h|h
  .have h:d.x=0:=h;omega
  exact h.2.1
 obtain⟨Q1,q1,rfl⟩:=hM.rf;rcases hM.lt,hM.c1,hM.fz 1,O hM.ints,(hM.ints.lt Q1 rfl).1 with⟨ar,c1,f1,bg,cj⟩;have aw:∀(W:Y) (c:Dc) (f:Nat) (Q:V9) (S':Nat->Nat),bR K hf w bk r0 (.slice (some<|G Q1 0) d.m q1) R2 E d D1 c f Q S' W->(∀w',B9 W w'->C9 172 #[.pointer (some<|G bk 0)] w' λe bc=>e=.returned (V 2 ((c.m:Int)+1) 0 ⟨#[]⟩ 0)/\B9 w' bc)/\
   (∀w',B9 W w'->C9 158 #[.pointer (some<|G bk 2),V 2 ((c.m:Int)+1) 0 ⟨#[]⟩ 0] w' λe bc=>e=.returned (J<|FR<|A1 c (CM<|(c.m:Int)+1)<|hf<|CM<|(c.m:Int)+1)/\B9 w' bc):=λW c f Q S' h=>by
  have bh:Small {c with n:=d.n}:=⟨hS.n,by show c.m<=_;have:=h.sum;omega,by show c.x<=_;rw[h.x];omega⟩;refine⟨λw' j=>?_,λw' j=>?_⟩
  .obtain⟨R0,D,hB⟩:=(h.bm.below j).book;exact Js bk R0 D R2 E S' {c with n:=d.n} w' hB bh
  obtain⟨R0,D,hB⟩:=(h.bm.below j).book;have h4:=D4.cut h.inv h.n ⟨by rw[h.L];exact b3,by rw[h.L,DM];omega,by rw[h.L,DM];have:=h.m;omega⟩;have:=O4 T b0 bk R0 D R2 E S' {c with n:=d.n} (CM<|(c.m:Int)+1) (hf<|CM<|(c.m:Int)+1) (b1 _<|KL.own _) w' (b2 _ _ hT<|h.kx.C7.trans<|j.mono<|oT h.bm.lt) hB bh h4;rw[jB]at this;exact this
 have t:=O aw;have START:∀(o:Obj) (g3 g:Nat) (w3:Y),w3.ownsRow (bk+1) DB 1 (.slice (some<|G g3 0) (d.m+1) g) (d.m+1) (G8 (λi=>CY E<|d.I i) d.m++[.pointer (some (G (E d.n) 0))])->(w.alloc o).grownBy w3 (Value.slice (some<|G Q1 0) d.m q1).ownBlock->((Value.slice (some<|G Q1 0) d.m q1).ownBlock=some g3\/g3=w.heap.size+1)->
   w3.cell? (G bk 1)=some (.slice (some<|G Q1 0) d.m q1)/\w3.frozen? (G bk 1)=false/\bk<w3.heap.size/\bR K hf w bk r0 (.slice (some<|G Q1 0) d.m q1) R2 E d D1 D1 (d.x+1) (.slice (some<|G g3 0) (d.m+1) g) S (w3.setCell (G bk 1)<|.slice (some<|G g3 0) (d.m+1) g):=λo g3 g w3 h1 h2 h3=>by
  have hn:(Value.slice (some<|G Q1 0) d.m q1).ownBlock≠some bk:=λe=>by
   have e':Q1=bk:=oS e;omega
  have hb:=(h2.block bk ot λe=>hn e.symm).trans<|E1 _ _ _ ar;obtain⟨p1,p2⟩:=hM.pV ((BE _ _).alloc (Be _) o) (o:=o) (x:=(d.n:Int)+1) (by unfold CY;rw[DD om,show((d.n:Int)+1-1).toNat=d.n by omega]) h1 h2 (by rcases h3 with h3|h3;exact .inl h3;exact .inr om);have hz:w.heap.size+1<=w3.heap.size:=by have:=h2.size;simpa using this
  refine⟨(As (a:=G bk 1) hb).trans c1,(GW (a:=G bk 1) hb).trans f1,om,hI,by rw[C],by rw[C],by rw[C],by rw[C];exact Be _,?_,rfl,?_,?_,p2.mono λb _ e=>e.elim .inl λe=>.inr<|.inl e,λb e=>?_⟩
  .rw[C];have:=Od d.X d.x;show FX d.X d.x<d.x+1;omega
  .rw[C];have:=Od d.X d.x;show d.m+1+FX d.X d.x<=d.m+1+d.x;omega
  .rw[C];exact p1
  rcases h3 with h3|h3
  .have e':g3=b:=oS e;rw[<-e'];exact .inl h3
  have e':g3=b:=oS e;exact .inr om
 have aq:=O START;clear hM hT START aw hI C;go_enter func173,ntmps173;go_wp2_with (at_builtin;refine ON _ rfl _ _ 238 rfl (bk+1) DB i0 (.pointer none) 1 8 underlying238 a6 a7 a8 bb rfl oo (.slice (some<|G Q1 0) d.m q1) d.m (G8 (λi=>CY E<|d.I i) d.m) rfl (NX bg _) (y w 0) 1 1 [.pointer (some (G (E d.n) 0))] rfl rfl (Is<|DO _ _) oh oo od om ot (w.heap.size+1) oq ?_;intro g3 g w3 k A l ah;obtain⟨x3,f3,l3,bj⟩:=z aq _ g3 g w3 k A l;have F:=O bj;clear k A l bj);generalize hW:w3.setCell (G bk 1) (.slice (some<|G g3 0) (d.m+1) g)=W at*;have b5:bk<W.heap.size:=by rw[<-hW];simpa using l3
 have M:=O<|(t _ _ _ _ _ F).1;have P:=O<|(t _ _ _ _ _ F).2;clear hW x3 f3 l3 c1 f1 ah;refine qr W ?_;(iterate 4 refine N (h:=?_));refine GS λK hK=>?_;go_simp;refine⟨_,λw' j=>qk j<|M _ j,hK _ ?_⟩;clear hK K;refine GS λK hK=>?_;go_simp;refine⟨_,λw' j=>qk j<|P _ j,hK _ ?_⟩;clear hK K;refine N (h:=?_);refine Hz ?_;intro w4 bn;have bp:=F.below bn ar;clear bn M P F b5;go_wp2_with fail;go_loopw [4] (λi wr=>∃(c:Dc) (f:Nat) (Q:V9) (S':Nat->Nat),i=J (FR<|A1 c (CM<|(c.m:Int)+1)<|hf<|CM<|(c.m:Int)+1)/\bR K hf w bk r0 (.slice (some<|G Q1 0) d.m q1) R2 E d D1 c f Q S' wr) λ_ wr=>d.m+2+d.x-QF wr bk 1
 .exact⟨D1,d.x+1,_,S,rfl,bp⟩
 clear bp;obtain⟨c,f,Q,S',rfl,hN⟩:=hrel;cases au:A1 c (CM<|(c.m:Int)+1) (hf<|CM<|(c.m:Int)+1)with
 |none=>
  have HR:Hid<|{Cy hf (d.x+1) D1 with n:=d.n}={c with n:=d.n}:=O (by rw[<-hN.mv,Gj au]);clear au;rw[show FR none=-1 from rfl];go_wp2;go_end0;exact⟨⟨⟨_,rfl⟩,Q,S',by rw[z HR];exact hN.bm⟩,hN.kx⟩
 |some s=>
  obtain⟨s1,s2,s3,s4⟩:=hN.inv.slot au;obtain⟨D,k1,e1⟩:=hN.bm.rf;have e1:Q=.slice (some<|G D 0) c.m k1:=e1;subst e1;have r:=hN.bm;have bq:=r.c1;have b6:=r.fz 1;have bd:wr.cell? (G bk 3)=some (.slice (some<|G R2 0) c.x c.x):=r.c3;rcases r.lt,N6 bq,r.ints.lt D rfl,r.PS with⟨av,az,b7,br⟩;obtain⟨_,_,es,_,_,_,bt,_⟩:=r.slots.form (by show 0<c.x;omega);cases es;rcases (bt s s1).trans (by show some (Value.pointer<|DX S' s<|c.X s)=_;rw[show DX S' s (c.X s)=some (G (S' s) 0)from C3 om]),(r.sl s s1).1 s2,qa ((c.X s-1).toNat) with⟨p0,ax,⟨q,hq⟩⟩;have ad:IW wr (S' s) (c.L q).key<|E q:=by rw[hq];exact ax
  have p5:=ad.pt;have bf:=ad.lt;rcases r.sg s s1 (by show c.X s≠0;omega),r.ints.block (b:=D) rfl,r.slots.block (b:=R2) rfl with⟨ck,⟨cl,ai⟩,⟨cm,ay⟩⟩;have n1:D≠R2:=λe=>BC (e▸ai) ay oo;have n2:D≠S' s:=λe=>BC (e▸ai) ad.ob oo;rcases br.2,hN.sum,hN.x with⟨aj,cd,b8⟩;have bu:Rw wr.drew (bk+1) DB (.slice (some<|G D 0) c.m k1) c.m λi=>CY E<|c.I i:=CS r.ints λ_ _=>rfl;have R:cG bk R2 c.x s (S' s) (E q) wr.drew:=⟨bd,p0,p5⟩;have ae:Hid (∀(o:Obj) (g3 g:Nat) (w3:Y),w3.ownsRow (bk+1) DB 1 (.slice (some<|G g3 0) (c.m+1) g) (c.m+1) (G8 (λi=>CY E<|c.I i) c.m++[.pointer (some (G (E q) 0))])->(wr.drew.alloc o).grownBy w3 (Value.slice (some<|G D 0) c.m k1).ownBlock->((Value.slice (some<|G D 0) c.m k1).ownBlock=some g3\/g3=(wr.drew.alloc o).heap.size)->
    cG bk R2 c.x s (S' s) (E q) w3/\w3.cell? (G bk 1)=some (.slice (some (G D 0)) c.m k1)/\w3.frozen? (G bk 1)=false/\bk<w3.heap.size/\(AL (w3.setCell (G bk 1) (.slice (some (G g3 0)) (c.m+1) g)) bk r0 (.slice (some (G g3 0)) (c.m+1) g) R2 E S' {c with n:=d.n,m:=c.m+1,I:=AW c.I c.m (c.X s)}/\KX (λb=>b=bk\/(Value.slice (some (G D 0)) c.m k1).ownBlock=some b) bk wr (w3.setCell (G bk 1) (.slice (some (G g3 0)) (c.m+1) g))/\∀b,(Value.slice (some (G g3 0)) (c.m+1) g).ownBlock=some b->(Value.slice (some (G D 0)) c.m k1).ownBlock=some b\/wr.heap.size<=b)):=O (λo g3 g w3 h1 h2 h3=>by
   have hB:∀b,b<wr.heap.size->D≠b->w3.heap[b]?=wr.heap[b]?:=λb hb b9=>(h2.block b ot (λe=>b9 (by
    have e':b=D:=oS e;exact e'.symm))).trans (E1 _ _ _ hb)
   have hz:wr.heap.size+1<=w3.heap.size:=by have:=h2.size;simpa using this
   obtain⟨p1,p2⟩:=r.pV ((BE _ _).drew.alloc (Be _) o) (o:=o) (x:=c.X s) (a:=some<|G (E q) 0) (by unfold CY;rw[DD s2,hq]) h1 h2 (by rcases h3 with h3|h3;exact .inl h3;exact .inr<|by rw[h3];simp);refine⟨⟨(As (a:=G bk 3)<|hB bk av om).trans bd,(As (a:=G R2 s)<|hB R2 aj n1).trans p0,(As (a:=G (S' s) 5)<|hB _ bf n2).trans p5⟩,(As (a:=G bk 1)<|hB bk av om).trans bq,(GW (a:=G bk 1)<|hB bk av om).trans b6,om,p1,p2,λb e=>?_⟩;have e':g3=b:=oS e;rcases h3 with h3|h3
   .rw[<-e'];exact .inl h3
   exact .inr (by rw[<-e',h3];simp))
  have af:Hid (∀(g3 g:Nat) (w3:Y),(AL (w3.setCell (G bk 1)<|.slice (some<|G g3 0) (c.m+1) g) bk r0 (.slice (some<|G g3 0) (c.m+1) g) R2 E S' {c with n:=d.n,m:=c.m+1,I:=AW c.I c.m (c.X s)}/\KX (λb=>b=bk\/(Value.slice (some<|G D 0) c.m k1).ownBlock=some b) bk wr (w3.setCell (G bk 1)<|.slice (some<|G g3 0) (c.m+1) g)/\∀b,(Value.slice (some<|G g3 0) (c.m+1) g).ownBlock=some b->(Value.slice (some<|G D 0) c.m k1).ownBlock=some b\/wr.heap.size<=b)->
    C9 169 #[.pointer (some (G bk 2)),J (s:Int)] (w3.setCell (G bk 1) (.slice (some (G g3 0)) (c.m+1) g)) λe w6=>(∃u,e=.returned u)/\∃f6 S6,bR K hf w bk r0 (.slice (some (G Q1 0)) d.m q1) R2 E d D1 (DW c s) f6 (.slice (some (G g3 0)) (c.m+1) g) S6 w6/\QF w6 bk 1=c.m+1):=O (λg3 g w3 h=>by
   refine(Jn s h.1 ⟨hS.n,by show c.m+1<=_;omega,by show c.x<=_;omega⟩ s1).mono ?_;rintro e w6 ⟨⟨hu,S6,bw⟩,ca⟩;obtain⟨f6,cb⟩:=hN.step KL au h.2.1 h.2.2 ca bw ar;exact⟨hu,f6,S6,cb,N6 bw.c1⟩)
  clear r au bt ax ad hq s2 s3 s4 b7 br ai ay p0 p5 bd b8;rw[show FR (some s)=(s:Int)from rfl];go_wp2_with fail;refine Hx (cG bk R2 c.x s (S' s)<|E q) ?_;refine tz 0 (h:=tz 1 (h:=tz 2 (h:=tz 3 (h:=tz 5 (h:=tz 6 (h:=tz 7 (h:=tz 8 (h:=tz 9 (h:=tz 10 (h:=tz 11 (h:=tz 12 (h:=?_))))))))))));refine tz 13 (h:=tz 14 (h:=tz 15 (h:=?_)));refine Aaz (rs:=[4,16]) ou oq ?_;refine OK rfl (λK hK=>?_) (OK rfl (λK hK=>?_) Aay)
  focus
   go_simp;refine hK.out _ _ R λ_=>?_;clear hK K;refine ry 16 λK hK=>?_;go_simp;refine hK.out _ _ ⟨(BE wr.heap.size wr).drew.alloc (Be _) _ |>.cell (p:=G bk 3) av |>.trans R.1,(BE wr.heap.size wr).drew.alloc (Be _) _ |>.cell (p:=G R2 s) aj |>.trans R.2.1,(BE wr.heap.size wr).drew.alloc (Be _) _ |>.cell (p:=G (S' s) 5) bf |>.trans R.2.2⟩ λbx=>?_;clear hK K;refine ry 17 λK hK=>?_;refine Re _ rfl (.tmp 33) (.tmp 45) 238 rfl (bk+1) DB i0 (.pointer none) 1 8 underlying238 a6 a7 a8 bb rfl oo (.slice (some<|G D 0) c.m k1) c.m (G8 (λi=>CY E<|c.I i) c.m) og (NX bu _) (y wr 0) 1 1 [.pointer (some (G (E q) 0))] og rfl (Is<|DO _ _) oh oo od om ot _ rfl ?_;intro g3 g w3 k A l ah;obtain⟨U,x3,f3,aM,F⟩:=z ae _ g3 g w3 k A l;clear k A l;refine hK.out _ _ U λak=>?_;clear hK K;refine tz 18 (h:=tz 19 (h:=?_));refine ry 20 λK hK=>?_;go_simp;refine hK.out _ _ ?_ (λ_=>?_)
   .obtain⟨a1,a2,a3⟩:=U;exact⟨(Aa oo).trans a1,(Aq om).trans a2,(Aq om).trans a3⟩
   clear hK K;refine FI ?_;go_wp2_with fail;refine(af g3 g w3 F).mono ?_;rintro e w6 ⟨⟨cc,rfl⟩,f6,S6,H,B⟩;rcases O ((t _ _ _ _ _ H).1),O<|(t _ _ _ _ _ H).2,O H with⟨M,P,ao⟩;clear H F x3 f3 U ak;go_wp2_with fail;refine qr w6 ?_;(iterate 4 refine N (h:=?_));refine GS λK hK=>?_;go_simp;refine⟨_,λw' j=>qk j<|M _ j,hK _ ?_⟩;clear hK K;refine GS λK hK=>?_;go_simp;refine⟨_,λw' j=>qk j<|P _ j,hK _ ?_⟩;clear hK K;refine N (h:=?_);refine Hz ?_;intro w7 Z;have bz:=ao.below Z ar;have ag:QF w7 bk 1=c.m+1:=by rw[<-B];unfold QF;rw[Z.cell (p:=G bk 1) (z ao).bm.lt]
   clear Z M P ao B
  rotate_left
  focus
   go_simp;refine hK.out _ _ ⟨(BE wr.heap.size wr).drew.alloc (Be _) _ |>.cell (p:=G bk 3) av |>.trans R.1,(BE wr.heap.size wr).drew.alloc (Be _) _ |>.cell (p:=G R2 s) aj |>.trans R.2.1,(BE wr.heap.size wr).drew.alloc (Be _) _ |>.cell (p:=G (S' s) 5) bf |>.trans R.2.2⟩ λbx=>?_;clear hK K;refine ry 4 λK hK=>?_;go_simp;refine hK.out _ _ bx λ_=>?_;clear hK K;refine ry 17 λK hK=>?_;refine Re _ rfl (.tmp 33) (.tmp 45) 238 rfl (bk+1) DB i0 (.pointer none) 1 8 underlying238 a6 a7 a8 bb rfl oo (.slice (some<|G D 0) c.m k1) c.m (G8 (λi=>CY E<|c.I i) c.m) og (NX bu _) (y wr 0) 1 1 [.pointer (some (G (E q) 0))] og rfl (Is<|DO _ _) oh oo od om ot _ rfl ?_;intro g3 g w3 k A l ah;obtain⟨U,x3,f3,aM,F⟩:=z ae _ g3 g w3 k A l;clear k A l;refine hK.out _ _ U λak=>?_;clear hK K;refine tz 18 (h:=tz 19 (h:=?_));refine ry 20 λK hK=>?_;go_simp;refine hK.out _ _ ?_ (λ_=>?_)
   .obtain⟨a1,a2,a3⟩:=U;exact⟨(Aa oo).trans a1,(Aq om).trans a2,(Aq om).trans a3⟩
   clear hK K;refine FI ?_;go_wp2_with fail;refine(af g3 g w3 F).mono ?_;rintro e w6 ⟨⟨cc,rfl⟩,f6,S6,H,B⟩;have M:=O<|(t _ _ _ _ _ H).1;have P:=O<|(t _ _ _ _ _ H).2;clear F x3 f3 U ak;go_wp2_with fail;refine qr w6 ?_;(iterate 4 refine N (h:=?_));refine GS λK hK=>?_;go_simp;refine⟨_,λw' j=>qk j<|M _ j,hK _ ?_⟩;clear hK K;refine GS λK hK=>?_;go_simp;refine⟨_,λw' j=>qk j<|P _ j,hK _ ?_⟩;clear hK K;refine N (h:=?_);refine Hz ?_;intro w7 Z;have bz:=H.below Z ar;have ag:QF w7 bk 1=c.m+1:=by rw[<-B];unfold QF;rw[Z.cell (p:=G bk 1) (z H).bm.lt]
   clear Z M P B H
  all_goals
   go_wp2;go_roundw
   .exact⟨DW c s,f6,_,S6,rfl,bz⟩
   rw[ag,az];omega
section
open Go.RowKit Go.Shelf
attribute [local go_sem] Oper.semAt_some
def WZ d k:(A8 d k).Nodup:=List.Nodup.sublist List.filter_sublist List.nodup_range
theorem Rx(hi:i<d.n)(a:(d.L i).turn≠0):(A8 d d.n)[CF d i]?=some i:=by
 obtain⟨r,b⟩:=FB (d:=d) (k:=i+1) (n:=d.n) om;grind [A8,CF,Bs]
def gL(d:Dc)(j:Nat):Int:=if 0<d.X j then(CF d (d.X j-1).toNat:Int)+1 else d.X j
def DC(d:Dc):Dc:={Co d with X:=gL d}
def E'(E:Nat->Nat)(d:Dc)(j:Nat):Nat:=E<|(A8 d d.n).getD j 0
def JS(hi:i<d.n)(a:(d.L i).turn≠0):E' E d (CF d i)=E i:=by
 grind [E',CF,Rx]
def packed{p:Nat}{v}{f:Nat->Nat}(h:AL w bk r0 r1 R2 E S d)(o:w.heap.size<=W.heap.size)(hb:∀b,b<w.heap.size->(∀i,i<d.n->E i≠b)->W.heap[b]?=w.heap[b]?)(ad:bk<n0)
  (hI:∀j,j<d.m->d.I j=0\/(0<d.I j/\d.I j<=d.n/\(d.L (d.I j-1).toNat).turn≠0)) (hX:∀j,j<d.x->0<d.X j->d.X j<=d.n/\(d.L (d.X j-1).toNat).turn≠0)
  (he:∀i,i<d.n->BM W (E i) (d.L i) (f i)) (hf:∀j (hj:j<(A8 d d.n).length),f (A8 d d.n)[j]=j) (F:Rw W n0 DB v (A8 d d.n).length<|eP E<|A8 d d.n) (ae:w.heap.size<=n0):
  AL (W.setCell (G bk 0) v) bk v r1 R2 (E' E d) S (DC d):=by
 have hE:∀i,i<d.n->E i≠bk:=λi hi e=>oT<|h.eb i hi;have s:=hb bk h.lt hE;have hc:∀q,W.cell? (G bk q)=w.cell? (G bk q):=λq=>As (a:=G bk q) s;have ob:∀b,b≠bk->(W.setCell (G bk 0) v).heap[b]?=W.heap[b]?:=λb hb=>At _ _ _ _ (by exact hb);have r:∀q,q≠0->(W.setCell (G bk 0) v).cell? (G bk q)=w.cell? (G bk q):=λq hq=>(Aa λe=>hq e.symm).trans<|hc q;have V:∀{t:TypeId} {c:Array Value} {b:Nat},w.heap[b]?=some (.cells c t (0,0))->t≠245->∀i,i<d.n->E i≠b:=λ{t c b} hb H i hi e=>BC (e▸(h.CH i hi).ob) hb λe=>H e.symm;have Z:∀{t:TypeId} {u:V9} {n:Nat} {g:Nat->Option Addr},Rw w (bk+1) t u n g->t≠245->Rw (W.setCell (G bk 0) v) (bk+1) t u n g:=λ{t u n g} hh H=>CS hh (λq e=>by
  have:=hh.lt q e;obtain⟨c,hq⟩:=hh.block e;exact(ob q om).trans (hb q this.2 (V hq H)))
 have D:∀j,j<K0 d->∃i,i<d.n/\(d.L i).turn≠0/\CF d i=j/\(A8 d d.n)[j]?=some i:=λj hj=>by
  obtain⟨i,h1,h2,h3⟩:=F7 d.n hj;exact⟨i,h1,h2,h3,by rw[<-h3];exact Rx h1 h2⟩
 have eI:∀x:Int,x=0\/(0<x/\x<=d.n/\(d.L (x-1).toNat).turn≠0)->CY (E' E d) (if 0<x then(CF d (x-1).toNat:Int)+1 else x)=CY E x:=λx A=>by
  rcases A with rfl|⟨h1,h2,h3⟩
  .rfl
  rw[DD h1];unfold CY;rw[DD h1,DD om,show((CF d (x-1).toNat:Int)+1-1).toNat=CF d (x-1).toNat by omega,JS om h3]
 refine⟨by simpa using A0 h.lt o,ID _ _ _<|by rw[hc,h.c0];rfl,(r 1 oo).trans h.c1,(r 2 oo).trans h.c2,(r 3 oo).trans h.c3,(r 4 oo).trans h.c4,(r 5 oo).trans h.c5,(r 6 oo).trans h.c6,λq=>by rw[PC];exact(GW (a:=G bk q) s).trans (h.fz q),?_,?_,h.rf,?_,?_,?_,?_,?_,?_,?_⟩
 .have h1:Rw (W.setCell (G bk 0) v) n0 DB v (A8 d d.n).length<|eP E<|A8 d d.n:=CS F λq e=>ob q<|oT (F.lt q e).1;exact Eu h1 om
 .refine(Z h.ints oo).congr λj hj=>?_;exact eI (d.I j)<|hI j hj
 .refine(Z h.slots oo).congr λj hj=>?_;show DX S j (gL d j)=DX S j (d.X j);unfold DX gL;by_cases e:0<d.X j
  .rw[DD e,C3 om,C3 om]
  rw[C3 e]
 .intro q e e';have h1:=(F.lt q e).1;have h2:=(h.ints.lt q e').2;omega
 .intro j hj;obtain⟨i,h1,h2,h3,h4⟩:=D j hj;have K:(DC d).L j=d.L i:=by
   show EL d j=_;unfold EL;rw[List.getD_eq_getElem?_getD,h4];rfl
  have M:E' E d j=E i:=by rw[<-h3];exact JS h1 h2
  obtain⟨P,Q⟩:=SO.1 h4;have R:f i=j:=by have:=hf j P;rwa [Q]at this
  rw[K,M];have h5:=he i h1;rw[R]at h5;exact h5.keep oq<|ob _<|oT<|h.eb i h1
 .intro j hj;obtain⟨i,h1,h2,h3,h4⟩:=D j hj;rw[show E' E d j=E i by rw[<-h3];exact JS h1 h2];exact h.eb i h1
 .intro j j' hj k e;obtain⟨i,h1,h2,h3,h4⟩:=D j hj;obtain⟨i',B,T,U,af⟩:=D j' k;rw[show E' E d j=E i by rw[<-h3];exact JS h1 h2,show E' E d j'=E i' by rw[<-U];exact JS B T]at e;have:=h.inj i i' h1 B e;subst this;omega
 .intro j hj;have k:j<d.x:=hj;have hs:=h.sl j k;have hk:∀c,w.heap[S j]?=some (.cells c 248 (0,0))->d.X j≠0->(W.setCell (G bk 0) v).heap[S j]?=w.heap[S j]?:=λc C l=>(ob _<|oT<|h.sg j k l).trans<|hb _ (GC.1 C).1<|V C oo;unfold DY;show(0<gL d j->IW _ (S j) ((DC d).L (gL d j-1).toNat).key (E' E d (gL d j-1).toNat))/\(gL d j<0->Q0 _ (S j));by_cases e:0<d.X j
  .have A:gL d j=(CF d (d.X j-1).toNat:Int)+1:=DD e;obtain⟨g1,g2⟩:=hX j k e;refine⟨λ_=>?_,λl=>om⟩;rw[A,show((CF d (d.X j-1).toNat:Int)+1-1).toNat=CF d (d.X j-1).toNat by omega,JS om g2,show(DC d).L (CF d (d.X j-1).toNat)=d.L (d.X j-1).toNat from FN om g2];have h1:=hs.1 e;exact h1.keep (by simpa using o)<|hk _ h1.ob om
  have A:gL d j=d.X j:=C3 e;rw[A];refine⟨λl=>absurd l e,λl=>?_⟩;have h1:=hs.2 l;exact h1.keep (by simpa using o)<|hk _ h1.ob om
 intro j hj l;refine h.sg j hj λe=>l ?_;show gL d j=0;unfold gL;rw[C3 om,e]
def uP(w u:Y)(bk p n0:Nat)(E:Nat->Nat)(d:Dc)(pre:List<|M4 d)(W:Y):Prop:=
 ∃(v:V9) (f:Nat->Nat),W.rowIs p 238 1 (λ_=>v)/\Rw W n0 DB v pre.length (eP E (pre.map (·.1)))/\(∀i,i<d.n->BM W (E i) (d.L i) (f i))/\((pre.map (·.1)).Nodup->∀j i,(pre.map (·.1))[j]?=some i->f i=j)/\Q6 p n0 E d.n u W/\Below bk w W
theorem uP.own w u bk p n0 D E d(hn:n0<=D)(hu:n0<=u.heap.size)(m:bk<=w.heap.size)(hb:bk<=D)(o:∀i,i<d.n->E i<D):OwnFrom D<|uP w u bk p n0 E d:=by
 rintro pre A B row ⟨v,f,h1,h2,h3,h4,h5,l⟩ g h;have j:∀i,i<d.n->B.heap[E i]?=A.heap[E i]?:=λi hi=>g.block _ (h3 i hi).lt (λe=>by have:=(h _ e.symm).1;have:=o i hi;omega);refine⟨v,f,?_,RK h2 g h,λi hi=>(h3 i hi).keep g.size<|j i hi,h4,⟨GO h5.size g.size,λb hb hp r=>?_,λi q hi hq=>(As (a:=G (E i) q)<|j i hi).trans<|h5.CH i q hi hq⟩,l.grown g (GO m l.size) λk e=>GO hb (h k e).1⟩
 .obtain⟨c,hb,hc⟩:=h1;exact TO ⟨c,hb,hc⟩<|KT hb g h
 have hl:=A0 hb<|GO hu h5.size;exact(g.block b hl λe=>oT (h b e.symm).1).trans (h5.block b hb hp r)
def Nz(bp:EJ T)(hf){bk}(ay:∀w w',T w->Below bk w w'->T w'){r0 r1}{R2}{E S}{d}{w:Y}(hT:T w)(hM:AL w bk r0 r1 R2 E S d)(hS:Small d)
  (hH:∀i,i<d.n->(d.L i).turn≠0->Qt T (d.L i).key (hf (d.L i).key)) (Q:K0 d<=500)
  (hI:∀j,j<d.m->d.I j=0\/(0<d.I j/\d.I j<=d.n/\(d.L (d.I j-1).toNat).turn≠0)) (hX:∀j,j<d.x->0<d.X j->d.X j<=d.n/\(d.L (d.X j-1).toNat).turn≠0):
  C9 171 #[Q9 bk] w λe w'=>((∃u,e=.returned u)/\∃bq M E2 S',AL w' bk bq r1 M E2 S'<|Em hf (DC d) (Fe (CQ (DC d) (DC d).n).length)<|CQ (DC d) (DC d).n)/\KX (λb=>b=bk\/∃i,i<d.n/\E i=b) bk w w':=by
 rcases Ok J4,hS.n,hM.lt with⟨⟨i0,br,bt,bw,bx⟩,cc,ar⟩;refine(W0 (n:=20)).1 ?_;refine callsIn_of_wp_marks func171 rfl trivial ?_ rfl;simp only[ntmps171,Aaw,Aac,VC,Nat.reduceAdd,Nat.reduceSub,Aaf,Aae,Aax,Aam,Wx,Aau];rcases O hH,O Q,O hT,O hI,O hX with⟨HH,HL,HT,HI,HX⟩;clear hH Q hT hI hX;gi_wp2_with fail;refine⟨trivial,?_⟩;refine(W0.2<|Iv bk _).mono ?_;rintro e w4 ⟨rfl,rfl⟩;gi_wp2_with fail;obtain⟨u,hu⟩:=qa<|(w.alloc<|.cells #[N9] 238).alloc<|.cells #[Q9 bk] 215;try simp only[World.size_alloc]
 rw[<-hu];have zu:u.heap.size=w.heap.size+1+1:=by rw[hu];simp
 have bu:B9 w u:=by rw[hu];exact(n9).alloc oq _
 have ae:u.cell? (Y9 w 0)=some (Q9 bk):=by rw[hu];simp[go_sem]
 have af:u.rowIs w.heap.size 238 1 λ_=>N9:=by
  have h1:=World.rowIs_alloc w #[N9] 238 (λ_=>N9) (λi hi=>by
   have:i=0:=by simpa using hi
   subst this;rfl)
  refine TO h1 ?_;rw[hu];exact E1 _ _ _ oq
 clear hu;have az:=hM.below bu;obtain⟨R0,R1,s⟩:=az.book;have ag:=af.cell (i:=0) om;have A:∀i,i<d.n->E i<u.heap.size/\E i≠w.heap.size:=λi hi=>⟨(s.CH i hi).lt,λe=>by
  have:=(s.CH i hi).k0;rw[e,ag]at this;cases this⟩
 have aM:0<d.n->R0<u.heap.size/\R0≠w.heap.size/\∀i,i<d.n->E i≠R0:=λh0=>by
  refine⟨s.l0,λe=>?_,λi hi e=>?_⟩
  .have:=s.r0 0 h0;rw[e,ag]at this;cases this
  have h1:=s.r0 0 h0;have h2:=(s.CH i hi).k0;rw[<-e,h2]at h1;cases h1
 clear ag;refine wpIn_rangeFunc_ownF rfl oo (gf:=194) (lb:=#[Q9 (w.heap.size+1)]) rfl trivial (enters_of func194 ou rfl)
  (QH 19 oo (w.heap.size+1) w.heap.size u.heap.size s hS aM ae) Q6.trans (Q6.put (Be _) λi hi=>(A i hi).1) (BE _ _) (λ_=>rfl)
  (uP w u bk w.heap.size u.heap.size E d)
  (λc pre W=>False)
  (uP.own w u bk w.heap.size u.heap.size u.heap.size E d (Be _) (Be _) om om λi hi=>(A i hi).1)
  (λc _ _ _ _ h=>h.elim)
  ⟨N9,id,af,IF _ _ _ _,s.CH,λ_ j i h=>by simp at h,Q6.refl _ _ _ _ _,bu.mono om⟩
  ?a1 ?assign ?body ?done ?stop
 case assign=>
  intro l x W K hK;gi_wp2;exact hK
 case stop=>
  rintro D c pre W hD cb h hK;exact h.elim
 case body=>
  rintro l pre ⟨i,hi,ht⟩ W ⟨v,f,hp,g,B,P,C,R⟩ Q;obtain⟨va,vc,rfl⟩:=g.slice;rcases (B i hi).ob,(B i hi).pl,(B i hi).lt with⟨a6,cd,bz⟩;have fE:W.frozen? (G (E i) 11)=false:=by simp[World.frozen?,a6]
  rcases hp.cell (i:=0) om,(A i hi).2,C.size,(A i hi).1 with⟨x0,ah,zW,b0⟩;have au:Hid (∀o,((W.setCell (G (E i) 11)<|J (pre.length:Int)).alloc o).ownsRow u.heap.size DB 1 (.slice va pre.length vc) pre.length (G8 (eP E (pre.map (·.1))) pre.length)):=O λo=>NX (CS g λq e=>At _ _ _ _<|by have:=(g.lt q e).1;show q≠E i;omega) _;have av:Hid (∀(o:Obj) (g3 t:Nat) (w3:Y),w3.ownsRow u.heap.size DB 1 (S9 g3 (pre.length+1) t) (pre.length+1) (G8 (eP E (pre.map (·.1))) pre.length++[Q9 (E i)])->((W.setCell (G (E i) 11)<|J (pre.length:Int)).alloc o).grownBy w3 (Value.slice va pre.length vc).ownBlock->
    (w3.cell? (y w 0)=some (.slice va pre.length vc)/\w3.frozen? (y w 0)=false)/\KeepsOthers W (w3.setCell (y w 0) (S9 g3 (pre.length+1) t))/\Q6 w.heap.size u.heap.size E d.n W (w3.setCell (y w 0) (S9 g3 (pre.length+1) t))/\uP w u bk w.heap.size u.heap.size E d (pre++[⟨i,hi,ht⟩]) (w3.setCell (y w 0) (S9 g3 (pre.length+1) t))):=O (λo g3 t w3 h1 h2=>by
   have U:∀b,b<u.heap.size->(Value.slice va pre.length vc).ownBlock≠some b:=λb hb e=>oT (g.lt b e).1;have hB:∀b,b<u.heap.size->b≠E i->w3.heap[b]?=W.heap[b]?:=λb hb he=>(h2.block b ot λe=>U b hb e.symm).trans<|(E1 _ _ _ ot).trans<|At _ _ _ _ (by exact he);have a7:=(h2.block (E i) ot λe=>U _ b0 e.symm).trans<|E1 _ _ _ (by simpa using bz);have ai:W.heap.size<=w3.heap.size:=by have:=h2.size;simp at this;omega
   have aj:=hp.of_block<|hB _ om λe=>ah e.symm;have cg:=(World.ownsRow.lt h1 g3 rfl).1;have os:∀b,b≠w.heap.size->(w3.setCell (y w 0)<|S9 g3 (pre.length+1) t).heap[b]?=w3.heap[b]?:=λb hb=>At _ _ _ _ (by exact hb);have b1:=((B i hi).iQ pre.length).keep (by simpa using ai)<|(os _ ah).trans a7;have aw:∀j,j<d.n->j≠i->BM (w3.setCell (y w 0)<|S9 g3 (pre.length+1) t) (E j) (d.L j) (f j):=λj hj b2=>(B j hj).keep (by simpa using ai)<|(os _ (A j hj).2).trans<|hB _ (A j hj).1 λe=>b2<|s.inj j i hj hi e;have a8:Q6 w.heap.size u.heap.size E d.n W<|w3.setCell (y w 0)<|S9 g3 (pre.length+1) t:=⟨by simpa using ai,λb h1 b3 h3=>(os b b3).trans<|hB b h1 λe=>h3 i hi e.symm,λj q hj hq=>by
    by_cases e:j=i
    .subst e;refine(As (a:=G (E j) q)<|(os _ ah).trans a7).trans ?_;exact Aa λe=>hq e.symm
    exact As (a:=(G (E j) q)) ((os _ (A j hj).2).trans (hB _ (A j hj).1 (λe'=>e (s.inj j i hj hi e'))))⟩
   refine⟨⟨aj.cell (i:=0) om,aj.frozen 0⟩,?_,a8,S9 g3 (pre.length+1) t,AW f i pre.length,(aj.set 0 _).congr λq hq=>by simp[show q=0 by omega],?_,λj hj=>?_,λbb j q hq=>?_,C.trans a8,?_⟩
   .have b4:KeepsOthers ((W.setCell (G (E i) 11)<|J (pre.length:Int)).alloc o) w3:=KeepsOthers.of_grownBy h2 (λj o' e ho=>by
     obtain⟨c,hb⟩:=Rw.block g e;have hj:=(g.lt j e);rw[E1 _ _ _ (by simpa using hj.2),At _ _ _ _ (by show j≠E i;omega),hb]at ho;cases ho;rfl)
    exact(((Q2 W _ _).trans<|KeepsOthers.alloc _ _).trans b4).trans (Q2 _ _ _)
   .have hl:(pre++[⟨i,hi,ht⟩]:List<|M4 d).length=pre.length+1:=oq;have e1:G8 (eP E (pre.map (·.1))) pre.length++[Q9 (E i)]=G8 (eP E ((pre++[⟨i,hi,ht⟩]:List<|M4 d).map (·.1))) (pre.length+1):=by
     have:=Ya E (pre.map (·.1)) i;rw[AaR]at this;rw[this,Aaj];rfl
    rw[hl];refine CS ?_ (λq e=>os q (by
     have e':g3=q:=oS e;omega))
    rw[e1]at h1;exact h1
   .by_cases e:j=i
    .subst e;rw[Ax];exact b1
    rw[Ao _ _ e];exact aw j hj e
   .rw[Aaj]at bb hq;have V:=List.nodup_append.1 bb;by_cases e:j<(pre.map (·.1)).length
    .rw[Aak e]at hq;have ax:q≠i:=λe'=>V.2.2 q (List.mem_of_getElem? hq) i oq e';rw[Ao _ _ ax];exact P V.1 j q hq
    rw[Aav om]at hq;have bc:j-(pre.map (·.1)).length=0:=by
     have h3:=(SO.1 hq).1;simp at h3;simp;omega
    rw[bc]at hq;have b5:i=q:=by simpa using hq
    subst b5;rw[Ax];rw[AaR]at e bc;omega
   exact(((R.setCell (by have:=s.CH i hi;have:=hM.eb i hi;show bk<=E i;omega) _).alloc ot _).grown h2 ot (λk e=>oT (g.lt k e).1)).setCell (by show bk<=w.heap.size;omega) _)
  clear g C R hp ae B P a6;gi_wp2_with (gi_at_builtin;refine wpListIn_append_own _ rfl _ _ 238 rfl u.heap.size DB i0 (.pointer none) 1 8 underlying238 br bt bw bx rfl oo (.slice va pre.length vc) pre.length (G8 (eP E (pre.map (·.1))) pre.length) rfl (au _) (y W 0) 1 1 [Q9 (E i)] rfl rfl (Is<|by rw[show W.heap.size=(W.setCell (G (E i) 11) (J (pre.length:Int))).heap.size by simp];exact DO _ _) oh od om ot ?_;intro v3 w3 F Z _;obtain⟨g3,t,rfl,_,_⟩:=World.ownsRow.form F om;obtain⟨⟨x3,f3⟩,b6⟩:=z av _ g3 t w3 F Z;clear F Z);exact b6
 case done=>
  rintro D ys W hD bd ⟨v,f,hp,g,B,P,C,R⟩ hK;have H:ys.map (·.1)=A8 d d.n:=bd;have bf:ys.length=(A8 d d.n).length:=by rw[<-H,AaR]
  rw[bf,H]at g;rw[H]at P;obtain⟨va,vc,rfl⟩:=g.slice;have x0:=hp.cell (i:=0) om;have zW:=C.size;have bg:∀i,i<d.n->E i≠bk:=λi hi e=>oT<|hM.eb i hi;have ak:=(C.block bk om om bg).trans<|bu.block bk ar;have c0:W.cell? (G bk 0)=some r0:=(As (a:=G bk 0) ak).trans hM.c0;have f0:W.frozen? (G bk 0)=false:=(GW (a:=G bk 0) ak).trans<|hM.fz 0;have b7:D<W.heap.size:=(GC.1 hK).1;have bh:=packed hM om (λb hb he=>(C.block b om om he).trans<|bu.block b hb) (n0:=u.heap.size) (p:=0) om HI HX B (λj hj=>P (WZ _ _) j _<|List.getElem?_eq_getElem hj) g om;have ao:Below bk w<|W.setCell (G bk 0)<|.slice va (A8 d d.n).length vc:=R.setCell (by exact Be _) _;have bj:∀i,i<K0 d->∃i',i'<d.n/\(d.L i').turn≠0/\EL d i=d.L i':=λj hj=>by
   obtain⟨i,h1,h2,h3⟩:=F7 d.n hj;exact⟨i,h1,h2,by rw[<-h3];exact FN h1 h2⟩
  have ad:Hid<|C9 187 #[Q9 bk,J 0] (W.setCell (G bk 0)<|.slice va (A8 d d.n).length vc) λe w'=>((∃u,e=.returned u)/\∃M S',AL w' bk (.slice va (A8 d d.n).length vc) r1 M (E' E d) S' (Em hf (DC d) (Fe (CQ (DC d) (DC d).n).length)<|CQ (DC d) (DC d).n)/\(W.setCell (G bk 0)<|.slice va (A8 d d.n).length vc).heap.size<=M)/\KX (λb=>b=bk) bk (W.setCell (G bk 0)<|.slice va (A8 d d.n).length vc) w':=O (by
   have bm:=hS;have h1:=FW d d.n;have h2:=z HL;have h3:K0 d=(A8 d d.n).length:=rfl;exact I0 bp hf ay 0 (ay _ _ HT ao) bh ⟨by show K0 d<=_;omega,bm.m,bm.x⟩ (λi hi ht=>by
    obtain⟨i',g1,g2,g3⟩:=bj i hi;have e:(DC d).L i=d.L i':=g3;rw[e];exact HH i' g1 g2) (by
    have g1:=Yl (DC d) (DC d).n;have g2:=FW (DC d) (DC d).n;have g3:(DC d).n=K0 d:=rfl;omega))
  have b8:Hid<|KX (λb=>b=bk\/∃i,i<d.n/\E i=b) bk w<|W.setCell (G bk 0)<|.slice va (A8 d d.n).length vc:=O ⟨ao,λb hb hm=>(At _ _ _ _<|by intro e;exact hm<|.inl e).trans<|(C.block b om om λi hi e=>hm<|.inr ⟨i,hi,e⟩).trans<|bu.block b hb⟩;clear bd H bf hp g B P C R bh bj ao bg ak ae af s az A aM bu;generalize (A8 d d.n).length=nl at*;gi_wp2_with fail;refine⟨trivial,?_⟩;refine(W0.2 ad).mono ?_;rintro e w5 ⟨⟨⟨uu,rfl⟩,M,S',b9,_⟩,aq⟩;have bn:=(aq.BH D (by simpa using b7) om).trans<|(At _ _ _ _<|by show D≠bk;omega).trans hK;have ca:=b8.trans<|aq.mono λb _ e=>.inl e;clear aq ad;gi_wp2;refine⟨oq,.inl ⟨_,_,rfl,AaJ bn,?_⟩⟩;have hg:=MM w5 D<|.deferred none;exact⟨_,AaE rfl _ _ _,⟨⟨_,rfl⟩,_,M,_,S',b9.grown hg λr e=>by cases e;exact⟨_,bn,rfl⟩⟩,ca.grown hg om λk e=>by cases e;exact .inl om⟩
end
section
variable {w w3:Y} {bk:Nat} {r0 r1:V9} {R2:Nat} {E S:Nat->Nat} {d:Dc}
def AL.wF(h:AL w bk r0 r1 R2 E S d){W:Y}(u:B9 w W){g3 f}(v:BM w (E d.n) (d.L d.n) d.n)(o:bk<E d.n)(Ko:∀i,i<d.n->E i≠E d.n)(h1:w3.ownsRow (bk+1) DB 1 (S9 g3 (d.n+1) f) (d.n+1)<|G8 (λi=>some<|G (E i) 0) d.n++[Q9 (E d.n)])(x:W.grownBy w3 r0.ownBlock)(hl:r0.ownBlock=some g3\/w.heap.size<=g3):
  AL (w3.setCell (G bk 0)<|S9 g3 (d.n+1) f) bk (S9 g3 (d.n+1) f) r1 R2 E S {d with n:=d.n+1}/\Below bk w (w3.setCell (G bk 0)<|S9 g3 (d.n+1) f):=by
 have g:=h.lt;have A:=u.size;have hz:=GO A x.size;have l:∀b,b<w.heap.size->r0.ownBlock≠some b->w3.heap[b]?=w.heap[b]?:=λb hb v=>(x.block b om λe=>v e.symm).trans<|u.block b hb;have r:r0.ownBlock≠some bk:=λe=>oT (h.log.lt bk e).1;have os:∀b,b≠bk->(w3.setCell (G bk 0)<|S9 g3 (d.n+1) f).heap[b]?=w3.heap[b]?:=λb hb=>At _ _ _ _ (by exact hb);have hc:∀q,w3.cell? (G bk q)=w.cell? (G bk q):=λq=>As (a:=G bk q)<|l bk g r;have m:∀q,q≠0->(w3.setCell (G bk 0)<|S9 g3 (d.n+1) f).cell? (G bk q)=w.cell? (G bk q):=λq hq=>(Aa λe=>hq e.symm).trans<|hc q;have ty:∀{t:TypeId} {c:Array Value} {b:Nat},w.heap[b]?=some (.cells c t (0,0))->t≠DB->r0.ownBlock≠some b:=λ{t c b} hb F e=>by
  obtain⟨c',B⟩:=h.log.block e;exact BC hb B F
 have H:=(World.ownsRow.lt h1 g3 rfl).1;have C:∀{b:Nat} {p:Pr} {i:Nat},BM w b p i->bk<b->BM (w3.setCell (G bk 0)<|S9 g3 (d.n+1) f) b p i:=λ{b p i} hh hb=>hh.keep (by simpa using hz)<|(os _ om).trans<|l _ hh.lt<|ty hh.ob oo;refine⟨⟨by simpa using A0 g hz,ID _ _ _<|by rw[hc,h.c0];rfl,(m 1 oo).trans h.c1,(m 2 oo).trans h.c2,(m 3 oo).trans h.c3,(m 4 oo).trans h.c4,(m 5 oo).trans h.c5,(m 6 oo).trans h.c6,λq=>by rw[PC];exact(GW (a:=G bk q)<|l bk g r).trans (h.fz q),?_,?_,h.rf,?_,?_,λi hi=>?_,λi hi=>?_,λi j hi hj e=>?_,λj hj=>?_,h.sg⟩,?_⟩
 .have h2:(w3.setCell (G bk 0)<|S9 g3 (d.n+1) f).ownsRow (bk+1) DB 1 (S9 g3 (d.n+1) f) (d.n+1)<|G8 (λi=>some<|G (E i) 0) d.n++[Q9 (E d.n)]:=CS h1 (λq e=>os q (by
   have e':g3=q:=oS e;omega))
  exact h2
 .exact CS h.ints λq e=>(os q<|oT (h.ints.lt q e).1).trans<|l q (h.ints.lt q e).2 λe'=>h.ap q e' e
 .exact CS h.slots (λq e=>by
   obtain⟨c,hb⟩:=h.slots.block e;exact(os q (oT (h.slots.lt q e).1)).trans (l q (h.slots.lt q e).2 (ty hb oo)))
 .intro q e e';have e2:g3=q:=oS e;subst e2;rcases hl with hl|hl
  .exact h.ap g3 hl e'
  have:=(h.ints.lt g3 e').2;omega
 .have s:i<d.n+1:=hi;by_cases e:i=d.n
  .subst e;exact C v o
  exact C (h.CH i om)<|h.eb i om
 .have s:i<d.n+1:=hi;by_cases e:i=d.n
  .subst e;exact o
  exact h.eb i om
 .have s:i<d.n+1:=hi;have I:j<d.n+1:=hj;by_cases K:i=d.n
  .by_cases D:j=d.n
   .omega
   subst K;exact absurd e.symm<|Ko j om
  by_cases D:j=d.n
  .subst D;exact absurd e<|Ko i om
  exact h.inj i j om om e
 .by_cases M:d.X j=0
  .exact⟨λhp=>absurd hp<|by show¬0<d.X j;omega,λhp=>absurd hp<|by show¬d.X j<0;omega⟩
  exact DY.keep (d:={d with n:=d.n+1}) (w:=w) (h.sl j hj) (by simpa using hz) λc hc=>(os _<|oT<|h.sg j hj M).trans<|l _ (GC.1 hc).1<|ty hc oo
 exact((u.mono om).grown x om λk e=>oT (h.log.lt k e).1).setCell (by exact Be _) _
end
def AL.Lm(hc:Core K d)(hl:¬((d.n:Int)<8\/(d.n:Int)<=2*d.live))(h:AL w bk r0 r1 R2 E S<|Em hf (DC d) (Fe (CQ (DC d) (DC d).n).length)<|CQ (DC d) (DC d).n):AL w bk r0 r1 R2 E S<|Ap hf d:=by
 have hp:=Gm hc;have h:AL w bk r0 r1 R2 E S<|Em hf (Co d) (Fe (CQ (Co d) (Co d).n).length)<|CQ (Co d) (Co d).n:=h;have e1:Ap hf d=A3 hf (Co d) 0:=C3 hl;have rf:=λx=>Nu (hf:=hf) (x:=x) (λi hi b=>hp.pos hi b) (Co d).n<|Be _;rw[e1];by_cases a:(CQ (Co d) (Co d).n).length=0
 .rw[Ev (by rw[(rf 0).2];omega)];have hn:=List.eq_nil_of_length_eq_zero a;rw[a,hn]at h;have h:AL w bk r0 r1 R2 E S {Co d with x:=0,X:=λ_=>0,used:=0}:=h;exact h.of_same rfl rfl rfl rfl rfl rfl (λ_ _=>rfl) (λj hj=>absurd hj<|P9 _) (λ_ _=>rfl) (λ_ _=>rfl) (λi hi=>by
   rcases hp.ints i hi with e|e
   .show(Co d).I i<=((Co d).n:Int);omega
   exact e.2.1) (λj hj=>absurd hj (P9 _))
 rw[CJ (by rw[(rf 0).2];omega),(rf _).1,(rf 0).2];grind [Em,DC,Fe,CQ,Ap,Co,Cz]
def FQ(c:Dc)(k v:Vl):Dc:={B3 c k v with n:=c.n}
def gF c k v:(FQ c k v).L c.n=⟨k,v,c.turns+1⟩:=Ax _ _ _
def Oc c k v{i}(hi:i<c.n):(FQ c k v).L i=c.L i:=Ao _ _ om
def Ze hf c k v k' p:AY hf (FQ c k v) k' p=FQ (AY hf c k' p) k v:=by
 unfold AY;show(match Db c.x c.X (hf k'%c.x)with|none=>_|some s=>_)=_;cases Db c.x c.X (hf k'%c.x)<;>rfl
def Zd hf c k' p n:AY hf {c with n:=n} k' p={AY hf c k' p with n:=n}:=by
 grind [AY,Db]
def dZ hf c k v x l(hl:∀p∈l,p<c.n):Em hf (FQ c k v) x l=FQ (Em hf c x l) k v:=by
 suffices h:∀(l:List Nat),(∀p∈l,p<c.n)->∀b:Dc,l.foldl (λe p=>AY hf e ((FQ c k v).L p).key p) (FQ b k v)=FQ (l.foldl (λe p=>AY hf e (c.L p).key p) b) k v from h l hl {c with x:=x,X:=λ_=>0,used:=0}
 intro l
 induction l with
 |nil=>intro _ b;rfl
 |cons p l ih=>
  intro hl b;show l.foldl _ (AY hf (FQ b k v) ((FQ c k v).L p).key p)=_;rw[Oc c k v (hl p oq),Ze];exact ih (λq hq=>hl q<|by simp[hq]) _
def Ym c k v:CQ (FQ c k v) (FQ c k v).n=CQ c c.n:=by
 unfold CQ;have e:A8 (FQ c k v) (FQ c k v).n=A8 c c.n:=KW c.n (λi hi=>by rw[Oc c k v hi]);rw[e];refine List.filter_congr λi hi=>?_;rw[Oc c k v (PF.1 hi).1];rfl
def iH(hc:Core K c):PW hf (FQ c k v)=FQ (CT hf c) k v:=by
 have rf:=λx=>Nu (hf:=hf) (x:=x) (λi hi a=>hc.pos hi a) c.n<|Be _;unfold PW CT;rw[Ym];by_cases h:(c.x:Int)<2*(c.used+1)
 .rw[DD h,DD (show((FQ c k v).x:Int)<2*((FQ c k v).used+1)from h),CJ om,(rf _).1,(rf 0).2,dZ hf c k v _ _ (λp hp=>(PE hp).1)];grind [PW,FQ,CT,Fe,CQ,Cz]
 rw[C3 h,C3 (show¬((FQ c k v).x:Int)<2*((FQ c k v).used+1)from h)]
def gG(h:c.n=n):FQ c k v={B3 c k v with n:=n}:=by subst h;rfl
structure OG (W:Y) (b:Nat) (k:Vl):Prop where
 lt:b<W.heap.size
 k0:W.cell? (G b 0)=some (J k.kind)
 k1:W.cell? (G b 1)=some (J k.num)
 k2:W.cell? (G b 2)=some (F9 k.Ah)
 k3:W.cell? (G b 3)=some (.string k.str)
 k4:W.cell? (G b 4)=some (J k.ref)
def OG.keep(h:OG W b k)(hz:W.heap.size<=W'.heap.size)(e:W'.heap[b]?=W.heap[b]?):OG W' b k:=
 ⟨A0 h.lt hz,(As e).trans h.k0,(As e).trans h.k1,(As e).trans h.k2,(As e).trans h.k3,(As e).trans h.k4⟩
def Q3(n0 bk:Nat)(k v:Vl)(t:Int)(a:T9)(n c:Nat)(W:Y):Prop:=W.cell? (G n0 0)=some (J k.kind)/\W.cell? (G n0 1)=some (J k.num)/\W.cell? (G n0 2)=some (F9 k.Ah)/\W.cell? (G n0 3)=some (.string k.str)/\W.cell? (G n0 4)=some (J k.ref)/\W.cell? (G (n0+1) 0)=some (J v.kind)/\W.cell? (G (n0+1) 1)=some (J v.num)/\W.cell? (G (n0+1) 2)=some (F9 v.Ah)/\W.cell? (G (n0+1) 3)=some (.string v.str)/\W.cell? (G (n0+1) 4)=some (J v.ref)/\W.cell? (G bk 6)=some (J t)/\W.cell? (G bk 0)=some (.slice a n c)
def pA(bk n0 a m k1 q:Nat)(W:Y):Prop:=W.cell? (G bk 1)=some (S9 a m k1)/\W.cell? (G n0 1)=some (J<|(q:Int)+1)
def fT(h:Core K c)(hl:c.live<500):(CQ c c.n).length+1<=500:=by
 have h1:=Yl c c.n;have h2:=h.KY;grind [CQ,K0,A8,Small.n]
structure Mi (W:Y) (bk:Nat) (r0 r1:V9) (R2:Nat) (E S:Nat->Nat) (D:Dc):Prop where
 bm:AL W bk r0 r1 R2 E S D
 e:BM W (E D.n) (D.L D.n) D.n
 eb:bk<E D.n
 ne:∀i,i<D.n->E i≠E D.n
def Mi.fin{c}{D}(h:Mi c bk r0 r1 R2 E S D){o}{g3 b}(h1:w3.ownsRow (bk+1) DB 1 (S9 g3 (D.n+1) b) (D.n+1)<|G8 (λi=>some<|G (E i) 0) D.n++[Q9 (E D.n)])(d:(c.alloc o).grownBy w3 r0.ownBlock)(hl:r0.ownBlock=some g3\/g3=c.heap.size+1):
  w3.cell? (G bk 0)=some r0/\w3.frozen? (G bk 0)=false/\bk<w3.heap.size/\AL (w3.setCell (G bk 0)<|S9 g3 (D.n+1) b) bk (S9 g3 (D.n+1) b) r1 R2 E S {D with n:=D.n+1}/\Below bk c (w3.setCell (G bk 0)<|S9 g3 (D.n+1) b):=by
 have f:=h.bm.lt;have hn:r0.ownBlock≠some bk:=λe=>oT (h.bm.log.lt bk e).1;have hb:=(d.block bk ot λe=>hn e.symm).trans<|E1 _ _ _ f;have hz:c.heap.size+1<=w3.heap.size:=by have:=d.size;simpa using this
 obtain⟨p1,p2⟩:=h.bm.wF ((BE _ _).alloc (Be _) o) h.e h.eb h.ne h1 d (by rcases hl with hl|hl;exact .inl hl;exact .inr om);exact⟨(As (a:=G bk 0) hb).trans h.bm.c0,(GW (a:=G bk 0) hb).trans<|h.bm.fz 0,om,p1,p2⟩
def Q3.below{t}{a:Option Addr}{c}(h:Q3 n0 bk k v t a n c W)(hb:B9 W W')(g:n0+1<W.heap.size)(h1:bk<W.heap.size):Q3 n0 bk k v t a n c W':=by
 obtain⟨i,s1,s2,j,l,m,o,r,s,u,d,f⟩:=h;have e:∀{b q:Nat},b<W.heap.size->W'.cell? (G b q)=W.cell? (G b q):=λ{b q} hh=>hb.cell (p:=G b q) hh;grind [Q3,KeyLaw.trans]
def mM(bk:Nat)(r0:V9)(R2 b:Nat):Prop:=b=bk\/r0.ownBlock=some b\/b=R2
def aM(d:Dc)(k:Vl)(bk:Nat)(r0:V9)(R2 b:Nat):Prop:=¬Ep d->k.kind=4->mM bk r0 R2 b
def qH:Prop:=∀(T:World->Prop) (c:EJ T) (hf:Vl->Nat) (K:Vl->Prop) (j:KeyLaw K hf) (f:∀v,K v->Qt T v (hf v)) (bk:Nat) (g:∀w w',T w->Below bk w w'->T w') (r0 r1:V9) (R2:Nat) (E S:Nat->Nat) (d:Dc) (w:Y) (k:T w) (l:AL w bk r0 r1 R2 E S d) (o:Small d) (h:d.m<=4000000)
  (i:(d.L d.n).key.kind=2) (DM:(d.L d.n).key.num=(d.m:Int)+1) (p:BW K hf {d with n:=d.n+1,m:=d.m+1,I:=AW d.I d.m ((d.n:Int)+1)}),
  C9 173 #[Q9 bk,Q9 (E d.n)] w λe w'=>((∃u,e=.returned u)/\∃a S',AL w' bk r0 a R2 E S' {Cy hf (d.x+1) {d with n:=d.n+1,m:=d.m+1,I:=AW d.I d.m ((d.n:Int)+1)}with n:=d.n})/\KX (λb=>b=bk\/r1.ownBlock=some b\/b=R2) bk w w'
def xW:qH:=OM
def lC(cg:EJ T){hf}{K}(KL:KeyLaw K hf)(ch:∀v,K v->Qt T v (hf v)){bk}(bz:∀w w',T w->Below bk w w'->T w'){r0 r1}{R2}{E S}{d}{k}(v){w:Y}(hT:T w)(hM:AL w bk r0 r1 R2 E S d)(hS:Small d)(fw:d.m<=4000000)
  (hI:Inv K hf d) (hk:K k) (cn:Ch k=true) (hv:v.ok=true) (c9:v.kind≠0) (da:∀i,i<d.n->(d.L i).turn≠0->AH (d.L i).key k=false) (hl:d.live<500) (ht:d.turns<1000000000000) (hX:k.kind=2/\0<k.num->qH):
  C9 156 #[.pointer (some<|G bk 0),V k.kind k.num k.Ah k.str k.ref,V v.kind v.num v.Ah v.str v.ref] w λe w'=>((∃u,e=.returned u)/\∃b0 F t E2 S',AL w' bk b0 F t E2 S'<|GF hf d k v)/\KX (aM d k bk r0 R2) bk w w':=by
 have dc:Ep d->∀b,aM d k bk r0 R2 b:=λh b h'=>absurd h h';have dd:k.kind=2->∀b,aM d k bk r0 R2 b:=λh b _ h'=>om;have df:∀b,mM bk r0 R2 b->aM d k bk r0 R2 b:=λb h _ _=>h;generalize aM d k bk r0 R2=Mq at*;rcases O dc,O dd,O df with⟨ei,dh,ej⟩;clear dc dd df;have ek:=O hX;clear hX;obtain⟨i0,di,dj,dk,dm⟩:=Ok J4;have fx:=hM.lt;have cb:0<=d.live:=oT hI.i0.log.CX;have aq:B9 w<|(w.alloc<|.cells (qi k) 32).alloc<|.cells (qi v) 32:=(n9).alloc oq _;rcases B2 (hf:=hf) hI.i0.core,Ed hI.i0,Er (hf:=hf) hI.i0.core hI.next with⟨⟨eo,ep,eu,dn⟩,Q,ev⟩;have cc:∀i,i<(Ap hf d).n->((Ap hf d).L i).turn≠0->AH ((Ap hf d).L i).key k=false:=λi hi ew=>by
  cases e:AH ((Ap hf d).L i).key k
  .rfl
  obtain⟨j,h1,h2,h3⟩:=(DZ hI.i0.core λp=>AH p.key k=true).1 ⟨i,hi,ew,e⟩;have h4:=da j h1 h2;rw[h3]at h4;cases h4
 have fy:(Ap hf d).x<=4000:=by
  rcases Q.sz with h|h
  .omega
  exact h.2.1
 have c4:(Ap hf d).n<=4194304:=by
  rcases dn with h|h<;>omega
 have ey:∀i,i<(Ap hf d).m->(Ap hf d).I i<=(Ap hf d).n:=λi hi=>by
  rcases Q.ints i hi with e|e
  .omega
  exact e.2.1
 have ez:∀j,j<(Ap hf d).x->(Ap hf d).X j<=(Ap hf d).n:=λj hj=>by
  rcases Q.idx.range j hj with e|e|⟨e1,e2,_⟩<;>omega
 have Z:Hid<|GF hf d k v=Bx hf (Ap hf d) k v:=O rfl;have bb:∀W,B9 w W->Ep d->C9 171 #[.pointer (some<|G bk 0)] W λe w'=>((∃u,e=.returned u)/\∃b0 t E2 S',AL w' bk b0 r1 t E2 S'<|Ap hf d)/\KX (λb=>b=bk\/∃i,i<d.n/\E i=b) bk W w':=λW hW ar=>by
  refine(Nz cg hf bz (cg _ _ hT hW) (hM.below hW) hS (λi hi ht=>ch _<|hI.i0.keys i hi ht) (oT hI.i0.core.KY) (λj hj=>by
   rcases hI.i0.ints j hj with e|e
   .exact .inl e
   .exact .inr ⟨e.1,e.2.1,e.2.2.1⟩) (λj hj h0=>by
   rcases hI.i0.idx.range j hj with e|e|⟨e1,e2,e3,_⟩
   .omega
   .omega
   exact⟨om,e3⟩)).mono ?_
  rintro e w' ⟨⟨hu,b0,t,E2,S',hN⟩,B⟩;exact⟨⟨hu,b0,t,E2,S',hN.Lm hI.i0.core<|by have:=ar.1;have:=ar.2;omega⟩,B⟩
 have ag:=O bb;have HE:Hid<|∀i,i<d.n->E i<w.heap.size:=O λi hi=>(hM.CH i hi).lt;have HC:Hid<|¬Ep d->Ap hf d=d:=O (λh=>DD (by
  by_cases h8:(d.n:Int)<8
  .exact .inl h8
  exact .inr (by
   refine AaO λh2=>h ⟨om,om⟩)))
 have cj:Hid<|∀W,B9 w W->C9 170 #[.pointer (some<|G bk 0)] W (R9 (.bool<|tells<|Ep d) W):=O λW hW=>Nn (hM.below hW) hS cb om;have HT:=O hT;rw[z Z];have U:(Ap hf d).live<500:=om;have ao:(Ap hf d).turns<1000000000000:=om;have eA:(Ap hf d).m<=4000000:=om;clear eo ep eu dn Z bb hS hT hI da hl ht cb;generalize Ap hf d=c at*;have au:Hid<|OG ((w.alloc<|.cells (qi k) 32).alloc<|.cells (qi v) 32) w.heap.size k/\OG ((w.alloc<|.cells (qi k) 32).alloc<|.cells (qi v) 32) (w.heap.size+1) v:=O ⟨⟨ot,oe,oe,oe,oe,oe⟩,⟨oq,oe,oe,oe,oe,oe⟩⟩;by_cases ar:Ep d
 case' pos=>
  rcases O (Al ar),O λW hW=>ag W hW ar,O (ei ar) with⟨cp,dp,dq⟩;clear ar HC;go_enter func156,ntmps156;go_wp2_with fail;refine(cj _ aq).mono ?_;rintro e w1 ⟨rfl,H⟩;rw[z cp];rcases o9 aq H,au.1.keep H.size<|H.block _ au.1.lt,au.2.keep H.size (H.block _ au.2.lt) with⟨cq,cr,ct⟩;clear H;go_wp2_with fail;refine(dp _ cq).mono ?_;rintro e W ⟨⟨⟨uu,rfl⟩,b1,l,Ec,Sc,av⟩,B⟩;have vk:OG W w.heap.size k:=cr.keep B.C7.size (B.BH _ cr.lt (by
   rintro(e|⟨i,hi,e⟩)
   .omega
   have:=z HE i hi;omega))
  have vv:OG W (w.heap.size+1) v:=ct.keep B.C7.size (B.BH _ ct.lt (by
   rintro(e|⟨i,hi,e⟩)
   .omega
   have:=z HE i hi;omega))
  have cu:KX Mq bk w W:=⟨(cq.mono om).trans B.C7,λb _ h=>absurd (dq b) h⟩;have hU:∀b,mM bk b1 l b->Mq b:=λb _=>dq b;clear B dp cr ct cq au cj ag aq
 case' neg=>
  have cp:=O<|Ag ar;have eI:=z HC ar;subst eI;clear ar HC ag;go_enter func156,ntmps156;go_wp2_with fail;refine(cj _ aq).mono ?_;rintro e W ⟨rfl,H⟩;rw[z cp];rcases hM.below (o9 aq H),au.1.keep H.size<|H.block _ au.1.lt,au.2.keep H.size (H.block _ au.2.lt) with⟨av,vk,vv⟩;have cu:KX Mq bk w W:=KX.Am (o9 aq H) om;obtain⟨b1,l,Ec,Sc,av,hU⟩:∃b1 l Ec Sc,AL W bk b1 r1 l Ec Sc c/\∀b,mM bk b1 l b->Mq b:=⟨_,_,_,_,av,ej⟩;clear H au cj aq
 all_goals
  obtain⟨la,lc,e0⟩:=av.log.slice;subst e0;rcases av.c6,av.c5,av.fz 5,av.fz 6,Q.turns.1 with⟨c6,c5,f5,f6,tp⟩;have fE:0<=c.live:=oT Q.log.CX;have eP:IntKind.i64.wrap (c.turns+1)=c.turns+1:=oj;have R:IntKind.i64.wrap (c.live+1)=c.live+1:=oj;have ck:=(av.LX<|c.turns+1).GQ<|c.live+1;have HU:=O hU;clear av hU;go_wp2_with fail;generalize br:(W.setCell (G bk 6)<|J<|c.turns+1).setCell (G bk 5) (J<|c.live+1)=W2 at*;have a7:OG W2 w.heap.size k:=vk.keep (by rw[<-br];simp) (by rw[<-br];exact(At _ _ _ _<|by show w.heap.size≠bk;omega).trans (At _ _ _ _<|by show w.heap.size≠bk;omega));have bc:OG W2 (w.heap.size+1) v:=vv.keep (by rw[<-br];simp) (by rw[<-br];exact(At _ _ _ _<|by show w.heap.size+1≠bk;omega).trans (At _ _ _ _<|by show w.heap.size+1≠bk;omega));have dr:KX Mq bk w W2:=by rw[<-br];exact(cu.setCell (Be _) (λ_=>HU _<|.inl rfl) _).setCell (Be _) (λ_=>HU _<|.inl rfl) _
  have cl:=z ck;have eS:=cl.lt;have dt:W2.cell? (G bk 6)=some (J<|c.turns+1):=cl.c6;rcases cl.c0,a7.lt,bc.lt with⟨du,eT,eX⟩;have bt:Q3 w.heap.size bk k v (c.turns+1) la c.n lc W2.drew:=⟨a7.k0,a7.k1,a7.k2,a7.k3,a7.k4,bc.k0,bc.k1,bc.k2,bc.k3,bc.k4,dt,du⟩;clear cl bc c6 c5 f5 f6 dt du br R eP vk vv cu;refine Hx (Q3 w.heap.size bk k v (c.turns+1) la c.n lc) ?_;refine tz 0 (h:=tz 1 (h:=tz 2 (h:=tz 3 (h:=tz 4 (h:=tz 5 (h:=tz 6 (h:=tz 7 (h:=tz 8 (h:=tz 9 (h:=tz 10 (h:=tz 11 (h:=?_))))))))))));refine tz 12 (h:=?_);refine ry 13 λK hK=>?_;go_simp;refine hK.out _ _ (bt.below n9 eX eS) λe4=>?_;clear hK K;refine tz 14 (h:=?_);try simp only[AaQ]
  try simp only[AaI]
  try simp only[AaH]
  try simp only[XN]
  try simp only[AaW]
  try simp only[AaV]
  refine FI ?_;clear bt e4;obtain⟨W3,b2⟩:=qa<|(W2.alloc<|.cells (NH ⟨k,v,c.turns+1⟩ c.n) 245).drew;try simp only[World.alloc_drew]
  rw[<-b2];have z3:W3.heap.size=W2.heap.size+1:=by rw[b2];simp
  have b3:B9 W2 W3:=by rw[b2];exact(n9).drew
  have dv:W3.heap[W2.heap.size]?=some (.cells (NH ⟨k,v,c.turns+1⟩ c.n) 245 (0,0)):=by rw[b2];exact DO _ _
  have a8:=a7.keep b3.size<|b3.block _ eT;have dw:=dr.trans<|KX.Am b3 om;obtain⟨a,cm⟩:=qa<|AW Ec c.n W2.heap.size;have ax:a c.n=W2.heap.size:=by rw[cm];exact Ax _ _ _
  have hA:Mi W3 bk (.slice la c.n lc) r1 l a Sc<|FQ c k v:=by
   have e6:=ck.below b3;refine⟨e6.of_same rfl rfl rfl rfl rfl rfl (λ_ _=>rfl) (λ_ _=>rfl) (λi hi=>Ao _ _ (by have bu:i<c.n:=hi;omega)) (λi hi=>by rw[cm];exact Ao _ _ (by have bu:i<c.n:=hi;omega)) ey ez,?_,?_,λi hi=>?_⟩
   .show BM W3 (a c.n) ((FQ c k v).L c.n) c.n;rw[ax,gF];exact BM.Yy dv
   .show bk<a c.n;omega
   have bu:i<c.n:=hi;show a i≠a c.n;rw[ax,cm,Ao _ _ om];have:=(ck.CH i bu).lt;omega
  rcases a8.lt,hA.bm.lt,hA.bm.rf with⟨l3,cv,⟨R1,k1,e1⟩⟩;have e1:r1=.slice (some<|G R1 0) c.m k1:=e1;have c1:W3.cell? (G bk 1)=some (.slice (some<|G R1 0) c.m k1):=by rw[<-e1];exact hA.bm.c1
  rcases (hA.bm.ints.lt R1<|qm e1).1,a8.k0,a8.k1,a8.k2,a8.k3,a8.k4,O e1 with⟨fW,q0,q1,q2,q3,q4,bf⟩;rw[<-ax];clear cm ax e1 dv b3 b2 ck dr z3 a7;by_cases hs:AA c.m k
  .have cw:=O<|Al hs;obtain⟨a1,a2,a3⟩:=hs;obtain⟨q,hq⟩:∃q:Nat,k.num=(q:Int)+1:=⟨(k.num-1).toNat,om⟩;have dx:q<c.m:=om;have Z:Hid<|{FQ c k v with I:=AW (FQ c k v).I q ((c.n:Int)+1),n:=c.n+1}=Bx hf c k v:=O (by
    have e:Bx hf c k v=B5 c k v:=DD ⟨a1,a2,a3⟩;rw[e];unfold B5;rw[show(k.num-1).toNat=q by omega];rfl)
   have ga:IntKind.i64.wrap (q:Int)=q:=oj;have HQ:=O hq;have e7:=O<|dh a1;clear a1 a2 a3 hq;go_wp2_with fail;refine qr W3 ?_;(iterate 6 refine N (h:=?_));refine GS λK hK=>?_;go_simp;apply Exists.intro;refine qp (λw' C=>?_) (hK _ ?_)
   .refine((z cw)▸Cr k c.m _ om).mono ?_;rintro e cx ⟨rfl,hb⟩;exact⟨rfl,o9 C hb⟩
   clear hK K;refine Hz ?_;intro w4 f;rcases A0 l3 f.size,A0 cv f.size,(f.cell cv).trans c1,(f.cell l3).trans q1 with⟨l4,e8,e9,b4⟩;rw[z HQ]at b4;have s:Mi w4 bk (.slice la c.n lc) r1 l a Sc<|FQ c k v:=⟨hA.bm.below f,hA.e.keep f.size<|f.block _ hA.e.lt,hA.eb,hA.ne⟩;have ay:AL w4 bk (.slice la c.n lc) (.slice (some<|G R1 0) c.m k1) l a Sc<|FQ c k v:=by rw[<-z bf];exact s.bm
   obtain⟨_,_,e5,_,_,_,cy,dy⟩:=ay.ints.form (by show 0<c.m;omega);cases e5;rcases cy q (by show q<c.m;exact dx),dy q,ay.ints.block (b:=R1) rfl with⟨d5,f5,⟨fa,az⟩⟩;have hp:=AL.Xp (d:=FQ c k v) ay (by show q<c.m;exact dx)<|(c.n:Int)+1;rw[show CY a ((c.n:Int)+1)=some (G (a c.n) 0) by unfold CY;rw[DD om,show((c.n:Int)+1-1).toNat=c.n by omega]]at hp;have fb:Hid<|Mi (w4.setCell (G R1 q)<|.pointer<|some<|G (a c.n) 0).drew bk (.slice la c.n lc) (.slice (some<|G R1 0) c.m k1) l a Sc {FQ c k v with I:=AW (FQ c k v).I q ((c.n:Int)+1)}:=O ⟨hp.below (BE _ _).drew,s.e.keep oq<|At _ _ _ _<|by show a c.n≠R1;exactλe=>BC (e▸s.e.ob) az oo,s.eb,s.ne⟩;have bw:=O ((dw.trans<|KX.Am f om).setCell (g:=R1) (q:=q) om (λ_=>e7 _)<|.pointer<|some<|G (a c.n) 0).drew;have bt:pA bk w.heap.size R1 c.m k1 q w4.drew:=⟨e9,b4⟩;have fc:R1≠w.heap.size:=λe=>by
    have h1:=a8.keep f.size<|f.block _ l3;have h2:=h1.k0;rw[<-e]at h2;rw[cy 0 (by show 0<c.m;omega)]at h2;cases h2
   clear ay s hp az f cy dy q0 q1 q2 q3 q4 c1 hA;go_wp2_with fail;refine Hx (pA bk w.heap.size R1 c.m k1 q) ?_;refine tz 0 (h:=tz 1 (h:=tz 2 (h:=tz 3 (h:=tz 4 (h:=tz 5 (h:=tz 6 (h:=tz 7 (h:=tz 8 (h:=?_)))))))));refine ry 9 λK hK=>?_;go_simp;refine hK.out _ _ ⟨(Aq om).trans bt.1,(Aq fc).trans bt.2⟩ λ_=>?_;clear hK K bt;refine FI ?_;generalize gb:(w4.setCell (G R1 q)<|.pointer<|some<|G (a c.n) 0).drew=W5 at*;have P:Mi W5 bk (.slice la c.n lc) (.slice (some<|G R1 0) c.m k1) l a Sc {FQ c k v with I:=AW (FQ c k v).I q ((c.n:Int)+1)}:=fb;have b5:=z bw;have bg:Rw W5 (bk+1) DB (.slice la c.n lc) c.n λi=>some<|G (a i) 0:=P.bm.log;have fe:=P.bm.c0;have ff:=P.bm.lt;have bh:Hid (∀(o:Obj) (g3 D:Nat) (w3:Y),w3.ownsRow (bk+1) DB 1 (.slice (some<|G g3 0) (c.n+1) D) (c.n+1) (G8 (λi=>some<|G (a i) 0) c.n++[.pointer (some (G (a c.n) 0))])->((W5).alloc o).grownBy w3 (Value.slice la c.n lc).ownBlock->((Value.slice la c.n lc).ownBlock=some g3\/g3=(W5).heap.size+1)->
     w3.cell? (G bk 0)=some (.slice la c.n lc)/\w3.frozen? (G bk 0)=false/\bk<w3.heap.size/\(∃F t S',AL (w3.setCell (G bk 0) (.slice (some (G g3 0)) (c.n+1) D)) bk (.slice (some (G g3 0)) (c.n+1) D) F t a S' (Bx hf c k v))/\KX Mq bk w (w3.setCell (G bk 0) (.slice (some (G g3 0)) (c.n+1) D))):=O (λo g3 D w3 h1 h2 h3=>by
    obtain⟨p1,p2,p3,p4,p5⟩:=P.fin h1 h2 h3;exact⟨p1,p2,p3,⟨_,_,_,by rw[<-z Z];exact p4⟩,((b5.alloc om o).grown h2 om (λr e=>.inr ⟨oT (P.bm.log.lt r e).1,HU _ (.inr (.inl e))⟩)).setCell (Be _) (λ_=>HU _ (.inl rfl)) _⟩)
   clear P b5;go_wp2_with (at_builtin;refine ON _ rfl _ _ 238 rfl (bk+1) DB i0 (.pointer none) 1 8 underlying238 di dj dk dm rfl oo (.slice la c.n lc) c.n (G8 (λi=>some<|G (a i) 0) c.n) rfl (NX bg _) (G ((W5).heap.size) 0) 1 1 [.pointer (some (G (a c.n) 0))] rfl rfl (Is<|DO _ _) oh oo od om ot ((W5).heap.size+1) oq ?_;intro g3 D w3 ad ah ae c7;obtain⟨x3,f3,fg,b6,b7⟩:=z bh _ g3 D w3 ad ah ae;have cz:=O b6;have cD:=O b7;clear ad ah ae b6 b7);go_end0;obtain⟨F,t,S',hN⟩:=z cz;exact⟨⟨⟨_,rfl⟩,_,F,t,a,S',hN⟩,cD⟩
  rcases O (Ag hs),O hs,JV KL Q ev hk cn hv c9 cc U ao with⟨cw,dz,bj⟩;have dC:=O bj.2.2.1;have dU:=O bj.2.2.2.1;clear hs bj;go_wp2_with fail;refine qr W3 ?_;(iterate 6 refine N (h:=?_));refine GS λK hK=>?_;go_simp;apply Exists.intro;refine qp (λw' C=>?_) (hK _ ?_)
  .refine((z cw)▸Cr k c.m _ om).mono ?_;rintro e cx ⟨rfl,hb⟩;exact⟨rfl,o9 C hb⟩
  clear hK K;refine Hz ?_;intro w4 f;rcases A0 l3 f.size,A0 cv f.size,a8.keep f.size (f.block _ l3) with⟨l4,e8,bx⟩;rcases bx.k0,bx.k1,bx.k2,bx.k3,bx.k4 with⟨ea,b4,ec,ef,eh⟩;have s:Mi w4 bk (.slice la c.n lc) r1 l a Sc<|FQ c k v:=⟨hA.bm.below f,hA.e.keep f.size<|f.block _ hA.e.lt,hA.eb,hA.ne⟩;have bw:=dw.trans<|KX.Am f om;have cN:Hid<|Small<|FQ c k v:=O ⟨c4,by show c.m<=_;omega,by show c.x<=_;omega⟩;have a6:Hid<|∀w',B9 w4 w'->C9 172 #[.pointer (some<|G bk 0)] w' λe cx=>e=.returned (V 2 ((c.m:Int)+1) 0 ⟨#[]⟩ 0)/\B9 w' cx:=O (λw' C=>by
   obtain⟨fh,fj,fk⟩:=(s.bm.below C).book;exact Js bk fh fj l a Sc (FQ c k v) w' fk cN)
  clear f bx q0 q1 q2 q3 q4 c1 hA;by_cases b8:k.kind=2/\k.num=(c.m:Int)+1
  focus
   have b9:=O b8;have HF:=O<|N5 cn b8.1;clear b8;go_wp2_with fail;refine qr w4 ?_;refine N (h:=N (h:=?_));refine GS λK hK=>?_;go_simp;refine⟨_,λw' C=>qk C<|a6 _ C,hK _ ?_⟩;clear hK K;refine GS λK hK=>?_;go_simp;refine⟨.bool true,λw' C=>?_,hK _ ?_⟩
   .obtain⟨x1,x2⟩:=z b9;obtain⟨x3,x4,x5⟩:=z HF;have fl:O9 k.Ah 0=some Ordering.eq:=by simpa using x3
    have fm:=List.isEmpty_iff.1 x4;simp only[x1,x2,x5,fl,fm,if_true];exact⟨trivial,trivial⟩
   clear hK K;refine Hz ?_;intro w5 R;have A:Mi w5 bk (.slice la c.n lc) r1 l a Sc<|FQ c k v:=⟨s.bm.below R,s.e.keep R.size<|R.block _ s.e.lt,s.eb,s.ne⟩;have bd:=bw.trans<|KX.Am R om;have af:Hid<|C9 173 #[.pointer (some<|G bk 0),.pointer (some<|G (a c.n) 0)] w5 λe w'=>(∃u,e=.returned u)/\(∃F S',Mi w' bk (.slice la c.n lc) F l a S' {Bx hf c k v with n:=c.n})/\KX Mq bk w w':=O (by
    obtain⟨x1,x2⟩:=z b9;have c3:=bz _ _ HT bd.C7;have ca:((FQ c k v).L (FQ c k v).n)=⟨k,v,c.turns+1⟩:=gF c k v;have ak:Bx hf c k v=Cy hf (c.x+1) (B4 c k v):=by unfold Bx;rw[C3 (z dz),DD ⟨x1,x2⟩]
    rcases A.bm.ints.block (b:=R1) (ql bf),A.bm.slots.block (b:=l) rfl,A.e with⟨⟨fa,az⟩,⟨fo,bn⟩,aw⟩;refine(ek ⟨x1,om⟩ T cg hf K KL ch bk bz (.slice la c.n lc) r1 l a Sc (FQ c k v) w5 c3 A.bm cN eA (by rw[ca];exact x1) (by rw[ca];exact x2)<|Jf KL Q hk cn hv c9 cc x1 x2 U ao).mono ?_;rintro e w' ⟨⟨hu,F,S',hN⟩,B⟩;have hN:AL w' bk (.slice la c.n lc) F l a S' {Cy hf (c.x+1) (B4 c k v)with n:=c.n}:=hN;rw[<-ak]at hN;have bp:=B.BH (a c.n) aw.lt (by
     rintro(e|e|e)
     .have:=A.eb;have h':bk<a c.n:=this;omega
     .rw[z bf]at e;have e':R1=a c.n:=oS e;exact BC (e'▸aw.ob) az oo
     exact BC (e▸aw.ob) bn oo)
    refine⟨hu,⟨F,S',hN,?_,A.eb,A.ne⟩,bd.trans<|B.mono λb _ _=>dh x1 b⟩;have h1:(Bx hf c k v).L c.n=(FQ c k v).L c.n:=ql dU
    show BM w' (a c.n) ((Bx hf c k v).L c.n) c.n;rw[h1];exact aw.keep B.C7.size bp)
   clear A bd R bw a6 ea b4 ec ef eh s;go_wp2_with fail;refine af.mono ?_;rintro e w6 ⟨⟨fq,rfl⟩,⟨fr,Sx,ai⟩,aj⟩;have Z:Hid<|{{Bx hf c k v with n:=c.n}with n:=c.n+1}=Bx hf c k v:=O (by
    have h1:=z dC;generalize Bx hf c k v=M at h1;cases M;simp only at h1;subst h1;rfl)
   have bq:=O ai;have cd:=O aj;clear ai aj af;have P:Mi w6 bk (.slice la c.n lc) fr l a Sx {Bx hf c k v with n:=c.n}:=bq
  rotate_left
  focus
   have b9:=O b8;clear b8;go_wp2_with fail;refine qr w4 ?_;refine N (h:=N (h:=?_));refine GS λK hK=>?_;go_simp;refine⟨_,λw' C=>qk C<|a6 _ C,hK _ ?_⟩;clear hK K;refine GS λK hK=>?_;go_simp;refine⟨.bool false,λw' C=>?_,hK _ ?_⟩
   .have c8:=z b9;by_cases x1:k.kind=2
    .have x2:¬k.num=(c.m:Int)+1:=λh=>c8 ⟨x1,h⟩;simp only[x1,x2,if_true,Aad];exact⟨trivial,trivial⟩
    simp only[x1,Aad];exact⟨trivial,trivial⟩
   clear hK K;refine Hz ?_;intro w5 R;have A:Mi w5 bk (.slice la c.n lc) r1 l a Sc<|FQ c k v:=⟨s.bm.below R,s.e.keep R.size<|R.block _ s.e.lt,s.eb,s.ne⟩;have bd:=bw.trans<|KX.Am R om;have af:Hid<|C9 174 #[.pointer (some<|G bk 0),.pointer (some<|G (a c.n) 0)] w5 λe w'=>(∃u,e=.returned u)/\(∃t S',Mi w' bk (.slice la c.n lc) r1 t a S' {Bx hf c k v with n:=c.n})/\KX Mq bk w w':=O (by
    have c3:=bz _ _ HT bd.C7;have ca:((FQ c k v).L (FQ c k v).n)=⟨k,v,c.turns+1⟩:=gF c k v;have ft:=(Hn Q U).2.2.n;have ak:AY hf (PW hf<|FQ c k v) ((FQ c k v).L (FQ c k v).n).key (FQ c k v).n={Bx hf c k v with n:=c.n}:=by
     have e1:Bx hf c k v=AY hf (B3 (CT hf c) k v) k c.n:=by unfold Bx;rw[C3 (z dz),C3 (z b9)]
     rw[e1,ca,iH Q.core,gG ft];exact Zd hf (B3 (CT hf c) k v) k c.n c.n
    obtain⟨fo,bn⟩:=A.bm.slots.block (b:=l) rfl;have aw:=A.e;refine(OO cg hf bz c3 A.bm cN (λi hi ht=>by
     have bu:i<c.n:=hi;rw[Oc c k v bu]at ht ⊢;exact ch _ (Q.keys i bu ht)) (by rw[Ym];exact fT Q.core U) aw A.eb (by rw[ca];exact ch k hk) (λj hj=>by
     rcases Q.idx.range j hj with e|e|e
     .exact .inl e
     .exact .inr (.inl e)
     exact .inr (.inr e.1)) Q.used).mono ?_
    rintro e w' ⟨⟨hu,t,S',hN⟩,B⟩;rw[ak]at hN;have bp:=B.BH (a c.n) aw.lt (by
     rintro(e|e)
     .have h':bk<a c.n:=A.eb;omega
     exact BC (e▸aw.ob) bn oo)
    refine⟨hu,⟨t,S',hN,?_,A.eb,A.ne⟩,bd.trans<|B.mono λb _ h=>HU _<|h.elim .inl λe=>.inr<|.inr e⟩;have h1:(Bx hf c k v).L c.n=(FQ c k v).L c.n:=ql dU
    show BM w' (a c.n) ((Bx hf c k v).L c.n) c.n;rw[h1];exact aw.keep B.C7.size bp)
   clear A bd R bw a6 ea b4 ec ef eh s;go_wp2_with fail;refine af.mono ?_;rintro e w6 ⟨⟨fq,rfl⟩,⟨fu,Sx,ai⟩,aj⟩;have Z:Hid<|{{Bx hf c k v with n:=c.n}with n:=c.n+1}=Bx hf c k v:=O (by
    have h1:=z dC;generalize Bx hf c k v=M at h1;cases M;simp only at h1;subst h1;rfl)
   have bq:=O ai;have cd:=O aj;clear ai aj af;have P:Mi w6 bk (.slice la c.n lc) r1 fu a Sx {Bx hf c k v with n:=c.n}:=bq
  all_goals
   have b5:=z cd;have bg:Rw w6 (bk+1) DB (.slice la c.n lc) c.n λi=>some<|G (a i) 0:=P.bm.log;have fe:=P.bm.c0;have ff:=P.bm.lt;have bh:Hid (∀(o:Obj) (g3 D:Nat) (w3:Y),w3.ownsRow (bk+1) DB 1 (.slice (some<|G g3 0) (c.n+1) D) (c.n+1) (G8 (λi=>some<|G (a i) 0) c.n++[.pointer (some (G (a c.n) 0))])->((w6).alloc o).grownBy w3 (Value.slice la c.n lc).ownBlock->((Value.slice la c.n lc).ownBlock=some g3\/g3=(w6).heap.size+1)->
     w3.cell? (G bk 0)=some (.slice la c.n lc)/\w3.frozen? (G bk 0)=false/\bk<w3.heap.size/\(∃F t S',AL (w3.setCell (G bk 0) (.slice (some (G g3 0)) (c.n+1) D)) bk (.slice (some (G g3 0)) (c.n+1) D) F t a S' (Bx hf c k v))/\KX Mq bk w (w3.setCell (G bk 0) (.slice (some (G g3 0)) (c.n+1) D))):=O (λo g3 D w3 h1 h2 h3=>by
    obtain⟨p1,p2,p3,p4,p5⟩:=P.fin h1 h2 h3;exact⟨p1,p2,p3,⟨_,_,_,by rw[<-z Z];exact p4⟩,((b5.alloc om o).grown h2 om (λr e=>.inr ⟨oT (P.bm.log.lt r e).1,HU _ (.inr (.inl e))⟩)).setCell (Be _) (λ_=>HU _ (.inl rfl)) _⟩)
   clear P b5;go_wp2_with (at_builtin;refine ON _ rfl _ _ 238 rfl (bk+1) DB i0 (.pointer none) 1 8 underlying238 di dj dk dm rfl oo (.slice la c.n lc) c.n (G8 (λi=>some<|G (a i) 0) c.n) rfl (NX bg _) (G ((w6).heap.size) 0) 1 1 [.pointer (some (G (a c.n) 0))] rfl rfl (Is<|DO _ _) oh oo od om ot ((w6).heap.size+1) oq ?_;intro g3 D w3 ad ah ae c7;obtain⟨x3,f3,fg,b6,b7⟩:=z bh _ g3 D w3 ad ah ae;have cz:=O b6;have cD:=O b7;clear ad ah ae b6 b7);go_end0;obtain⟨F,t,S',hN⟩:=z cz;exact⟨⟨⟨_,rfl⟩,_,F,t,a,S',hN⟩,cD⟩
def AL.wL(h:AL w bk r0 r1 R2 E S d){p}(hp:p<d.n){q}(hz:w'.heap.size=w.heap.size)(hb:∀b,b≠E p->w'.heap[b]?=w.heap[b]?)(s:w'.heap[E p]?=some (.cells (NH q p) 245 (0,0)))(hk:q.key=(d.L p).key\/∀j,j<d.x->d.X j≠(p)+1):AL w' bk r0 r1 R2 E S {d with L:=AW d.L p q}:=by
 have g:=h.CH p hp;have k:E p≠bk:=oT<|h.eb p hp;have hc:∀q,w'.cell? (G bk q)=w.cell? (G bk q):=λq=>As (a:=G bk q)<|hb bk λe=>k e.symm;have o:∀{t:TypeId} {v:V9} {n:Nat} {f:Nat->Option Addr},Rw w (bk+1) t v n f->t≠245->Rw w' (bk+1) t v n f:=λ{t v n f} hh u=>CS hh (λb e=>hb b (λe'=>by
  obtain⟨c,l⟩:=hh.block e;rw[e']at l;exact BC l g.ob u))
 refine⟨by rw[hz];exact h.lt,(hc _).trans h.c0,(hc _).trans h.c1,(hc _).trans h.c2,(hc _).trans h.c3,(hc _).trans h.c4,(hc _).trans h.c5,(hc _).trans h.c6,λq=>(GW (a:=G bk q)<|hb bk λe=>k e.symm).trans<|h.fz q,o h.log oo,o h.ints oo,h.rf,o h.slots oo,h.ap,λi hi=>?_,h.eb,h.inj,λj hj=>?_,h.sg⟩
 .show BM w' (E i) (AW d.L p q i) i;by_cases e:i=p
  .subst e;rw[Ax];exact BM.Yy s
  rw[Ao _ _ e];exact(h.CH i hi).keep om (hb _ λe'=>e<|h.inj i p hi hp e')
 have hs:=(h.sl j hj).keep (w':=w') om (λc m=>hb _ (λe=>by
  rw[e]at m;exact BC m g.ob oo))
 refine⟨λr=>?_,hs.2⟩;have h1:=hs.1 r;show IW w' (S j) (AW d.L p q (d.X j-1).toNat).key (E (d.X j-1).toNat);by_cases e:(d.X j-1).toNat=p
 .rw[e,Ax];rcases hk with hk|hk
  .rw[hk];have h2:IW w' (S j) (d.L (d.X j-1).toNat).key<|E (d.X j-1).toNat:=h1;rw[e]at h2;exact h2
  have A:0<d.X j:=r;exact absurd (show d.X j=(p:Int)+1 by omega)<|hk j hj
 rw[Ao _ _ e];exact h1
def JO(w:Y)(b:Nat)(v:Vl):World:=((((w.setCell (G b 5)<|J v.kind).setCell (G b 6)<|J v.num).setCell (G b 7)<|F9 v.Ah).setCell (G b 8)<|.string v.str).setCell (G b 9)<|J v.ref
def Dq(w:Y)(b:Nat):World:=((((((((((w.setCell (G b 0)<|J 0).setCell (G b 1)<|J 0).setCell (G b 2)<|F9 0).setCell (G b 3)<|E9).setCell (G b 4)<|J 0).setCell (G b 5)<|J 0).setCell (G b 6)<|J 0).setCell (G b 7)<|F9 0).setCell (G b 8)<|E9).setCell (G b 9)<|J 0).setCell (G b 10)<|J 0
def TB(h:b'≠b):(JO w b v).heap[b']?=w.heap[b']?:=by
 unfold JO;iterate 5 (refine(At _ _ _ _<|by exact h).trans ?_)
 rfl
def PO(h:b'≠b):(Dq w b).heap[b']?=w.heap[b']?:=by
 unfold Dq;iterate 11 (refine(At _ _ _ _<|by exact h).trans ?_)
 rfl
def VE{p}(h:BM w b p i):(JO w b v).heap[b]?=some (.cells (NH ⟨p.key,v,p.turn⟩ i) 245 (0,0)):=by
 have h1:=IH w b 5 _ _ (J v.kind) h.ob;have h2:=IH _ b 6 _ _ (J v.num) h1;have h3:=IH _ b 7 _ _ (F9 v.Ah) h2;have h4:=IH _ b 8 _ _ (.string v.str) h3;have h5:=IH _ b 9 _ _ (J v.ref) h4;exact h5.trans<|by simp[NH]
def KA{p}(h:BM w b p i):(Dq w b).heap[b]?=some (.cells (NH default i) 245 (0,0)):=by
 have h1:=IH w b 0 _ _ (J 0) h.ob;have h2:=IH _ b 1 _ _ (J 0) h1;have h3:=IH _ b 2 _ _ (F9 0) h2;have h4:=IH _ b 3 _ _ E9 h3;have h5:=IH _ b 4 _ _ (J 0) h4;have d:=IH _ b 5 _ _ (J 0) h5;have e:=IH _ b 6 _ _ (J 0) d;have f:=IH _ b 7 _ _ (F9 0) e;have g:=IH _ b 8 _ _ E9 f;have a:=IH _ b 9 _ _ (J 0) g;have c:=IH _ b 10 _ _ (J 0) a;exact c.trans<|by simp[NH];exact⟨rfl,rfl,rfl,rfl,rfl,rfl,rfl,rfl,rfl,rfl,rfl⟩
def TA(h:bk<=b):Below bk w<|JO w b v:=by
 unfold JO;iterate 5 (refine On ?_ (by exact h) _)
 exact BE _ _
def PN(h:bk<=b):Below bk w<|Dq w b:=by
 unfold Dq;iterate 11 (refine On ?_ (by exact h) _)
 exact BE _ _
def VF:(JO w b v).heap.size=w.heap.size:=by unfold JO;simp
def QO:(Dq w b).heap.size=w.heap.size:=by unfold Dq;simp
def bA(g:EJ T){hf}{K}(h:∀v,K v->Qt T v (hf v)){bk}(k:∀w w',T w->Below bk w w'->T w'){r0 r1}{R2}{E S}{d}{W:Y}(n:T W)(o:AL W bk r0 r1 R2 E S d)(p:Small d)(c:BW K hf d)(f:Ep d):
  C9 171 #[Q9 bk] W λe w'=>((∃u,e=.returned u)/\∃a b l S',AL w' bk a r1 b l S'<|Ap hf d)/\Below bk W w':=by
 refine(Nz g hf k n o p (λi hi q=>h _<|c.keys i hi q) (by have:=c.core.KY;have:=c.le;omega) (λj hj=>by
  rcases c.ints j hj with e|e
  .exact .inl e
  .exact .inr ⟨e.1,e.2.1,e.2.2.1⟩) (λj hj r=>by
  rcases c.idx.range j hj with e|e|⟨e1,e2,e3,_⟩
  .omega
  .omega
  exact⟨om,e3⟩)).mono ?_
 rintro e w' ⟨⟨hu,a,b,l,S',hN⟩,m⟩;exact⟨⟨hu,a,b,l,S',hN.Lm c.core<|by have:=f.1;have:=f.2;omega⟩,m.C7⟩
def ZY(h:¬Ep d):Ap hf d=d:=DD (by
 by_cases a:(d.n:Int)<8
 .exact .inl a
 exact .inr (by
  refine AaO λh2=>h ⟨om,om⟩))
def Xq(T)(aq:EJ T)(hf)(K)(KL:KeyLaw K hf)(bg:∀v,K v->Qt T v (hf v))(bk)(bh:∀w w',T w->Below bk w w'->T w')(r0 r1)(R2)(E S)(d)(p)(w)(hT:T w)(Q:AL w bk r0 r1 R2 E S d)(D:Small d)
  (F:Inv K hf d) (hp:p<d.n) (ht:(d.L p).turn≠0):
  C9 155 #[.pointer (some<|G bk 0),.pointer (some<|G (E p) 0)] w λe w'=>((∃u,e=.returned u)/\∃ar f au E2 S',AL w' bk ar f au E2 S'<|Wv hf d p)/\Below bk w w':=by
 rcases Fq KL F.i0 F.next hp ht,Q.lt,Q.CH p hp with⟨⟨g1,g2,g3,g4,g5,g6⟩,cc,t⟩;rcases t.k0,t.k1,t.k2,t.k3,t.k4,t.lt,Q.eb p hp,Q.rf,Q.c1 with⟨k0,k1,k2,k3,k4,av,cd,⟨R1,q1,e1⟩,c1⟩;rw[e1]at c1;rcases D.m,F.i0.log.CX,F.i0.le with⟨bj,cb,cg⟩;have ch:1<=d.live:=by
  have h1:=LR hp ht;have h3:CF d d.n=K0 d:=rfl;omega
 have cj:IntKind.i64.wrap (d.live-1)=d.live-1:=oj;have END:∀(W:Y) (f:V9) (S':Nat->Nat) (c:Dc),Below bk w W->AL W bk r0 f R2 E S' c->c.n=d.n->c.L=d.L->(∀j,j<c.x->c.X j≠(p:Int)+1)->{c with L:=AW c.L p default,live:=d.live-1}=GG hf d p->c.live=d.live->Small c->
   (W.frozen? (G (E p) 0)=false/\∀q,W.frozen? (G (E p) q)=false)/\E p<W.heap.size/\BM W (E p) (d.L p) p/\BM (Dq W<|E p) (E p) default p/\AL (Dq W<|E p) bk r0 f R2 E S' {c with L:=AW c.L p default}/\AL ((Dq W<|E p).setCell (G bk 5)<|J<|d.live-1) bk r0 f R2 E S' (GG hf d p)/\Below bk w ((Dq W<|E p).setCell (G bk 5)<|J<|d.live-1):=λW f S' c hB B hn hL hx hg hl hs=>by
  have he:BM W (E p) (d.L p) p:=by have:=B.CH p om;rwa [hL]at this
  have g:=B.wL om QO (λb hb=>PO hb) (KA he)<|.inr hx;have ak:=g.GQ<|d.live-1;have ak:AL ((Dq W<|E p).setCell (G bk 5)<|J<|d.live-1) bk r0 f R2 E S' {c with L:=AW c.L p default,live:=d.live-1}:=ak;rw[hg]at ak;have bm:∀q,W.frozen? (G (E p) q)=false:=λq=>by simp[World.frozen?,he.ob]
  exact⟨⟨bm 0,bm⟩,he.lt,he,BM.Yy<|KA he,g,ak,(hB.trans<|PN om).setCell (by exact Be _) _⟩
 have ag:=O END;have R:∀(W:Y) (f:V9) (S':Nat->Nat),Below bk w W->AL W bk r0 f R2 E S' (GG hf d p)->Small (GG hf d p)->(C9 170 #[.pointer (some<|G bk 0)] W<|R9 (.bool<|tells<|Ep<|GG hf d p) W)/\(∀W',B9 W W'->Ep (GG hf d p)->C9 171 #[.pointer (some<|G bk 0)] W' λe w'=>((∃u,e=.returned u)/\∃ar au E2 S',AL w' bk ar f au E2 S'<|Wv hf d p)/\Below bk W' w')/\(∀W',B9 W W'->¬Ep (GG hf d p)->AL W' bk r0 f R2 E S' (Wv hf d p)):=λW f S' hB B hs=>by
  refine⟨Nn B hs (by rw[g5];omega)<|by rw[g5];omega,λW' A k=>?_,λW' A k=>?_⟩
  .exact bA aq bg bh (bh _ _ hT<|hB.trans<|A.mono<|oT B.lt) (B.below A) hs g1 k
  show AL W' bk r0 f R2 E S' (Ap hf<|GG hf d p);rw[ZY k];exact B.below A
 have ai:=O R;by_cases hs:AA d.m (d.L p).key
 focus
  have aw:=O<|Al hs;obtain⟨a1,a2,a3⟩:=hs;obtain⟨q,hq⟩:∃q:Nat,(d.L p).key.num=(q:Int)+1:=⟨((d.L p).key.num-1).toNat,om⟩;have bz:q<d.m:=om;have HG:Hid<|{{d with m:=shrink (AW d.I q 0) d.m,I:=AW d.I q 0}with L:=AW d.L p default,live:=d.live-1}=GG hf d p:=O (by
   rw[J0 ⟨a1,a2,a3⟩];unfold goSmall;rw[show((d.L p).key.num-1).toNat=q by omega];rfl)
  have U:∀j,j<d.x->d.X j≠(p:Int)+1:=λj hj e=>by
   rcases F.i0.idx.range j hj with h|h|⟨h1,h2,h3,h4⟩
   .omega
   .omega
   rw[show(d.X j-1).toNat=p by omega]at h4;exact h4 ⟨a1,a2,a3⟩
  have ck:=(JF (AW d.I q 0) d.m).1;have Z:Hid<|∀W,B9 w W->C9 168 #[.pointer (some<|G bk 0),J ((q:Int)+1)] W λe w'=>((∃u,e=.returned u)/\∃f,AL w' bk r0 f R2 E S {d with m:=shrink (AW d.I q 0) d.m,I:=AW d.I q 0})/\Below bk W w':=O (λW hW=>QP q (Q.below hW) D bz (λj hj=>by
   rcases F.i0.ints j hj with e|e<;>omega))
  have HQ:=O hq;have ax:=O U;clear a1 a2 a3 hq U Q hT F END R g1 g2 g3 g4 g5 g6;go_enter func155,ntmps155;go_wp2_with fail;refine qr w ?_;(iterate 10 refine N (h:=?_));refine GS λK hK=>?_;go_simp;apply Exists.intro;refine qp (λw' ae=>?_) (hK _ ?_)
  .refine((z aw)▸Cr (d.L p).key d.m _ bj).mono ?_;rintro e b0 ⟨rfl,hb⟩;exact⟨rfl,o9 ae hb⟩
  clear hK K;refine Hz ?_;intro w1 l;have b1:=(l.cell av).trans k1;rw[z HQ]at b1;have r:=A0 av l.size;have af:=O l;clear l k0 k1 k2 k3 k4 c1;go_wp2_with fail;refine(Z _ af).mono ?_;rintro e w2 ⟨⟨⟨uu,rfl⟩,f,g⟩,ao⟩;rcases z ag w2 f S _ (af.mono om |>.trans ao) g rfl rfl ax HG rfl ⟨D.n,by show shrink (AW d.I q 0) d.m<=_;omega,D.x⟩,g.c5,g.fz 5,g.lt with⟨⟨⟨b2,ff⟩,l2,e2,bn,m2,m3,b3⟩,c5,f5,b4⟩;rcases e2.k0,e2.k1,e2.k2,e2.k3,e2.k4,e2.v0,e2.v1,e2.v2,e2.v3,e2.v4,e2.tn with⟨z0,z1,z2,z3,z4,z5,z6,z7,z8,z9,b5⟩;have bp:Small<|GG hf d p:=by rw[<-z HG];exact⟨D.n,by show shrink (AW d.I q 0) d.m<=_;omega,D.x⟩
 rotate_left
 focus
  have aw:=O<|Ag hs;obtain⟨s,bq,b6,ay⟩:=F.i0.found KL (F.i0.keys p hp ht) ⟨hp,ht,hs⟩<|KL.refl _<|F.i0.keys p hp ht;have HG:Hid<|{{d with X:=AW d.X s (-1)}with L:=AW d.L p default,live:=d.live-1}=GG hf d p:=O (by rw[Lu hs ay];rfl);have U:∀j,j<d.x->AW d.X s (-1) j≠(p:Int)+1:=λj hj e=>by
   by_cases ej:j=s
   .rw[ej,Ax]at e;omega
   rw[Ao _ _ ej]at e;exact ej (F.i0.idx.uniq j s hj bq om om)
  have aj:Hid<|∀W,B9 w W->C9 158 #[.pointer (some<|G bk 2),V (d.L p).key.kind (d.L p).key.num (d.L p).key.Ah (d.L p).key.str (d.L p).key.ref] W (R9 (J (s:Int)) W):=O (λW hW=>by
   obtain⟨b7,b8,hB⟩:=(Q.below hW).book;have:=O4 T aq bk b7 b8 R2 E S d (d.L p).key (hf (d.L p).key) (bg _ (F.i0.keys p hp ht)) W (aq _ _ hT hW) hB D F.i0.d4;rw[ay]at this;exact this)
  have Z:Hid<|∀W,B9 w W->C9 169 #[.pointer (some<|G bk 2),J (s:Int)] W λe w'=>((∃u,e=.returned u)/\∃S',AL w' bk r0 r1 R2 E S' {d with X:=AW d.X s (-1)})/\KX (λb=>b=R2) bk W w':=O λW hW=>Jn s (Q.below hW) D bq;obtain⟨cl,ah⟩:=Q.slots.block (b:=R2) rfl;have bc:E p≠R2:=λe=>BC (e▸t.ob) ah oo;have ax:=O U;clear hs U Q hT F END R g1 g2 g3 g4 g5 g6 b6 ay ah;go_enter func155,ntmps155;go_wp2_with fail;refine qr w ?_;(iterate 10 refine N (h:=?_));refine GS λK hK=>?_;go_simp;apply Exists.intro;refine qp (λw' ae=>?_) (hK _ ?_)
  .refine((z aw)▸Cr (d.L p).key d.m _ bj).mono ?_;rintro e b0 ⟨rfl,hb⟩;exact⟨rfl,o9 ae hb⟩
  clear hK K;refine Hz ?_;intro w1 l;have i:=t.keep l.size<|l.block _ av;have H:Lf (E p) (d.L p).key w1.drew:=⟨i.k0,i.k1,i.k2,i.k3,i.k4⟩;rcases i.lt,l.size,O l with⟨r,cm,af⟩;clear l k0 k1 k2 k3 k4 c1 i;go_wp2_with fail;refine Hx (Lf (E p) (d.L p).key) ?_;refine tz 0 (h:=tz 1 (h:=tz 2 (h:=tz 3 (h:=tz 4 (h:=tz 5 (h:=tz 6 (h:=tz 7 (h:=tz 8 (h:=tz 9 (h:=tz 10 (h:=?_)))))))))));refine ry 11 λK hK=>?_;go_simp;refine(aj _ af.drew).mono ?_;rintro e wf ⟨rfl,o⟩;have o:=(BE w1.heap.size w1).drew.trans o;have C:Lf (E p) (d.L p).key wf:=⟨(o.cell (p:=G (E p) 0) r).trans H.1,(o.cell (p:=G (E p) 1) r).trans H.2.1,(o.cell (p:=G (E p) 2) r).trans H.2.2.1,(o.cell (p:=G (E p) 3) r).trans H.2.2.2.1,(o.cell (p:=G (E p) 4) r).trans H.2.2.2.2⟩;refine hK.out _ _ C λ_=>?_;clear hK K H;have cn:=o.size;have br:=af.trans<|o.mono om;clear o;refine ry 12 λK hK=>?_;go_simp;refine(Z _ br).mono ?_;rintro e w2 ⟨⟨⟨uu,rfl⟩,S2,g⟩,ad⟩;have ao:=ad.C7;have M:=ad.BH (E p) om bc;refine hK.out _ _ ⟨(As (a:=G (E p) 0) M).trans C.1,(As (a:=G (E p) 1) M).trans C.2.1,(As (a:=G (E p) 2) M).trans C.2.2.1,(As (a:=G (E p) 3) M).trans C.2.2.2.1,(As (a:=G (E p) 4) M).trans C.2.2.2.2⟩ λ_=>?_;clear hK K C ad M;refine FI ?_;rcases z ag w2 r1 S2 _ (br.mono om |>.trans ao) g rfl rfl ax HG rfl ⟨D.n,D.m,D.x⟩,g.c5,g.fz 5,g.lt with⟨⟨⟨b2,ff⟩,l2,e2,bn,m2,m3,b3⟩,c5,f5,b4⟩;rcases e2.k0,e2.k1,e2.k2,e2.k3,e2.k4,e2.v0,e2.v1,e2.v2,e2.v3,e2.v4,e2.tn with⟨z0,z1,z2,z3,z4,z5,z6,z7,z8,z9,b5⟩;have bp:Small<|GG hf d p:=by rw[<-z HG];exact⟨D.n,D.m,D.x⟩
 all_goals
  obtain⟨L1,L2,L3⟩:=z ai _ _ _ b3 m3 bp;unfold Dq at L1 L2 L3 b3;rcases O L1,O L2,O L3,O b3 with⟨az,aM,a6,bt⟩;clear g ao e2 bn m2 m3 b3 L1 L2 L3;go_wp2_with fail;by_cases k:Ep (GG hf d p)
  .have a7:=O<|Al k;have bd:=O λW' A=>aM W' A k;clear k aM a6;refine az.mono ?_;rintro e w5 ⟨rfl,P⟩;rw[z a7];have bu:=O P;clear P;go_wp2_with fail;refine(bd _ bu).mono ?_;rintro e w6 ⟨⟨⟨cp,rfl⟩,b9,ca,E6,S6,bw⟩,bx⟩;have a8:=bt.trans<|(bu.mono ot).trans bx;have bb:=O bw;clear bw bx;go_wp2;go_end0;exact⟨⟨⟨_,rfl⟩,b9,_,ca,E6,S6,bb⟩,a8⟩
  have a7:=O<|Ag k;have bf:=O λW' A=>a6 W' A k;clear k aM a6;refine az.mono ?_;rintro e w5 ⟨rfl,P⟩;rw[z a7];have a8:=bt.trans<|P.mono ot;have bb:=z bf _ P;clear P az;go_wp2;go_end0;exact⟨⟨⟨_,rfl⟩,_,_,_,_,_,bb⟩,a8⟩
def uL:Prop:=∀(T:World->Prop) (f:EJ T) (hf:Vl->Nat) (K:Vl->Prop) (j:KeyLaw K hf) (g:∀v,K v->Qt T v (hf v)) (bk:Nat) (h:∀w w',T w->Below bk w w'->T w') (r0 r1:V9) (R2:Nat) (E S:Nat->Nat) (d:Dc) (p:Nat) (w:Y) (k:T w) (l:AL w bk r0 r1 R2 E S d) (m:Small d)
  (o:Inv K hf d) (hp:p<d.n) (q:(d.L p).turn≠0),
  C9 155 #[Q9 bk,Q9 (E p)] w λe w'=>((∃u,e=.returned u)/\∃a b c i S',AL w' bk a b c i S'<|Wv hf d p)/\Below bk w w'
def yH:uL:=Xq
def M5(k v:Vl):Prop:=(v.kind=0->uL)/\(k.kind=2/\0<k.num->qH)
theorem pW k v:M5 k v:=⟨λ_=>yH,λ_=>xW⟩
def pM(p:Int)(d:Dc)(k:Vl)(bk:Nat)(r0:V9)(R2 b:Nat):Prop:=p=-1->aM d k bk r0 R2 b
def YK(B:EJ T){hf}{K}(KL:KeyLaw K hf)(Z:∀v,K v->Qt T v (hf v)){bk}(aj:∀w w',T w->Below bk w w'->T w'){r0 r1}{R2}{E S}{d}{k}(v){w:Y}(hT:T w)(C:AL w bk r0 r1 R2 E S d)(hS:Small d)(aq:d.m<=4000000)
  (Q:Inv K hf d) (hk:K k) (ar:Ch k=true) (hv:v.ok=true) (hR:M5 k v):
  C9 140 #[Q9 bk,V k.kind k.num k.Ah k.str k.ref,V v.kind v.num v.Ah v.str v.ref] w λe w'=>((∃u,e=.returned u)/\∃n o p R S',AL w' bk n o p R S'<|Ca hf d k v)/\KX (pM (Ay d k<|hf k) d k bk r0 R2) bk w w':=by
 have ak:0<=Ay d k (hf k)->∀b,pM (Ay d k<|hf k) d k bk r0 R2 b:=λh b h'=>om;have ao:∀b,aM d k bk r0 R2 b->pM (Ay d k<|hf k) d k bk r0 R2 b:=λb h _=>h;generalize pM (Ay d k<|hf k) d k bk r0 R2=Mq at*;have au:=O ak;have av:=O ao;clear ak ao;have U:=C.lt;have c:B9 w<|(w.alloc<|.cells (qi k) 32).alloc<|.cells (qi v) 32:=(n9).alloc oq _;have g:Hid<|OG ((w.alloc<|.cells (qi k) 32).alloc<|.cells (qi v) 32) w.heap.size k/\OG ((w.alloc<|.cells (qi k) 32).alloc<|.cells (qi v) 32) (w.heap.size+1) v:=O ⟨⟨ot,oe,oe,oe,oe,oe⟩,⟨oq,oe,oe,oe,oe,oe⟩⟩;have t:∀W,B9 w W->C9 142 #[Q9 bk,V k.kind k.num k.Ah k.str k.ref] W (R9 (.pointer<|Dr E<|Ay d k<|hf k) W):=λW D=>by
  obtain⟨bc,bd,hB⟩:=(C.below D).book;exact JU B (Z k hk) (B _ _ hT D) hB hS Q.i0.d3 Q.i0.d4
 rcases Q.i0.place KL hk with⟨i,h1,h2,h3,h4⟩|⟨h1,h2⟩
 .have hp:0<=Ay d k (hf k):=om;have HU:=O<|au hp;have hi:(Ay d k<|hf k).toNat=i:=om;have x:Dr E (Ay d k<|hf k)=some (G (E i) 0):=by unfold Dr;rw[DD hp,hi]
  rw[x]at t;have l:=O t;have aw:=C.eb i h1;by_cases A:v.kind=0
  .have j:Hid<|Ca hf d k v=Wv hf d i:=O (by rw[Og hp A,hi]);have ah:Hid<|∀W,B9 w W->C9 155 #[Q9 bk,Q9 (E i)] W λe w'=>((∃u,e=.returned u)/\∃n o p R S',AL w' bk n o p R S'<|Wv hf d i)/\Below bk W w':=O λW D=>hR.1 A T B hf K KL Z bk aj r0 r1 R2 E S d i W (B _ _ hT D) (C.below D) hS Q h1 h2;have HV:=O A;rw[z j];clear C hT hS Q h2 h3 h4 hp hi x t A;go_enter func140,ntmps140;go_wp2_with fail;refine(l _ c).mono ?_;rintro e w1 ⟨rfl,a⟩;have r:=g.2.keep a.size<|a.block _ g.2.lt;have v0:=r.k0;rw[z HV]at v0;have s:=o9 c a;clear a r;go_wp2_with fail;refine(ah _ s).mono ?_;rintro e w2 ⟨⟨⟨uu,rfl⟩,n,o,p,R,S',F⟩,H⟩;have ad:=O F;have I:=(s.mono<|Aaa U).trans H;clear F H;go_wp2;go_end0;exact⟨⟨⟨_,rfl⟩,n,o,p,R,S',ad⟩,I,λb _ h=>absurd (HU b) h⟩
  have j:Hid<|Ca hf d k v=II d i v:=O (by rw[LP hp A,hi]);have a6:(v.kind !=0)=true:=by simp[A]
  have X:Hid<|∀W,B9 w W->BM W (E i) (d.L i) i/\AL (JO W (E i) v) bk r0 r1 R2 E S (II d i v):=O (λW D=>by
   have P:=(C.below D).CH i h1;exact⟨P,(C.below D).wL h1 VF (λb hb=>TB hb) (VE P) (.inl rfl)⟩)
  rw[z j];clear C hT hS Q h2 h3 h4 hp hi x t A;go_enter func140,ntmps140;go_wp2_with fail;refine(l _ c).mono ?_;rintro e w1 ⟨rfl,a⟩;have r:=g.2.keep a.size<|a.block _ g.2.lt;rcases r.k0,r.k1,r.k2,r.k3,r.k4,o9 c a with⟨v0,v1,v2,v3,v4,f⟩;obtain⟨P,hN⟩:=z X _ f;have bf:∀q,w1.frozen? (G (E i) q)=false:=λq=>by simp[World.frozen?,P.ob]
  rcases P.v0,P.v1,P.v2,P.v3,P.v4,(f.mono<|Aaa U).trans (TA (bk:=bk) (w:=w1) (b:=E i) (v:=v)<|Aaa aw) with⟨z5,z6,z7,z8,z9,I⟩;clear a r f P X g l c;go_wp2;go_end0;exact⟨⟨⟨_,rfl⟩,_,_,_,_,_,hN⟩,I,λb _ h=>absurd (HU b) h⟩
 have hp:¬0<=Ay d k (hf k):=om;have x:Dr E (Ay d k<|hf k)=none:=by unfold Dr;rw[C3 hp]
 rw[x]at t;have l:=O t;by_cases hc:v.kind≠0/\d.live<500/\d.turns<1000000000000
 .have j:=O<|Hk hp hc;obtain⟨ae,af,ag⟩:=hc;have a7:(v.kind !=0)=true:=by simp[ae]
  have a8:decide (d.live<500)=true:=by simp[af]
  have bb:decide (d.turns<1000000000000)=true:=by simp[ag]
  have ai:Hid<|∀W,B9 w W->C9 156 #[Q9 bk,V k.kind k.num k.Ah k.str k.ref,V v.kind v.num v.Ah v.str v.ref] W λe w'=>((∃u,e=.returned u)/\∃n o p R S',AL w' bk n o p R S'<|GF hf d k v)/\KX Mq bk W w':=O λW D=>lC B KL Z aj v (B _ _ hT D) (C.below D) hS aq Q hk ar hv ae h1 af ag hR.2 |>.mono λe w' h=>⟨h.1,h.2.mono λb _=>av b⟩;have HM:=O C;rw[z j];clear C hT hS Q h1 h2 hp x t ae af ag;go_enter func140,ntmps140;go_wp2_with fail;refine(l _ c).mono ?_;rintro e w1 ⟨rfl,a⟩;rcases o9 c a,g.2.keep a.size<|a.block _ g.2.lt,g.1.keep a.size (a.block _ g.1.lt) with⟨f,r,vk⟩;rcases r.k0,r.k1,r.k2,r.k3,r.k4,vk.k0,vk.k1,vk.k2,vk.k3,vk.k4,(HM.below f).c5,(HM.below f).c6,O f with⟨v0,v1,v2,v3,v4,y0,y1,y2,y3,y4,c5,c6,s⟩;clear a r vk f;go_wp2_with fail;refine(ai _ s).mono ?_;rintro e w2 ⟨⟨⟨uu,rfl⟩,n,o,p,R,S',F⟩,H⟩;have ad:=O F;have I:=(KX.Am s<|Aaa U).trans H;clear F H;go_wp2;go_end0;exact⟨⟨⟨_,rfl⟩,n,o,p,R,S',ad⟩,I⟩
 have j:=O<|Hl hp hc;have HM:=O C;rw[z j];have ax:v.kind=0\/(v.kind≠0/\¬d.live<500)\/(v.kind≠0/\d.live<500/\¬d.turns<1000000000000):=by
  by_cases e1:v.kind=0
  .exact .inl e1
  by_cases e2:d.live<500
  .exact .inr (.inr ⟨e1,e2,λe3=>hc ⟨e1,e2,e3⟩⟩)
  exact .inr<|.inl ⟨e1,e2⟩
 clear C hT hS Q h1 h2 hp x t hc;go_enter func140,ntmps140;go_wp2_with fail;refine(l _ c).mono ?_;rintro e w1 ⟨rfl,a⟩;have f:=o9 c a;have r:=g.2.keep a.size<|a.block _ g.2.lt;have v0:=r.k0;have M:=HM.below f;have c5:=M.c5;have c6:=M.c6;have s:KX Mq bk w w1:=KX.Am f<|Aaa U;clear a r f;rcases ax with e1|⟨e1,e2⟩|⟨e1,e2,e3⟩
 .rw[e1]at v0;clear e1;go_wp2;go_end0;exact⟨⟨⟨_,rfl⟩,_,_,_,_,_,M⟩,s⟩
 .have ay:(v.kind !=0)=true:=by simp[e1]
  have az:decide (d.live<500)=false:=by simp[e2]
  clear e1 e2;go_wp2;go_end0;exact⟨⟨⟨_,rfl⟩,_,_,_,_,_,M⟩,s⟩
 have ay:(v.kind !=0)=true:=by simp[e1]
 have az:decide (d.live<500)=true:=by simp[e2]
 have bg:decide (d.turns<1000000000000)=false:=by simp[e3]
 clear e1 e2 e3;go_wp2;go_end0;exact⟨⟨⟨_,rfl⟩,_,_,_,_,_,M⟩,s⟩
structure DV (d:Dc) (w:Y) (v0 v1 v2:V9) (lo hi:Nat):Prop where
 log:N1 d.L d.n w v0 lo hi
 ints:Kk d.I d.m w v1 lo hi
 index:Kk d.X d.x w v2 lo hi
 wZ:∀q,v0.ownBlock=some q->v1.ownBlock≠some q
 xA:∀q,v0.ownBlock=some q->v2.ownBlock≠some q
 a12:∀q,v1.ownBlock=some q->v2.ownBlock≠some q
abbrev oX(v0 v1 v2:V9)(d:Dc):Value:=.agg #[v0,v1,v2,J d.used,J d.live,J d.turns]
def DV.keep(h:DV d w v0 v1 v2 lo hi)(hk:∀b,lo<=b->b<hi->w'.heap[b]?=w.heap[b]?):DV d w' v0 v1 v2 lo hi:=
 ⟨h.log.keep hk,h.ints.keep λb _=>hk b,h.index.keep λb _=>hk b,h.wZ,h.xA,h.a12⟩
theorem DV.at(h:DV d w v0 v1 v2 lo hi):∃la lc ia ic xa xc,v0=.slice la d.n lc/\v1=.slice ia d.m ic/\v2=.slice xa d.x xc/\FJ w la ia xa d:=by
 obtain⟨la,lc,rfl,a⟩:=h.log.at;obtain⟨ia,ic,rfl,h1⟩:=h.ints.at;obtain⟨xa,xc,rfl,h2⟩:=h.index.at;exact⟨la,lc,ia,ic,xa,xc,rfl,rfl,rfl,a,h1,h2⟩
theorem N1.own{v}(h:N1 f n w v lo hi){b}(e:v.ownBlock=some b):lo<=b/\b<hi/\b<w.heap.size:=by
 rcases h with⟨a,rfl⟩|⟨b',cp,Z,g,rfl,h2,h3,h4,h5,c⟩
 .cases e
 have e':b'=b:=oS e;subst e';exact⟨h2,h3,RC h4⟩
structure EP (w wr:Y) (v0 v1 v2:V9) (d:Dc):Prop where
 b0:wr.heap[w.heap.size]?=some (.cells #[N9,N9,N9,J 0,J 0,J 0] 69 (0,0))
 b1:wr.heap[w.heap.size+1]?=some (.cells #[v0,v1,v2,J d.used,J d.live,J d.turns] 69 (0,0))
 C7:B9 w wr
theorem EP.size(h:EP w wr v0 v1 v2 d):w.heap.size+1<wr.heap.size:=(GC.1 h.b1).1
def EP.cells(h:EP w wr v0 v1 v2 d):wr.cell? (Y9 w 0)=some v0/\wr.cell? (Y9 w 1)=some v1/\wr.cell? (Y9 w 2)=some v2/\wr.cell? (Y9 w 3)=some (J d.used)/\wr.cell? (Y9 w 4)=some (J d.live)/\wr.cell? (Y9 w 5)=some (J d.turns)/\∀q,wr.frozen? (Y9 w q)=false:=
 by simp[World.cell?,World.frozen?,h.b1]
def EP.keep(h:EP w wr v0 v1 v2 d)(a:w'.heap[w.heap.size]?=wr.heap[w.heap.size]?)(h1:w'.heap[w.heap.size+1]?=wr.heap[w.heap.size+1]?)(hb:B9 w w'):EP w w' v0 v1 v2 d:=⟨a.trans h.b0,h1.trans h.b1,hb⟩
def EP.tD(h:EP w wr v0 v1 v2 d):EP w (wr.setCell (Y9 w 0) u) u v1 v2 d:=
 ⟨(At _ _ _ _<|by show w.heap.size≠w.heap.size+1;omega).trans h.b0,(IH _ _ _ _ _ _ h.b1).trans oq,h.C7.setCell ox _⟩
def EP.iM(h:EP w wr v0 v1 v2 d):EP w (wr.setCell (Y9 w 1) u) v0 u v2 d:=
 ⟨(At _ _ _ _<|by show w.heap.size≠w.heap.size+1;omega).trans h.b0,(IH _ _ _ _ _ _ h.b1).trans oq,h.C7.setCell ox _⟩
def EP.iN(h:EP w wr v0 v1 v2 d):EP w (wr.setCell (Y9 w 2) u) v0 v1 u d:=
 ⟨(At _ _ _ _<|by show w.heap.size≠w.heap.size+1;omega).trans h.b0,(IH _ _ _ _ _ _ h.b1).trans oq,h.C7.setCell ox _⟩
def Kp(f:Nat->Int)(k j:Nat):Int:=if j<k then f j else 0
theorem MZ f k:AW (Kp f k) k (f k)=Kp f (k+1):=by
 grind [AW,Kp,Ax,Ao]
def R3 f k(h:f k=0):Kp f k=Kp f (k+1):=by
 grind [Kp,MZ,Ax,Ao]
theorem Bt.congr{B}{v}{f g}(h:Bt w B v n f)(e:∀i,i<n->g i=f i):Bt w B v n g:=by
 have hl:iL g n=iL f n:=by
  apply AaF;grind [KS,C4]
 grind [iL]
def Q4(e:Nat)(p:Pr)(W:Y):Prop:=W.cell? (G e 0)=some (J p.key.kind)/\W.cell? (G e 1)=some (J p.key.num)/\W.cell? (G e 2)=some (F9 p.key.Ah)/\W.cell? (G e 3)=some (.string p.key.str)/\W.cell? (G e 4)=some (J p.key.ref)/\W.cell? (G e 5)=some (J p.val.kind)/\W.cell? (G e 6)=some (J p.val.num)/\W.cell? (G e 7)=some (F9 p.val.Ah)/\W.cell? (G e 8)=some (.string p.val.str)/\W.cell? (G e 9)=some (J p.val.ref)/\W.cell? (G e 10)=some (J p.turn)
def BM.held{p}(h:BM w b p i):Q4 b p w:=⟨h.k0,h.k1,h.k2,h.k3,h.k4,h.v0,h.v1,h.v2,h.v3,h.v4,h.tn⟩
def oY(bk:Nat)(a b c:Int)(W:Y):Prop:=W.cell? (G bk 4)=some (J a)/\W.cell? (G bk 5)=some (J b)/\W.cell? (G bk 6)=some (J c)
def cE(c g m e:Nat)(x:Int)(W:Y):Prop:=W.cell? (G c 1)=some (S9 g m m)/\W.cell? (G e 11)=some (J x)
def cI(c g m s e:Nat)(x:Int)(W:Y):Prop:=W.cell? (G c 2)=some (S9 g m m)/\W.cell? (G s 5)=some (Q9 e)/\W.cell? (G e 11)=some (J x)
def Ud(hM:AL w bk r0 r1 R2 E S d)(hS:Small d)(hI:∀j,j<d.m->0<=d.I j/\d.I j<=d.n)(hX:∀j,j<d.x->d.X j=0\/d.X j=-1\/(0<d.X j/\d.X j<=d.n)):
  C9 141 #[.pointer (some<|G bk 0)] w λe w'=>(∃v0 v1 v2,e=.returned (oX v0 v1 v2 d)/\DV d w' v0 v1 v2 w.heap.size w'.heap.size)/\B9 w w':=by
 rcases Ok EX,hS.n,hS.m,hS.x,hM.log.slice,hM.rf with⟨⟨i0,ca,cb,cd,cg⟩,hn,hm,hx,⟨a0,l0,e0⟩,⟨Q1,l1,e1⟩⟩;subst e0 e1;rcases hM.lt,hM.c0,hM.c4,hM.c5,hM.c6,Gi d.m hm,Gi d.x hx,O hI,O hX with⟨A,c0,c4,c5,c6,cz,cD,HI,HX⟩;clear hS hI hX;go_enter func141,ntmps141;go_wp2_with fail;refine Hx (oY bk d.used d.live d.turns) ?_;have C:∀o,B9 w<|w.alloc o:=λo=>n9;have W:∀o,B9 w (w.alloc o).drew:=λo=>(C o).drew;have s:∀o,oY bk d.used d.live d.turns (w.alloc o).drew:=λo=>⟨((W o).cell (p:=G bk 4) A).trans c4,((W o).cell (p:=G bk 5) A).trans c5,((W o).cell (p:=G bk 6) A).trans c6⟩;have bf:=s<|.cells #[N9,N9,N9,J 0,J 0,J 0] 69;refine tz 0 (h:=tz 1 (h:=tz 2 (h:=tz 3 (h:=tz 4 (h:=tz 5 (h:=tz 6 (h:=tz 7 (h:=tz 8 (h:=tz 9 (h:=tz 10 (h:=tz 11 (h:=?_))))))))))));refine tz 12 (h:=tz 13 (h:=?_));refine ry 14 λK hK=>?_;go_simp;refine hK.out _ _ ⟨(((C _).alloc oq _).drew.cell (p:=G bk 4) A).trans c4,(((C _).alloc oq _).drew.cell (p:=G bk 5) A).trans c5,(((C _).alloc oq _).drew.cell (p:=G bk 6) A).trans c6⟩ λB=>?_;clear hK K;refine ry 15 λK hK=>?_;go_simp;refine hK.out _ _ ⟨(((C _).alloc oq _).drew.cell (p:=G bk 4) A).trans c4,(((C _).alloc oq _).drew.cell (p:=G bk 5) A).trans c5,(((C _).alloc oq _).drew.cell (p:=G bk 6) A).trans c6⟩ λ_=>?_;clear hK K B s bf;refine FI ?_;obtain⟨W1,a6⟩:=qa<|((w.alloc<|.cells #[N9,N9,N9,J 0,J 0,J 0] 69).alloc<|.cells #[N9,N9,N9,J d.used,J d.live,J d.turns] 69).drew;rw[<-a6];have a7:EP w W1 N9 N9 N9 d:=by
  rw[a6];refine⟨(E1 _ _ _ oq).trans<|DO _ _,?_,((C _).alloc oq _).drew⟩;have h1:=DO (w.alloc<|.cells #[N9,N9,N9,J 0,J 0,J 0] 69)<|.cells #[N9,N9,N9,J d.used,J d.live,J d.turns] 69;rw[World.size_alloc]at h1;exact h1
 have ch:=(a7.C7.cell A).trans c0;clear a6 C W c0 c4 c5 c6;go_wp2_with fail;clear ch;go_loopw [29] (λi wr=>∃(k:Nat) (v0:V9),k<=d.n/\i=J (k:Int)/\BU wr (w.heap.size+2) v0 k d.L/\EP w wr v0 N9 N9 d) λi _=>d.n-(intOf i).toNat
 .exact⟨0,N9,om,rfl,IF _ _ _ _,a7⟩
 clear a7;obtain⟨k,v0,hk,rfl,H,f⟩:=hrel;have c:=hM.below f.C7;have aw:=f.size;by_cases l:k<d.n
 .obtain⟨g0,cN,e0,_,c7,_,bq,_⟩:=c.log.form om;cases e0;have rk:=bq k l;have Z:=c.CH k l;rcases Z.lt,(hM.CH k l).lt,f.cells,Z.drew.held with⟨a,br,⟨x0,_,_,_,_,_,r⟩,s⟩;have ag:Hid<|BU wr.drew (w.heap.size+2) v0 k d.L:=O H.drew;have bg:Hid (∀(o:Obj) (g3 D:Nat) (w3:Y),w3.ownsRow (w.heap.size+2) 168 11 (.slice (some<|G g3 0) (k+1) D) (k+1) (pL d.L k++DA (d.L k))->(wr.drew.alloc o).grownBy w3 v0.ownBlock->Q4 (E k) (d.L k) w3/\w3.cell? (Y9 w 0)=some v0/\w3.frozen? (Y9 w 0)=false/\w.heap.size+1<w3.heap.size/\Q4 (E k) (d.L k) (w3.setCell (Y9 w 0)<|.slice (some<|G g3 0) (k+1) D)/\
    (BU (w3.setCell (Y9 w 0) (.slice (some (G g3 0)) (k+1) D)) (w.heap.size+2) (.slice (some (G g3 0)) (k+1) D) (k+1) d.L/\EP w (w3.setCell (Y9 w 0) (.slice (some (G g3 0)) (k+1) D)) (.slice (some (G g3 0)) (k+1) D) N9 N9 d)):=O (λo g3 D w3 h1 h2=>by
   have hB:∀b,b<w.heap.size+2->w3.heap[b]?=wr.heap[b]?:=λb hb=>(h2.block b ot λe=>oT (H.lt b e.symm).1).trans<|E1 _ _ _ (by show b<wr.heap.size;omega);have cj:wr.heap.size<=w3.heap.size:=by have:=h2.size;simp at this;omega
   have M:=f.keep (hB _ om) (hB _ om)<|((f.C7.drew).alloc (by show w.heap.size<=wr.heap.size;omega) o).grown h2 ot λq e=>oT (H.lt q e).1;rcases Z.keep cj (hB _ om),M.cells,(World.ownsRow.lt h1 g3 rfl).1 with⟨bt,⟨y0,_,_,_,_,_,yf⟩,c8⟩;refine⟨bt.held,y0,yf 0,om,(bt.keep oq<|At _ _ _ _<|by show E k≠w.heap.size+1;omega).held,CS h1 (λq e=>At _ _ _ _ (by
    have e':g3=q:=oS e;show q≠w.heap.size+1;omega)),M.tD⟩)
  clear H c bq Z f r;go_wp2_with fail;refine Hx (Q4 (E k)<|d.L k) ?_;refine tz 0 (h:=tz 2 (h:=tz 3 (h:=tz 4 (h:=tz 5 (h:=?_)))));refine Aaz (rs:=[1,6]) ou oq ?_;refine OK rfl (λK hK=>?_) (OK rfl (λK hK=>?_) Aay)
  focus
   go_simp;refine hK.out _ _ s λ_=>?_;clear hK K;refine ry 6 λK hK=>?_;go_simp;refine hK.out _ _ (by obtain⟨s0,s1,s2,s3,s4,s5,s6,s7,s8,s9,a8⟩:=s;exact(λ(hb:B9 wr _)=>(⟨(hb.cell (p:=G (E k) 0) a).trans s0,(hb.cell (p:=G (E k) 1) a).trans s1,(hb.cell (p:=G (E k) 2) a).trans s2,(hb.cell (p:=G (E k) 3) a).trans s3,(hb.cell (p:=G (E k) 4) a).trans s4,(hb.cell (p:=G (E k) 5) a).trans s5,(hb.cell (p:=G (E k) 6) a).trans s6,(hb.cell (p:=G (E k) 7) a).trans s7,(hb.cell (p:=G (E k) 8) a).trans s8,(hb.cell (p:=G (E k) 9) a).trans s9,(hb.cell (p:=G (E k) 10) a).trans a8⟩:Q4 (E k) (d.L k) _)) ((BE wr.heap.size wr).drew.alloc (Be _) _)) λB=>?_
  rotate_left
  focus
   go_simp;refine hK.out _ _ (by obtain⟨s0,s1,s2,s3,s4,s5,s6,s7,s8,s9,a8⟩:=s;exact(λ(hb:B9 wr _)=>(⟨(hb.cell (p:=G (E k) 0) a).trans s0,(hb.cell (p:=G (E k) 1) a).trans s1,(hb.cell (p:=G (E k) 2) a).trans s2,(hb.cell (p:=G (E k) 3) a).trans s3,(hb.cell (p:=G (E k) 4) a).trans s4,(hb.cell (p:=G (E k) 5) a).trans s5,(hb.cell (p:=G (E k) 6) a).trans s6,(hb.cell (p:=G (E k) 7) a).trans s7,(hb.cell (p:=G (E k) 8) a).trans s8,(hb.cell (p:=G (E k) 9) a).trans s9,(hb.cell (p:=G (E k) 10) a).trans a8⟩:Q4 (E k) (d.L k) _)) ((BE wr.heap.size wr).drew.alloc (Be _) _)) λB=>?_;clear hK K;refine ry 1 λK hK=>?_;go_simp;refine hK.out _ _ B λ_=>?_
  all_goals
   clear hK K;refine ry 7 λK hK=>?_;refine Re _ rfl (.tmp 34) (.tmp 39) 66 rfl (w.heap.size+2) 168 i0 PZ 11 104 underlying66 ca cb cd cg rfl oo v0 k (pL d.L k) og (NX ag _) (y wr 0) 1 1 (DA<|d.L k) og rfl (Is<|DO _ _) (EZ _) oo od om ot _ rfl ?_;intro g3 D w3 av bh b9 cw;obtain⟨bu,x3,f3,l3,bw,ck⟩:=z bg _ g3 D w3 av bh;refine hK.out _ _ bu λbj=>?_;clear hK K;refine tz 8 (h:=?_);refine ry 9 λK hK=>?_;go_simp;refine hK.out _ _ bw λ_=>?_;clear hK K s bu bj bw;refine FI ?_;have t:=O ck;go_wp2;go_roundw
   .exact⟨k+1,_,om,ov,t.1,t.2⟩
   exact ow
 have ah:k=d.n:=om;subst ah;rcases O H,c.c1,c.lt,f.cells with⟨ag,c1,lb,⟨x0,x1,x2,x3,x4,x5,r⟩⟩;have cl:=r 1;have HW:=O f;go_wp2_with fail;obtain⟨g1,ax⟩:=qa wr.heap.size;obtain⟨W2,ai⟩:=qa<|(wr.setCell (Y9 w 1)<|.slice (some<|G wr.heap.size 0) d.m d.m).alloc<|.cells (madeCells #[Value.int .i64 0] d.m) 3;rw[<-ai];have bx:Bt W2 (w.heap.size+2) (.slice (some<|G g1 0) d.m d.m) d.m<|Kp d.I 0:=by
  have h1:=Bt.made (wr.setCell (Y9 w 1)<|.slice (some<|G wr.heap.size 0) d.m d.m) (w.heap.size+2) d.m ot hm;rw[show(wr.setCell (Y9 w 1) (.slice (some (G wr.heap.size 0)) d.m d.m)).heap.size=g1 by rw[ax];simp]at h1;rw[ai];exact h1.congr λi _=>C3 om
 have ae:∀b,b<g1->b≠w.heap.size+1->W2.heap[b]?=wr.heap[b]?:=λb hb bb=>by
  rw[ai];exact(E1 _ _ _ ot).trans (At _ _ _ _<|by exact bb)
 have ay:∀q,v0.ownBlock=some q->w.heap.size+2<=q/\q<g1:=λq e=>oT<|ag.lt q e;have bz:BU W2 (w.heap.size+2) v0 d.n d.L:=CS ag λq e=>ae q (ay q e).2<|oT (ay q e).1;have b1:EP w W2 v0 (.slice (some<|G g1 0) d.m d.m) N9 d:=by
  have h1:=HW.iM (u:=.slice (some<|G g1 0) d.m d.m);rw[ax]at h1 ⊢;rw[ai];exact h1.keep (E1 _ _ _ ot) (E1 _ _ _ ot)<|h1.C7.alloc ot _
 have cx:w.heap.size+2<=g1:=om;have az:=O<|show Bt W2 (w.heap.size+2) (.slice (some<|G g1 0) d.m d.m) d.m (Kp d.I 0)/\BU W2 (w.heap.size+2) v0 d.n d.L/\EP w W2 v0 (.slice (some<|G g1 0) d.m d.m) N9 d from⟨bx,bz,b1⟩;rw[<-ax];have af:=O ay;clear ag HW bx ae ay bz b1 ai ax x0 x1 x2 x3 x4 x5 cl c1 lb aw l hk;go_loopw [55] (λi wr=>∃k:Nat,k<=d.m/\i=J (k:Int)/\Bt wr (w.heap.size+2) (.slice (some<|G g1 0) d.m d.m) d.m (Kp d.I k)/\BU wr (w.heap.size+2) v0 d.n d.L/\EP w wr v0 (.slice (some<|G g1 0) d.m d.m) N9 d) λi _=>d.m-(intOf i).toNat
 .exact⟨0,om,rfl,az.1,az.2.1,az.2.2⟩
 clear az;obtain⟨k,hk,rfl,U,V,f⟩:=hrel;have c:=hM.below f.C7;have aw:=f.size;by_cases l:k<d.m
 .obtain⟨_,_,e1,_,_,_,P,_⟩:=c.ints.form om;cases e1;have rk:=P k l;obtain⟨_,_,e2,cm,cn,_,Q,R⟩:=U.form om;cases e2;rcases Q k l,R k,I9 _ _ rk with⟨gk,gf,bc⟩;dsimp only at bc;obtain⟨b2,b3⟩:=z HI k l;obtain⟨x0,x1,_,_,_,_,r⟩:=f.cells;by_cases h0:d.I k=0
  focus
   rw[h0,show CY E 0=none from C3 oo]at rk;have t:Hid<|Bt wr (w.heap.size+2) (.slice (some<|G g1 0) d.m d.m) d.m (Kp d.I<|k+1)/\BU wr (w.heap.size+2) v0 d.n d.L/\EP w wr v0 (.slice (some<|G g1 0) d.m d.m) N9 d:=O ⟨by rw[<-R3 d.I k h0];exact U,V,f⟩;clear U V f c P Q R r h0 b2 b3
  rotate_left
  focus
   obtain⟨q,hq⟩:∃q:Nat,d.I k=(q:Int)+1:=⟨(d.I k-1).toNat,om⟩;have aj:q<d.n:=om;rw[hq,show CY E ((q:Int)+1)=some (G (E q) 0) by unfold CY;rw[DD om,show((q:Int)+1-1).toNat=q by omega]]at rk;have Z:=c.CH q aj;have a:=Z.lt;have br:=(hM.CH q aj).lt;have cp:IntKind.i64.wrap ((q:Int)+1)=(q:Int)+1:=oj;have s:cE (w.heap.size+1) g1 d.m (E q) q wr.drew:=⟨x1,Z.pl⟩;have B:cE (w.heap.size+1) g1 d.m (E q) q (wr.setCell (G g1 k)<|J<|(q:Int)+1).drew:=⟨(Aq om).trans x1,(Aq om).trans Z.pl⟩;have t:Hid<|Bt (wr.setCell (G g1 k)<|J<|(q:Int)+1).drew (w.heap.size+2) (.slice (some<|G g1 0) d.m d.m) d.m (Kp d.I<|k+1)/\BU (wr.setCell (G g1 k)<|J<|(q:Int)+1).drew (w.heap.size+2) v0 d.n d.L/\EP w (wr.setCell (G g1 k)<|J<|(q:Int)+1).drew v0 (.slice (some<|G g1 0) d.m d.m) N9 d:=O (by
    refine⟨?_,CS V (λb e=>At _ _ _ _ (by have:=z af b e;show b≠g1;omega)),f.keep (At _ _ _ _ (by show w.heap.size≠g1;omega)) (At _ _ _ _ (by show w.heap.size+1≠g1;omega)) (f.C7.setCell (by show w.heap.size<=g1;omega) _).drew⟩;have h1:=(U.set l ((q:Int)+1)).drew;rw[<-hq,MZ]at h1;rw[<-hq];exact h1)
   clear U V f c P Q R r h0 b2 b3 Z hq;go_wp2_with fail;refine Hx (cE (w.heap.size+1) g1 d.m (E q) q) ?_;refine tz 0 (h:=tz 1 (h:=tz 2 (h:=tz 3 (h:=tz 4 (h:=tz 5 (h:=tz 6 (h:=tz 7 (h:=tz 8 (h:=?_)))))))));refine ry 9 λK hK=>?_;go_simp;refine hK.out _ _ B λ_=>?_;clear hK K s B;refine FI ?_
  all_goals
   go_wp2;go_roundw
   .exact⟨k+1,om,ov,t.1,t.2.1,t.2.2⟩
   exact ow
 have ah:k=d.m:=om;subst ah;rcases U.congr (λi hi=>(DD hi).symm),c.c3,c.lt,f.cells with⟨bd,c3,lb,⟨x0,x1,x2,x3,x4,x5,r⟩⟩;rcases r 2,(bd.lt g1 rfl).2,O V,O f with⟨cq,bm,HO,HW⟩;clear c U V f r;go_wp2_with fail;obtain⟨g2,aM⟩:=qa wr.heap.size;obtain⟨W3,M⟩:=qa<|(wr.setCell (Y9 w 2)<|.slice (some<|G wr.heap.size 0) d.x d.x).alloc<|.cells (madeCells #[Value.int .i64 0] d.x) 3;rw[<-M];have b4:Bt W3 (w.heap.size+2) (.slice (some<|G g2 0) d.x d.x) d.x<|Kp d.X 0:=by
  have h1:=Bt.made (wr.setCell (Y9 w 2)<|.slice (some<|G wr.heap.size 0) d.x d.x) (w.heap.size+2) d.x ot hx;rw[show(wr.setCell (Y9 w 2) (.slice (some (G wr.heap.size 0)) d.x d.x)).heap.size=g2 by rw[aM];simp]at h1;rw[M];exact h1.congr λi _=>C3 om
 have ae:∀b,b<g2->b≠w.heap.size+1->W3.heap[b]?=wr.heap[b]?:=λb hb bb=>by
  rw[M];exact(E1 _ _ _ ot).trans (At _ _ _ _<|by exact bb)
 have b5:BU W3 (w.heap.size+2) v0 d.n d.L:=CS HO λq e=>ae q (oT<|z af q e)<|oT<|z af q e;have b6:Bt W3 (w.heap.size+2) (.slice (some<|G g1 0) d.m d.m) d.m d.I:=CS bd (λq e=>by
  have e':g1=q:=oS e;exact ae q om om)
 have b7:EP w W3 v0 (.slice (some<|G g1 0) d.m d.m) (.slice (some<|G g2 0) d.x d.x) d:=by
  have h1:=HW.iN (u:=.slice (some<|G g2 0) d.x d.x);rw[aM]at h1 ⊢;rw[M];exact h1.keep (E1 _ _ _ ot) (E1 _ _ _ ot)<|h1.C7.alloc ot _
 have cy:g1<g2:=om;have ak:=O<|show Bt W3 (w.heap.size+2) (.slice (some<|G g2 0) d.x d.x) d.x (Kp d.X 0)/\Bt W3 (w.heap.size+2) (.slice (some<|G g1 0) d.m d.m) d.m d.I/\BU W3 (w.heap.size+2) v0 d.n d.L/\EP w W3 v0 (.slice (some<|G g1 0) d.m d.m) (.slice (some<|G g2 0) d.x d.x) d from⟨b4,b6,b5,b7⟩;rw[<-aM];clear HO HW b4 b6 b5 b7 ae M aM x0 x1 x2 x3 x4 x5 cq c3 lb aw l hk bm bd;go_loopw [86] (λi wr=>∃k:Nat,k<=d.x/\i=J (k:Int)/\Bt wr (w.heap.size+2) (.slice (some<|G g2 0) d.x d.x) d.x (Kp d.X k)/\Bt wr (w.heap.size+2) (.slice (some<|G g1 0) d.m d.m) d.m d.I/\BU wr (w.heap.size+2) v0 d.n d.L/\EP w wr v0 (.slice (some<|G g1 0) d.m d.m) (.slice (some<|G g2 0) d.x d.x) d) λi _=>d.x-(intOf i).toNat
 .exact⟨0,om,rfl,ak.1,ak.2.1,ak.2.2.1,ak.2.2.2⟩
 clear ak;obtain⟨k,hk,rfl,F,U,V,f⟩:=hrel;rcases hM.below f.C7,f.size,f.cells with⟨c,aw,⟨x0,x1,x2,x3,x4,x5,r⟩⟩;by_cases l:k<d.x
 .obtain⟨_,_,e1,_,_,_,P,_⟩:=c.slots.form om;cases e1;have rk:=P k l;obtain⟨_,_,e2,cm,cn,_,Q,R⟩:=F.form om;cases e2;rcases Q k l,R k,I9 _ _ rk with⟨gk,gf,bc⟩;dsimp only at bc;have ao:=c.sl k l;have T:∀x:Int,d.X k=x->Bt (wr.setCell (G g2 k)<|J x) (w.heap.size+2) (.slice (some<|G g2 0) d.x d.x) d.x (Kp d.X<|k+1)/\Bt (wr.setCell (G g2 k)<|J x) (w.heap.size+2) (.slice (some<|G g1 0) d.m d.m) d.m d.I/\BU (wr.setCell (G g2 k)<|J x) (w.heap.size+2) v0 d.n d.L/\EP w (wr.setCell (G g2 k)<|J x) v0 (.slice (some<|G g1 0) d.m d.m) (.slice (some<|G g2 0) d.x d.x) d:=λx b8=>by
   refine⟨?_,CS U (λb e=>At _ _ _ _ (by
    have e':g1=b:=oS e;show b≠g2;omega)),CS V (λb e=>At _ _ _ _ (by have:=z af b e;show b≠g2;omega)),f.keep (At _ _ _ _ (by show w.heap.size≠g2;omega)) (At _ _ _ _ (by show w.heap.size+1≠g2;omega)) (f.C7.setCell (by show w.heap.size<=g2;omega) _)⟩
   have h1:=F.set l x;rw[<-b8,MZ]at h1;rw[<-b8];exact h1
  rcases z HX k l with h0|h0|⟨h0,cr⟩
  .rw[h0,show DX S k 0=none from DD rfl]at rk;have t:Hid<|Bt wr (w.heap.size+2) (.slice (some<|G g2 0) d.x d.x) d.x (Kp d.X<|k+1)/\Bt wr (w.heap.size+2) (.slice (some<|G g1 0) d.m d.m) d.m d.I/\BU wr (w.heap.size+2) v0 d.n d.L/\EP w wr v0 (.slice (some<|G g1 0) d.m d.m) (.slice (some<|G g2 0) d.x d.x) d:=O ⟨by rw[<-R3 d.X k h0];exact F,U,V,f⟩;clear F U V f c P Q R r h0 ao T;go_wp2;go_roundw
   .exact⟨k+1,om,ov,t.1,t.2.1,t.2.2.1,t.2.2.2⟩
   exact ow
  .rw[h0,show DX S k (-1)=some (G (S k) 0)from C3 oo]at rk;have ar:=ao.2 om;have gg:=ar.gn;have t:=O<|T (-1) h0;clear F U V f c P Q R r h0 ao T ar;go_wp2;go_roundw
   .exact⟨k+1,om,ov,t.1,t.2.1,t.2.2.1,t.2.2.2⟩
   exact ow
  obtain⟨q,hq⟩:∃q:Nat,d.X k=(q:Int)+1:=⟨(d.X k-1).toNat,om⟩;have aj:q<d.n:=om;rw[show DX S k (d.X k)=some (G (S k) 0)from C3 om]at rk;have aq:=ao.1 h0;rw[show(d.X k-1).toNat=q by omega]at aq;rcases aq.gn,aq.pt,c.CH q aj with⟨gg,gp,Z⟩;have a:=Z.lt;have br:=(hM.CH q aj).lt;have ct:S k≠g2:=λe=>by
   obtain⟨cc,cu⟩:∃cc,wr.heap[g2]?=some (.cells cc 3 (0,0)):=by
    obtain⟨_,⟨hv,_⟩|⟨g,cap,cur,hv,_,bn,_⟩⟩:=F
    .cases hv
    cases hv;exact⟨cur,bn⟩
   exact BC (e▸aq.ob) cu oo
  have cp:IntKind.i64.wrap ((q:Int)+1)=(q:Int)+1:=oj;have s:cI (w.heap.size+1) g2 d.x (S k) (E q) q wr.drew:=⟨x2,gp,Z.pl⟩;have B:cI (w.heap.size+1) g2 d.x (S k) (E q) q (wr.setCell (G g2 k)<|J<|(q:Int)+1).drew:=⟨(Aq om).trans x2,(Aq λe=>ct e.symm).trans gp,(Aq om).trans Z.pl⟩;have t:=O<|T ((q:Int)+1) hq;clear F U V f c P Q R r h0 cr ao T Z aq hq;go_wp2_with fail;refine Hx (cI (w.heap.size+1) g2 d.x (S k) (E q) q) ?_;refine tz 0 (h:=tz 1 (h:=tz 2 (h:=tz 3 (h:=tz 4 (h:=tz 5 (h:=tz 6 (h:=tz 7 (h:=tz 8 (h:=tz 9 (h:=tz 10 (h:=tz 11 (h:=?_))))))))))));refine ry 12 λK hK=>?_;go_simp;refine hK.out _ _ B λ_=>?_;clear hK K s B;refine FI ?_;go_wp2;go_roundw
  .exact⟨k+1,om,ov,t.1.drew,t.2.1.drew,t.2.2.1.drew,t.2.2.2.keep rfl rfl t.2.2.2.C7.drew⟩
  exact ow
 have ah:k=d.x:=om;subst ah;have y0:wr.cell? (y w 0)=some (N9):=by simp[World.cell?,f.b0]
 have y1:wr.cell? (y w 1)=some (N9):=by simp[World.cell?,f.b0]
 have y2:wr.cell? (y w 2)=some (N9):=by simp[World.cell?,f.b0]
 have y3:wr.cell? (y w 3)=some (J 0):=by simp[World.cell?,f.b0]
 have y4:wr.cell? (y w 4)=some (J 0):=by simp[World.cell?,f.b0]
 have y5:wr.cell? (y w 5)=some (J 0):=by simp[World.cell?,f.b0]
 have yf:∀q,wr.frozen? (y w q)=false:=λq=>by simp[World.frozen?,f.b0]
 have ad:=F.congr λi hi=>(DD hi).symm;obtain⟨va,vc,ev⟩:∃va vc,v0=.slice va d.n vc:=by
  obtain⟨_,⟨hv,h0⟩|⟨g,cap,cur,hv,_⟩⟩:=V
  .exact⟨none,0,by rw[hv,h0]⟩
  exact⟨_,_,hv⟩
 subst ev;have bp:Hid (∀W':World,Below (w.heap.size) w W'->wr.heap.size<=W'.heap.size->(∀b,w.heap.size+2<=b->W'.heap[b]?=wr.heap[b]?)->DV d W' (.slice va d.n vc) (.slice (some<|G g1 0) d.m d.m) (.slice (some<|G g2 0) d.x d.x) w.heap.size W'.heap.size):=O (λW' hB hz hb=>by
  have o0:BU W' w.heap.size (.slice va d.n vc) d.n d.L:=Eu (CS V λq e=>hb q (V.lt q e).1) om;have o1:Bt W' w.heap.size (.slice (some<|G g1 0) d.m d.m) d.m d.I:=Eu (CS U λq e=>hb q (U.lt q e).1) om;have o2:Bt W' w.heap.size (.slice (some<|G g2 0) d.x d.x) d.x d.X:=Eu (CS ad λq e=>hb q (ad.lt q e).1) om;refine⟨N1.of o0,Kk.of o1,Kk.of o2,λq e e'=>?_,λq e e'=>?_,λq e e'=>?_⟩
  .have:=(af q e).2;have e2:g1=q:=oS e';omega
  .have:=(af q e).2;have e2:g2=q:=oS e';omega
  have e1:g1=q:=oS e;have e2:g2=q:=oS e';omega)
 have cv:=O f.C7;clear F ad U V f c r;go_wp2;refine Fs (v:=oX (.slice va d.n vc) (.slice (some<|G g1 0) d.m d.m) (.slice (some<|G g2 0) d.x d.x) d) (by simp[results,results141,go_sem,y0,y1,y2,y3,y4,y5]) rfl ?_;have au:B9 w<|(((((wr.setCell (y w 0)<|.slice va d.n vc).setCell (y w 1)<|.slice (some<|G g1 0) d.m d.m).setCell (y w 2)<|.slice (some<|G g2 0) d.x d.x).setCell (y w 3)<|J d.used).setCell (y w 4)<|J d.live).setCell (y w 5)<|J d.turns:=by
  iterate 6 (refine On ?_ (by exact Be _) _)
  exact cv
 refine⟨⟨_,_,_,rfl,bp _ au oq λb hb=>?_⟩,au⟩;iterate 6 (refine(At _ _ _ _<|by show b≠w.heap.size;omega).trans ?_)
 rfl
def mS(h:Entry d i)(a:(d.L i).turn≠0):Ch (d.L i).key=true:=by
 grind [Entry,Ch]
def sL w:FJ w none none none bU:=⟨.inl rfl,.inl rfl,.inl rfl⟩
def aP(h:Sound d<|hD d)(a:M9 d):Inv Ky hN d:=
 Sound.inv (hf:=hN) (K:=Ky) h Cl λi hi b=>⟨mS (h.d2.pO.CH i hi) b,(a i hi).1⟩
section
variable {w W W':Y} {la ia xa:Option Addr} {lc ic xc:Nat} {d:Dc} {v:Vl}
end
theorem N1.wide{v}(h:N1 f n w v lo hi)(h1:a<=lo)(h2:hi<=b):N1 f n w v a b:=by
 grind [N1]
theorem Kk.wide{f}{v}(h:Kk f n w v lo hi)(h1:a<=lo)(h2:hi<=b):Kk f n w v a b:=by
 grind [Kk]
theorem DV.wide(h:DV d w v0 v1 v2 lo hi)(h1:a<=lo)(h2:hi<=b):DV d w v0 v1 v2 a b:=⟨h.log.wide h1 h2,h.ints.wide h1 h2,h.index.wide h1 h2,h.wZ,h.xA,h.a12⟩
def Jv n w(c:0<=n)(h1:n<=1000000000000):
  C9 126 #[J n] w λe w'=>e=.returned (J<|Et n)/\w'=w:=by
 have d:IntKind.i64.wrap (n+1)=n+1:=oj;by_cases hn:n<1000000000000
 focus
  have a:Hid<|Et n=n+1:=O<|DD hn;have b:min (n+1) 1000000000000=n+1:=om
 rotate_left
 focus
  have a:Hid<|Et n=1000000000000:=O<|C3 hn;have b:min (n+1) 1000000000000=1000000000000:=om
 all_goals
  go_enter func126,ntmps126;go_wp2;go_ret;exact⟨by rw[z a];simp[b],rfl⟩
def Nx Z c B0 vN vT vS vU Bk A s i w(h:Bg Z w c B0 vN vT vS vU Bk A s)(hi:i<s.ns)(p:s.ns<=50):
  C9 101 #[Q9 c,J i] w (R9 (Ga<|Bz (s.S i).key) w):=by
 obtain⟨g,cp,q,r,t,d,j⟩:=h.Ex hi;subst q;have u:=h.lt;obtain⟨W,n,e,_,a⟩:=Ll w<|.cells #[J 0,J 0,F9 0,E9,J 0] 32;have k:=Ai a;have c2:=h.cells.2.2.1;have k0:w.cell? (G g<|i*5)=some (.string (s.S i).key):=d 0 _ rfl;have f:=O e;have l:=O a;clear h d j e a;go_enter func101,ntmps101;go_wp2_with fail;rw[<-n];clear n c2 k0;refine m9 (Qc (s.S i).key _) λw1 b=>?_;have a:=(b.block _ k).trans l;have l1:=Ai a;obtain⟨r0,r1,r2,x,B⟩:=v5 a;have rf:∀o,w1.frozen? (y w o)=false:=λo=>by simp[World.frozen?,a]
 have m:=O<|o9 f b;clear b a;go_wp2;refine Fs (v:=Ga<|Bz (s.S i).key) (by simp[results,results101,go_sem,r0,r1,r2,x,B,Bz]) rfl ⟨rfl,?_⟩;repeat(refine On ?_ (by show w.heap.size<=w.heap.size;omega) _)
 exact m
abbrev xE(g cp:Nat):Ad:=⟨some<|G g 0,cp,none,0,none,0,none,0⟩
def ZA{t}(hb:bare t.d)a g cp r v:CK a (xE g cp) (GH t r v)=.agg #[S9 g (t.nv+1) cp,N9,N9,N9,J 0,J 0,J 0,Q9 a]:=by
 obtain⟨h1,h2,h3,h4,h5,b⟩:=hb;show Value.agg #[S9 g (t.nv+1) cp,.slice none t.d.n 0,.slice none t.d.m 0,.slice none t.d.x 0,J t.d.used,J t.d.live,J t.d.turns,Q9 a]=_;rw[h1,h2,h3,h4,h5,b]
def Zz p f A t r v{w}(hV:IX w A.va t.nv t.V)(hn:t.nv<=12)(hb:bare t.d):
  C9 138 #[CK p A t,Q9 f,Ga v] w λe w'=>(∃g cp,w.heap.size<=g/\e=.returned (CK f (xE g cp)<|GH t r v)/\Cf w' w.heap.size (S9 g (t.nv+1) cp) (t.nv+1) (AM t.V t.nv v))/\B9 w w':=by
 obtain⟨i0,I,K,L,M⟩:=Ok F3;obtain⟨W,hW,P,Z,_,b1,b2⟩:=kS w (.cells #[.slice A.va t.nv A.vc,.slice A.la t.d.n A.lc,.slice A.ia t.d.m A.ic,.slice A.xa t.d.x A.xc,J t.d.used,J t.d.live,J t.d.turns,Q9 p] 156) (.cells (qi v) 32)<|.cells Fa 156;have ae:Hid (t.nv=0\/∃ad,A.va=some ad/\∀j u,(Mf t.V t.nv)[j]?=some u->W.cell? (ad.add j)=some u):=O (by
  rcases hV with h|⟨vb,off,af,ag,ah⟩
  .exact .inl h
  exact .inr ⟨_,af,IX.news (w:=W) (λi hi=>(ah i hi).keep (λq=>P.cell (p:=(G vb q)) ag))⟩)
 have Q:=O<|qp b1 b2;have ai:=O hb;go_enter func138,ntmps138;go_upto_region 2 with(at_builtin;rw[<-hW];refine CV rfl _ _ 65 rfl w.heap.size 32 i0 (V 0 0 0 ⟨#[]⟩ 0) 5 48 underlying65 I K L M rfl oo rfl A.va t.nv A.vc (Mf t.V t.nv) rfl (IP _ _) ae (Ot _ _) od om om (w.heap.size+1+1+1) Z ?_;intro a3 s w3 E a F)
 have hb:=P;have c:B9 w w3:=⟨a.os.trans hb.os,a.tape.trans hb.tape,a.output.trans hb.output,GO hb.size a.size,λk hk=>(a.block k (A0 hk hb.size) oq).trans<|hb.block k hk⟩;have z3:=a.size;have c1:=(a.block (w.heap.size+1) om oq).trans Q.1;have c2:=(a.block (w.heap.size+1+1) om oq).trans Q.2;have l1:=Ai c1;have y0:w3.cell? (Y9 w 0)=some (J v.kind):=by simp[World.cell?,c1]
 have y1:w3.cell? (Y9 w 1)=some (J v.num):=by simp[World.cell?,c1]
 have y2:w3.cell? (Y9 w 2)=some (F9 v.Ah):=by simp[World.cell?,c1]
 have y3:w3.cell? (Y9 w 3)=some (.string v.str):=by simp[World.cell?,c1]
 have y4:w3.cell? (Y9 w 4)=some (J v.ref):=by simp[World.cell?,c1]
 have aj:∀q,(Value.slice a3 t.nv s).ownBlock=some q->w.heap.size+1+1<q:=λq e=>by rw[F q e];omega
 have H:=O aj;have R:Hid (∀g4 b w4,w4.ownsRow w.heap.size 32 5 (S9 g4 (t.nv+1) b) (t.nv+1) (Mf t.V t.nv++H8 v)->(w3.alloc<|.cells (H8 v).toArray 32).grownBy w4 (Value.ownBlock<|.slice a3 t.nv s)->(Value.ownBlock (.slice a3 t.nv s)=some g4\/g4=w3.heap.size+1)->
   (∃w5,(Instr.storeAt 156 (Q9<|w.heap.size+1+1)<|.agg #[S9 g4 (t.nv+1) b,N9,N9,N9,J 0,J 0,J 0,Q9 f]).run prog w4=.ok () w5/\Bu w4 w5 (w.heap.size+1+1) #[S9 g4 (t.nv+1) b,N9,N9,N9,J 0,J 0,J 0,Q9 f] 156/\
   w.heap.size<=g4/\Cf w5 w.heap.size (S9 g4 (t.nv+1) b) (t.nv+1) (AM t.V t.nv v)/\B9 w w5)):=O (by
  intro g4 b w4 h1 h2 h3;have S:=h3.elim (λe=>H g4 e) λe=>om;have c2:=(h2.block _ ot λe=>oT<|z H _ e.symm).trans<|(E1 _ _ _<|Ai c2).trans<|z<|O c2;obtain⟨w5,k1,k2⟩:=BP (v:=.agg #[S9 g4 (t.nv+1) b,N9,N9,N9,J 0,J 0,J 0,Q9 f]) (vs:=[S9 g4 (t.nv+1) b,N9,N9,N9,J 0,J 0,J 0,Q9 f]) (old:=Fa.toList) EN c2 rfl rfl oh rfl;refine⟨w5,k1,k2,om,?_,?_⟩
  .rw[Mg]at h1;exact Ae h1 λq e=>k2.other q<|by cases e;show g4≠_;omega
  have c:=z (O c);refine k2.below (B:=w.heap.size) ⟨h2.os.trans c.os,h2.tape.trans c.tape,h2.output.trans c.output,GO c.size (GO oq h2.size),λk hk=>?_⟩ om;exact(h2.block k ot (λe=>oT (z H _ e.symm))).trans ((E1 _ _ _ om).trans (c.block k hk)))
 go_wp2_with (first|(at_builtin;refine ON _ rfl _ _ 65 rfl w.heap.size 32 i0 (V 0 0 0 ⟨#[]⟩ 0) 5 48 underlying65 I K L M rfl oo (.slice a3 t.nv s) t.nv (Mf t.V t.nv) rfl (NX E _) (y w3 0) 1 1 (H8 v) rfl rfl (Is<|DO w3 _) (by simp[H8,Value.oneCell']) oo od om ot (w3.heap.size+1) oq ?_;intro g4 b w4 l C o au;obtain⟨w5,D,T,S,U,X⟩:=z R g4 b w4 l C o;have ak:=O D;have ao:=O T;have aq:=O U;have ar:=O X;clear l C o D T U X)|(refine Af rfl rfl _ ak ?_)|go_in)
 refine FP results138 underlying156 ao.BH ⟨⟨g4,b,S,by rw[ZA (z ai)],aq⟩,ar⟩
end Go.Proofs.YtkpfgniijbgkoaaGreatDoor
