import Derived.Test.YtoobllcjfinmoaaGreatDoorSDAA
import Derived.Test.YtoobllcjfinmoaaGreatDoorSDAA
set_option linter.all false
set_option maxHeartbeats 40000000
set_option maxRecDepth 100000
namespace Go.Proofs.YtoobllcjfinmoaaGreatDoor
open Go.Proofs.Tryz
open Go.RowKit
variable {w w':Y}{a xa la a' ia va:Option Addr}{m R b B i bk R2 n q xc o Z h k l j x:Nat}{c s1 s2:V9}{p:Pr}{v:Vl}{E S:Nat->Nat}{d:Dc}{g:Nat->Value}{K:Act->Prop}{T:World->Prop}
section
attribute [local go_sem] Ar Am
theorem C5{P}{a}{m}f x Z:(store a (.func f x Z) m).run P w=stored P w a (.func f x Z) m:=run_store P w a _ m rfl
attribute [local go_sem] C5
structure Hm (R:Nat) (u w:Y):Prop where
 os:w.os=u.os
 tape:w.tape=u.tape
 output:w.output=u.output
 size:u.heap.size<=w.heap.size
 block:∀q,q<u.heap.size->q≠R->w.heap[q]?=u.heap[q]?
def Hm.refl R u:Hm R u u:=⟨rfl,rfl,rfl,Be _,λ_ _ _=>rfl⟩
theorem Hm.trans{a b c}(h:Hm R a b)(h':Hm R b c):Hm R a c:=⟨h'.os.trans h.os,h'.tape.trans h.tape,h'.output.trans h.output,GP h.size h'.size,λq hq d=>(h'.block q (A0 hq h.size) d).trans<|h.block q hq d⟩
def Hm.alloc{a b}(h:Hm R a b)o:Hm R a<|b.alloc o:=⟨h.os,h.tape,h.output,by simp;have:=h.size;omega,λq hq c=>(DO _ _ _<|A0 hq h.size).trans<|h.block q hq c⟩
def Hm.setCell{a b}(h:Hm R a b)o v:Hm R a<|b.setCell (G R o) v:=⟨h.os,h.tape,h.output,by simpa using h.size,λq hq c=>(At _ _ _ _<|by exact c).trans<|h.block q hq c⟩
def Hm.drew{a b}(h:Hm R a b):Hm R a b.drew:=⟨h.os,h.tape,h.output,h.size,h.block⟩
def Hm.cell{a b}(h:Hm R a b){q o}(hq:q<a.heap.size)(c:q≠R):b.cell? (G q o)=a.cell? (G q o):=As<|h.block q hq c
def Hm.frozen{a b}(h:Hm R a b){q o}(hq:q<a.heap.size)(c:q≠R):b.frozen? (G q o)=a.frozen? (G q o):=ID<|h.block q hq c
def Hm.below{a b}(h:Hm R a b)(c:B<=a.heap.size)(d:B<=R):Below B a b:=⟨h.os,h.tape,h.output,h.size,λk hk=>h.block k om om⟩
abbrev FZ(p:Pr)(i:Nat):Array Value:=#[J p.key.kind,J p.key.num,F9 p.key.Af,.string p.key.str,J p.key.ref,J p.val.kind,J p.val.num,F9 p.val.Af,.string p.val.str,J p.val.ref,J p.turn,J (i:Int)]
abbrev fK(v:Vl)(e:Nat):Array Value:=#[J v.kind,J v.num,F9 v.Af,.string v.str,J v.ref,Q9 e,.bool false]
abbrev XI:Array Value:=#[J 0,J 0,F9 0,E9,J 0,.pointer none,.bool true]
structure BC (w:Y) (b:Nat) (p:Pr) (i:Nat):Prop where
 lt:b<w.heap.size
 k0:w.cell? (G b 0)=some (J p.key.kind)
 k1:w.cell? (G b 1)=some (J p.key.num)
 k2:w.cell? (G b 2)=some (F9 p.key.Af)
 k3:w.cell? (G b 3)=some (.string p.key.str)
 k4:w.cell? (G b 4)=some (J p.key.ref)
 v0:w.cell? (G b 5)=some (J p.val.kind)
 v1:w.cell? (G b 6)=some (J p.val.num)
 v2:w.cell? (G b 7)=some (F9 p.val.Af)
 v3:w.cell? (G b 8)=some (.string p.val.str)
 v4:w.cell? (G b 9)=some (J p.val.ref)
 tn:w.cell? (G b 10)=some (J p.turn)
 pl:w.cell? (G b 11)=some (J (i:Int))
 ob:w.heap[b]?=some (.cells (FZ p i) 303 (0,0))
def BC.keep(h:BC w b p i)(hs:w.heap.size<=w'.heap.size)(e:w'.heap[b]?=w.heap[b]?):BC w' b p i:=by
 have e':∀o,w'.cell? (G b o)=w.cell? (G b o):=λo=>As e;exact⟨A0 h.lt hs,(e' _).trans h.k0,(e' _).trans h.k1,(e' _).trans h.k2,(e' _).trans h.k3,(e' _).trans h.k4,(e' _).trans h.v0,(e' _).trans h.v1,(e' _).trans h.v2,(e' _).trans h.v3,(e' _).trans h.v4,(e' _).trans h.tn,(e' _).trans h.pl,e.trans h.ob⟩
def BC.drew(h:BC w b p i):BC w.drew b p i:=h.keep (Be _) rfl
structure Iy (w:Y) (b:Nat) (v:Vl) (e:Nat):Prop where
 lt:b<w.heap.size
 k0:w.cell? (G b 0)=some (J v.kind)
 k1:w.cell? (G b 1)=some (J v.num)
 k2:w.cell? (G b 2)=some (F9 v.Af)
 k3:w.cell? (G b 3)=some (.string v.str)
 k4:w.cell? (G b 4)=some (J v.ref)
 pt:w.cell? (G b 5)=some (Q9 e)
 gn:w.cell? (G b 6)=some (.bool false)
 ob:w.heap[b]?=some (.cells (fK v e) 306 (0,0))
def Iy.keep(h:Iy w b v i)(hs:w.heap.size<=w'.heap.size)(e:w'.heap[b]?=w.heap[b]?):Iy w' b v i:=by
 have e':∀o,w'.cell? (G b o)=w.cell? (G b o):=λo=>As e;exact⟨A0 h.lt hs,(e' _).trans h.k0,(e' _).trans h.k1,(e' _).trans h.k2,(e' _).trans h.k3,(e' _).trans h.k4,(e' _).trans h.pt,(e' _).trans h.gn,e.trans h.ob⟩
def CG(E:Nat->Nat)(p:Int):Option Addr:=if 0<p then some (G (E (p-1).toNat) 0)else none
def DB(S:Nat->Nat)(j:Nat)(p:Int):Option Addr:=if p=0 then none else some (G (S j) 0)
structure Qy (w:Y) (b:Nat):Prop where
 lt:b<w.heap.size
 gn:w.cell? (G b 6)=some (.bool true)
 ob:w.heap[b]?=some (.cells XI 306 (0,0))
def Qy.keep(h:Qy w b)(hs:w.heap.size<=w'.heap.size)(e:w'.heap[b]?=w.heap[b]?):Qy w' b:=
 ⟨A0 h.lt hs,(As e).trans h.gn,e.trans h.ob⟩
def DC(w:Y)(E S:Nat->Nat)(d:Dc)(j:Nat):Prop:=
 (0<d.X j->Iy w (S j) (d.at<|d.X j).key (E (d.X j-1).toNat))/\(d.X j<0->Qy w (S j))
abbrev Oq:Value:=.func (.func 203) #[] #[]
structure JN (w:Y) (bk b c R2:Nat) (E S:Nat->Nat) (d:Dc):Prop where
 lt:bk<w.heap.size
 c0:∃a k,w.cell? (G bk 0)=some (.slice a d.n k)/\(0<d.n->a=some (G b 0))
 c1:∃k,w.cell? (G bk 1)=some (S9 c d.m k)
 c2:w.cell? (G bk 2)=some Oq
 c3:w.cell? (G bk 3)=some (S9 R2 d.x d.x)
 c4:w.cell? (G bk 4)=some (J d.used)
 c5:w.cell? (G bk 5)=some (J d.live)
 c6:w.cell? (G bk 6)=some (J d.turns)
 r0:∀i,i<d.n->w.cell? (G b i)=some (Q9<|E i)
 Cw:∀i,i<d.n->BC w (E i) (d.L i) i
 inj:∀i j,i<d.n->j<d.n->E i=E j->i=j
 r1:∀i,i<d.m->w.cell? (G c i)=some (.pointer<|CG E<|d.I i)
 r2:∀j,j<d.x->w.cell? (G R2 j)=some (.pointer<|DB S j<|d.X j)
 sl:∀j,j<d.x->DC w E S d j
 l0:b<w.heap.size
 l1:c<w.heap.size
 l2:R2<w.heap.size
def JN.below{c}(h:JN w bk b c R2 E S d)(hb:B9 w w'):JN w' bk b c R2 E S d:=by
 have e:∀q o,q<w.heap.size->w'.cell? (G q o)=w.cell? (G q o):=λq o hq=>hb.cell hq;refine⟨A0 h.lt hb.size,by obtain⟨a,k,h1,h2⟩:=h.c0;exact⟨a,k,(e _ _ h.lt).trans h1,h2⟩,by obtain⟨k,h1⟩:=h.c1;exact⟨k,(e _ _ h.lt).trans h1⟩,(e _ _ h.lt).trans h.c2,(e _ _ h.lt).trans h.c3,(e _ _ h.lt).trans h.c4,(e _ _ h.lt).trans h.c5,(e _ _ h.lt).trans h.c6,λi hi=>(e _ _ h.l0).trans<|h.r0 i hi,λi hi=>(h.Cw i hi).keep hb.size<|hb.block _ (h.Cw i hi).lt,h.inj,λi hi=>(e _ _ h.l1).trans<|h.r1 i hi,λi hi=>(e _ _ h.l2).trans<|h.r2 i hi,λj hj=>⟨λhp=>((h.sl j hj).1 hp).keep hb.size<|hb.block _ ((h.sl j hj).1 hp).lt,λhp=>((h.sl j hj).2 hp).keep hb.size<|hb.block _ ((h.sl j hj).2 hp).lt⟩,A0 h.l0 hb.size,A0 h.l1 hb.size,A0 h.l2 hb.size⟩
def Jz:(prog.info? 289).map (λi=>(i.zero,i.size,i.bytes))=some (some<|.pointer none,1,8):=ou
def TY:(prog.info? 304).map (λi=>(i.zero,i.size,i.bytes))=some (some<|.pointer none,1,8):=ou
def JF{b a}(hu:prog.underlying b=some (.slice a))(hi:(prog.info? a).map (λi=>(i.zero,i.size,i.bytes))=some (some<|.pointer none,1,8))(n:Nat)(hn:n<=4194304)w:
  (Instr.makeSlice b (J n)<|J n).run prog w=.ok (S9 w.heap.size n n) (w.alloc<|.cells (madeCells (Value.pointer none).cells n) a):=by
 obtain⟨i,hi,hz,hs,hb⟩:=ON hi;have:=run_make (P:=prog) w b a i _ hu hi hz .i64 .i64 n n om (AaC _) (by rw[hb];omega) om;simp only[On,hs,Nat.mul_one]at this;exact this
def Q4(w:Y)n a:(w.alloc<|.cells (madeCells (Value.pointer none).cells n) a).rowIs w.heap.size a n λ_=>.pointer none:=by
 have h:=Aaj w (madeCells (Value.pointer none).cells n) a (λ_=>.pointer none) (λi hi=>by
  rw[AaN]at hi;rw[madeCells];simp[Value.cells,hi,Nat.mod_one])
 rw[AaN]at h;exact h
def Db(w:Y)(R n:Nat)(a:TypeId)(f:Nat->Option Addr):Prop:=∃g,w.rowIs R a n g/\∀i,i<n->g i=.pointer (f i)
def Db.cell{a}{f}(h:Db w R n a f){i}(hi:i<n):w.cell? (G R i)=some (.pointer<|f i):=by
 obtain⟨g,b,c⟩:=h;rw[b.cell hi,c i hi]
def Db.frozen{a}{f}(h:Db w R n a f)i:w.frozen? (G R i)=false:=by
 obtain⟨g,b,c⟩:=h;exact b.frozen i
def Db.keep{a}{f}(h:Db w R n a f)(e:w'.heap[R]?=w.heap[R]?):Db w' R n a f:=by
 obtain⟨g,b,c⟩:=h;exact⟨g,b.of_block e,c⟩
def Db.set{a}{f}(h:Db w R n a f)p:Db (w.setCell (G R q)<|.pointer p) R n a λi=>if i=q then p else f i:=by
 obtain⟨g,b,c⟩:=h;refine⟨_,b.set q _,λi hi=>?_⟩;grind
theorem Db.congr{a}{f f'}(h:Db w R n a f)(e:∀i,i<n->f' i=f i):Db w R n a f':=by
 grind [Db]
def YC(w:Y)p k:BC (w.alloc<|.cells (FZ p k) 303) w.heap.size p k:=
 ⟨oq,oq,oq,oq,oq,oq,oq,oq,oq,oq,oq,oq,oq,DD _ _⟩
structure Bk (w v:Y) (xa:T9) (xc:Nat) (d:Dc) (E:Nat->Nat) (s1 s2 a b:V9):Prop where
 below:B9 w v
 sz:w.heap.size+3<=v.heap.size
 a2:v.cell? (y w 2)=some (.slice xa d.x xc)
 a3:v.cell? (y w 3)=some (J d.used)
 b0:v.cell? (Y9 w 0)=some (S9 (w.heap.size+1+1) d.n d.n)
 b1:v.cell? (Y9 w 1)=some s1
 b2:v.cell? (Y9 w 2)=some s2
 b3:v.cell? (Y9 w 3)=some a
 b4:v.cell? (Y9 w 4)=some b
 b5:v.cell? (Y9 w 5)=some (J d.live)
 b6:v.cell? (Y9 w 6)=some (J d.turns)
 fz:∀o,v.frozen? (Y9 w o)=false
 ptr:Db v (w.heap.size+1+1) d.n 289 λi=>some<|G (E i) 0
 Cw:∀i,i<d.n->BC v (E i) (d.L i) i/\w.heap.size+3<=E i
def Bk.tF{v v'}{b}(h:Bk w v xa xc d E s1 s2 b c)(a:Hm R v v')(f:w.heap.size+3<=R)(e:∀i,i<d.n->E i≠R):Bk w v' xa xc d E s1 s2 b c:=by
 have hz:=h.sz;have e0:∀o,v'.cell? (y w o)=v.cell? (y w o):=λo=>a.cell om om;have e1:∀o,v'.cell? (Y9 w o)=v.cell? (Y9 w o):=λo=>a.cell om om;exact⟨h.below.trans<|a.below om om,GP h.sz a.size,(e0 _).trans h.a2,(e0 _).trans h.a3,(e1 _).trans h.b0,(e1 _).trans h.b1,(e1 _).trans h.b2,(e1 _).trans h.b3,(e1 _).trans h.b4,(e1 _).trans h.b5,(e1 _).trans h.b6,λo=>(a.frozen om om).trans<|h.fz o,h.ptr.keep<|a.block _ om om,λi hi=>⟨(h.Cw i hi).1.keep a.size<|a.block _ (h.Cw i hi).1.lt<|e i hi,(h.Cw i hi).2⟩⟩
def Bk.alloc{v}{a b}(h:Bk w v xa xc d E s1 s2 a b)o:Bk w (v.alloc o) xa xc d E s1 s2 a b:=
 h.tF ((Hm.refl _ _).alloc o) h.sz λi hi=>Nat.ne_of_lt (h.Cw i hi).1.lt
def Bk.Sv{v}{u f g a b e:V9}(h:Bk w v xa xc d E s1 s2 f g)
  (g0:o≠0) (g5:o≠5) (g6:o≠6)
  (g1:(v.setCell (Y9 w o) u).cell? (Y9 w 1)=some a) (g2:(v.setCell (Y9 w o) u).cell? (Y9 w 2)=some b) (g3:(v.setCell (Y9 w o) u).cell? (Y9 w 3)=some c) (g4:(v.setCell (Y9 w o) u).cell? (Y9 w 4)=some e):Bk w (v.setCell (Y9 w o) u) xa xc d E a b c e:=by
 refine⟨h.below.setCell (by show _<=w.heap.size+1;omega) _,by simpa using h.sz,(Al om).trans h.a2,(Al om).trans h.a3,(Aa g0).trans h.b0,g1,g2,g3,g4,(Aa g5).trans h.b5,(Aa g6).trans h.b6,λq=>by rw[PC];exact h.fz q,h.ptr.keep<|At _ _ _ _<|by show w.heap.size+1+1≠w.heap.size+1;omega,λi hi=>⟨(h.Cw i hi).1.keep oq<|At _ _ _ _<|by show E i≠w.heap.size+1;have:=(h.Cw i hi).2;omega,(h.Cw i hi).2⟩⟩
def Bk.eO{v}{a b}(h:Bk w v xa xc d E s1 s2 a b)u:Bk w (v.setCell (Y9 w 1) u) xa xc d E u s2 a b:=
 h.Sv oo oo oo (I9 _ _ _<|by rw[h.b1];rfl) ((Aa oo).trans h.b2) ((Aa oo).trans h.b3) ((Aa oo).trans h.b4)
def Bk.eQ{v}{a b}(h:Bk w v xa xc d E s1 s2 a b)u:Bk w (v.setCell (Y9 w 2) u) xa xc d E s1 u a b:=
 h.Sv oo oo oo ((Aa oo).trans h.b1) (I9 _ _ _<|by rw[h.b2];rfl) ((Aa oo).trans h.b3) ((Aa oo).trans h.b4)
def Bk.rV{v}{b a}(h:Bk w v xa xc d E s1 s2 b a)u:Bk w (v.setCell (Y9 w 3) u) xa xc d E s1 s2 u a:=
 h.Sv oo oo oo ((Aa oo).trans h.b1) ((Aa oo).trans h.b2) (I9 _ _ _<|by rw[h.b3];rfl) ((Aa oo).trans h.b4)
def Bk.uD{v}{a b}(h:Bk w v xa xc d E s1 s2 a b)u:Bk w (v.setCell (Y9 w 4) u) xa xc d E s1 s2 a u:=
 h.Sv oo oo oo ((Aa oo).trans h.b1) ((Aa oo).trans h.b2) ((Aa oo).trans h.b3) (I9 _ _ _<|by rw[h.b4];rfl)
def Db.fresh(w:Y)n a:Db (w.alloc<|.cells (madeCells #[.pointer none] n) a) w.heap.size n a λ_=>none:=by
 have:=Q4 w n a;exact⟨_,by simpa[Value.cells]using this,λi hi=>rfl⟩
def fJ(w:Y)v e:Iy (w.alloc<|.cells (fK v e) 306) w.heap.size v e:=
 ⟨oq,oq,oq,oq,oq,oq,oq,oq,DD _ _⟩
structure Vu (w:Y) (B bk a b R2:Nat) (E S:Nat->Nat) (d:Dc):Prop where
 e0:w.cell? (G bk 0)=some (S9 a d.n d.n)
 e1:w.cell? (G bk 1)=some (S9 b d.m d.m)
 fz:∀o,w.frozen? (G bk o)=false
 o0:Db w a d.n 289 λi=>some<|G (E i) 0
 o1:Db w b d.m 289 λi=>CG E<|d.I i
 o2:Db w R2 d.x 304 λj=>DB S j<|d.X j
 wE:a≠b
 gb:B<=bk
 g0:bk<a
 g1:bk<b
 g2:bk<R2
 gE:∀i,i<d.n->bk<E i
 gS:∀j,j<d.x->d.X j≠0->R2<S j
def Ii lc{ia:Option Addr}ic{xa:Option Addr}xc{d}{w}(hD:Ea w la ia xa d)(hS:Small d)(h3:D3 d)(h4:D4 d):
  C9 193 #[Dv la lc ia ic xa xc d] w λe w'=>(∃bk R0 s R2 E S,e=.returned (Q9 bk)/\JN w' bk R0 s R2 E S d/\Vu w' w.heap.size bk R0 s R2 E S d)/\B9 w w':=by
 rcases hS.n,hS.m,hS.x,O h3 with⟨hn,hm,hx,H3⟩;clear hS h3;have bx:=JF underlying296 Jz d.n hn;go_enter func193,ntmps193;go_wp2_with fail;obtain⟨u1,g⟩:=o9<|((w.alloc<|.cells #[.slice la d.n lc,.slice ia d.m ic,.slice xa d.x xc,J d.used,J d.live,J d.turns] 103).alloc<|.cells #[S9 (w.heap.size+1+1) d.n d.n,N9,.nilFunc,N9,J 0,J d.live,J d.turns] 301).alloc<|.cells (madeCells #[.pointer none] d.n) 289;rw[<-g];have bz:u1.heap.size=w.heap.size+3:=by rw[g];simp
 have U:Hid<|B9 w u1:=O (by rw[g];exact((n9).alloc oq _).alloc ot _);have bd:Hid<|Db u1 (w.heap.size+1+1) d.n 289 λ_=>none:=O (by
  rw[g];have:=Q4 ((w.alloc (.cells #[.slice la d.n lc,.slice ia d.m ic,.slice xa d.x xc,J d.used,J d.live,J d.turns] 103)).alloc (.cells #[S9 (w.heap.size+1+1) d.n d.n,N9,.nilFunc,N9,J 0,J d.live,J d.turns] 301)) d.n 289;exact⟨_,by simpa[Value.cells]using this,λi hi=>rfl⟩)
 obtain⟨a1,a2,a3,b0,b1,b2,b3,b4,b5,b6⟩:u1.cell? (y w 1)=some (.slice ia d.m ic)/\u1.cell? (y w 2)=some (.slice xa d.x xc)/\u1.cell? (y w 3)=some (J d.used)/\u1.cell? (Y9 w 0)=some (S9 (w.heap.size+1+1) d.n d.n)/\u1.cell? (Y9 w 1)=some (N9)/\u1.cell? (Y9 w 2)=some .nilFunc/\u1.cell? (Y9 w 3)=some (N9)/\u1.cell? (Y9 w 4)=some (J 0)/\u1.cell? (Y9 w 5)=some (J d.live)/\u1.cell? (Y9 w 6)=some (J d.turns):=by rw[g];simp[go_sem]
 have f1:∀o,u1.frozen? (Y9 w o)=false:=by intro o;rw[g];simp[go_sem]
 clear g bx;go_loopw [26] (λi wr=>∃(k:Nat) (E:Nat->Nat),k<=d.n/\i=J k/\Hm (w.heap.size+1+1) u1 wr/\Db wr (w.heap.size+1+1) d.n 289 (λi=>if i<k then some (G (E i) 0)else none)/\(∀i,i<k->BC wr (E i) (d.L i) i/\w.heap.size+3<=E i)/\∀i j,i<k->j<k->E i=E j->i=j) λi _=>d.n-(intOf i).toNat
 .exact⟨0,λ_=>0,om,rfl,Hm.refl _ _,bd.congr λi hi=>Cs om,λi hi=>om,λi j hi=>om⟩
 clear bd;obtain⟨k,E,hk,rfl,a,p,hE,D⟩:=hrel;by_cases l:k<d.n
 .obtain⟨b,off,rfl,V,hcs⟩:=hD.log.resolve_left om;have bf:=U.trans<|a.below om om;rcases (hcs k l).keep (λq=>bf.cell V),a.size,O a,O p,O hE,O D,p.cell l,p.frozen k with⟨⟨e0,e1,e2,e3,e4,e5,e6,e7,e8,e9,b7⟩,cn,HF,HP,HE,HI,r0,r1⟩;have T:=(a.cell om om).trans b0;clear hcs a p hE D bf;go_wp2_with fail;obtain⟨W,B⟩:=o9<|wr.alloc<|.cells #[J (d.L k).key.kind,J (d.L k).key.num,F9 (d.L k).key.Af,.string (d.L k).key.str,J (d.L k).key.ref,J (d.L k).val.kind,J (d.L k).val.num,F9 (d.L k).val.Af,.string (d.L k).val.str,J (d.L k).val.ref,J (d.L k).turn] 166;rw[<-B];have y0:W.cell? (y wr 0)=some (J (d.L k).key.kind):=by rw[B];simp[go_sem]
  obtain⟨y1,y2,y3,y4,y5,y6,y7,y8,y9,cp⟩:W.cell? (y wr 1)=some (J (d.L k).key.num)/\W.cell? (y wr 2)=some (F9 (d.L k).key.Af)/\W.cell? (y wr 3)=some (.string (d.L k).key.str)/\W.cell? (y wr 4)=some (J (d.L k).key.ref)/\W.cell? (y wr 5)=some (J (d.L k).val.kind)/\W.cell? (y wr 6)=some (J (d.L k).val.num)/\W.cell? (y wr 7)=some (F9 (d.L k).val.Af)/\W.cell? (y wr 8)=some (.string (d.L k).val.str)/\W.cell? (y wr 9)=some (J (d.L k).val.ref)/\W.cell? (y wr 10)=some (J (d.L k).turn):=by rw[B];simp[go_sem]
  have ak:W.heap.size=wr.heap.size+1:=by rw[B];simp
  have ao:Hm (w.heap.size+1+1) wr W:=by rw[B];exact(Hm.refl _ _).alloc _
  have q0:=(ao.cell om om).trans T;have F:W.heap[w.heap.size+1+1]?=wr.heap[w.heap.size+1+1]?:=by rw[B];exact DO _ _ _ om
  have aq:=O<|HP.keep F;rcases (aq.cell l),(aq.frozen k),O ao,O ak with⟨s0,s1,b8,b9⟩;have bg:w.heap.size+1<W.heap.size:=om;have ca:w.heap.size+1+1<W.heap.size:=om;clear B ao ak F e0 e1 e2 e3 e4 e5 e6 e7 e8 e9 b7 r0 r1 T;obtain⟨r,f⟩:=o9<|((W.setCell (Z9 w k)<|Q9 W.heap.size).alloc<|.cells #[J (d.L k).key.kind,J (d.L k).key.num,F9 (d.L k).key.Af,.string (d.L k).key.str,J (d.L k).key.ref,J (d.L k).val.kind,J (d.L k).val.num,F9 (d.L k).val.Af,.string (d.L k).val.str,J (d.L k).val.ref,J (d.L k).turn,J (k:Int)] 303).drew;have c:Hm (w.heap.size+1+1) wr r:=by rw[f];exact((b8.setCell _ _).alloc _).drew
  have bh:Db r (w.heap.size+1+1) d.n 289 λi=>if i<k+1 then some (G ((λi=>if i=k then W.heap.size else E i) i) 0)else none:=by
   refine((aq.set (q:=k)<|some<|G W.heap.size 0).keep (w':=r) ?_).congr λi hi=>?_
   .rw[f];exact DO _ _ _<|by simpa using ca
   by_cases e:i=k
   .subst e;simp
   simp only[e,XN];by_cases e2:i<k
   .rw[C3 om,C3 e2]
   rw[Cs om,Cs e2]
  have bj:∀i,i<k+1->BC r ((λi=>if i=k then W.heap.size else E i) i) (d.L i) i/\w.heap.size+3<=(λi=>if i=k then W.heap.size else E i) i:=by
   intro i hi;by_cases e:i=k
   .subst e;simp only[if_true];refine⟨?_,om⟩;have:=YC (W.setCell (Z9 w i)<|Q9 W.heap.size) (d.L i) i;rw[f];refine BC.drew ?_;simpa using this
   simp only[e,XN];obtain⟨h1,h2⟩:=z HE i om;exact⟨h1.keep c.size<|c.block _ h1.lt om,h2⟩
  have bm:∀i j,i<k+1->j<k+1->(λi=>if i=k then W.heap.size else E i) i=(λi=>if i=k then W.heap.size else E i) j->i=j:=by
   intro i j hi hj he;have ak:=z b9;by_cases e:i=k
   .by_cases e2:j=k
    .omega
    simp only[e,e2,if_true,XN]at he;have:=(HE j om).1.lt;omega
   by_cases e2:j=k
   .simp only[e,e2,if_true,XN]at he;have:=(HE i om).1.lt;omega
   simp only[e,e2,XN]at he;exact HI i j om om he
  have u:=O (⟨HF.trans c,bh,bj,bm⟩:Hm (w.heap.size+1+1) u1 r/\_/\_/\_);clear c bh bj bm
  go_region
  rw[<-f];clear f;go_wp2;go_roundw
  .exact⟨k+1,_,om,ov,u.1,u.2.1,u.2.2.1,u.2.2.2⟩
  exact ow
 have A:k=d.n:=om;subst A;have C:=p.congr λi hi=>(C3 hi).symm;have bg:=a.size;have ar:=O<|U.trans<|a.below om om;have bn:=(a.cell om om).trans a1;have H:=(a.cell om om).trans a2;have K:=(a.cell om om).trans a3;have au:=(a.cell om om).trans b0;have av:=(a.cell om om).trans b1;have M:=(a.cell om om).trans b2;have P:=(a.cell om om).trans b3;have Q:=(a.cell om om).trans b4;have aw:=(a.cell om om).trans b5;have ax:=(a.cell om om).trans b6;have cf:∀o,wr.frozen? (Y9 w o)=false:=λo=>(a.frozen (o:=o) (q:=w.heap.size+1) om om).trans<|f1 o;have ag:w.heap.size+3<=wr.heap.size:=om;obtain⟨v1,bp⟩:=o9 wr;rw[<-bp]at ar bn H K au av M P Q aw ax cf ag C hE ⊢;have HI:=O D;have cb:=JF underlying296 Jz d.m hm;have ay:w.heap.size<v1.heap.size:=om;have az:w.heap.size+1<v1.heap.size:=om;have aM:Hid<|Bk w v1 xa xc d E N9 .nilFunc N9<|J 0:=O ⟨ar,ag,H,K,au,av,M,P,Q,aw,ax,cf,C,hE⟩;clear bp p C hE D a bg hk l a1 a2 a3 b0 b1 b2 b3 b4 b5 b6 f1 U bz ar;go_wp2_with fail;clear cb;obtain⟨u2,Z⟩:=o9<|(v1.setCell (Y9 w 1)<|S9 v1.heap.size d.m d.m).alloc<|.cells (madeCells #[.pointer none] d.m) 289;rw[<-Z];have HK:Hid<|Bk w u2 xa xc d E (S9 v1.heap.size d.m d.m) .nilFunc N9<|J 0:=O (by rw[Z];exact(aM.eO _).alloc _);have HQ:Hid<|Db u2 v1.heap.size d.m 289 λ_=>none:=O (by rw[Z];have:=Db.fresh (v1.setCell (Y9 w 1)<|S9 v1.heap.size d.m d.m) d.m 289;simpa using this);have bq:∀i,i<d.n->E i<v1.heap.size:=λi hi=>(aM.Cw i hi).1.lt;have a6:=O bq;obtain⟨s,a7⟩:=o9 v1.heap.size;have cq:u2.heap.size=s+1:=by rw[Z,a7];simp
 rw[<-a7]at HK HQ a6 ag ⊢;clear Z bq aM cf bn H K au av M P Q aw ax ay az a7;go_loopw [52] (λi wr=>∃k:Nat,k<=d.m/\i=J k/\Hm s u2 wr/\Db wr s d.m 289 λi=>if i<k then CG E (d.I i)else none) λi _=>d.m-(intOf i).toNat
 .exact⟨0,om,rfl,Hm.refl _ _,HQ.congr λi hi=>Cs om⟩
 clear HQ;obtain⟨k,hk,rfl,a,p⟩:=hrel;have hK:=HK.tF a ag λi hi=>Nat.ne_of_lt<|a6 i hi;by_cases l:k<d.m
 .obtain⟨b,off,rfl,V,hcs⟩:=hD.ints.resolve_left om;rcases (hK.below.cell V).trans (hcs k l),O a,O p,a.size with⟨e0,HF,HP,ah⟩;rcases H3.1 k l with hz|hz
  .have u:Hid<|Db wr s d.m 289 λi=>if i<k+1 then CG E (d.I i)else none:=O (p.congr (λi hi=>by
    by_cases e:i=k
    .subst e;simp[CG,hz]
    by_cases e2:i<k
    .rw[C3 om,C3 e2]
    rw[Cs om,Cs e2]))
   rw[hz]at e0;clear hcs a p hK hz;go_wp2;go_roundw
   .exact⟨k+1,om,ov,HF,u⟩
   exact ow
  obtain⟨q,hq⟩:∃q:Nat,d.I k=(q:Int)+1:=⟨(d.I k-1).toNat,om⟩;have ai:q<d.n:=om;rcases hK.b0,hK.b1,hK.ptr.cell ai,p.cell l,p.frozen k with⟨c0,c1,T,r0,r1⟩;have br:CG E (d.I k)=some (G (E q) 0):=by unfold CG;rw[C3 om,hq];congr 3;omega
  have u:Hid<|Db (wr.setCell (G s k)<|Q9<|E q).drew s d.m 289 λi=>if i<k+1 then CG E (d.I i)else none:=O ((p.set (q:=k)<|some<|G (E q) 0).congr (λi hi=>by
   by_cases e:i=k
   .subst e;simp[br]
   simp only[e,XN];by_cases e2:i<k
   .rw[C3 om,C3 e2]
   rw[Cs om,Cs e2]))
  have cc:IntKind.i64.wrap (q:Int)=q:=oj;have cd:w.heap.size+1<wr.heap.size:=om;have Dt:s<wr.heap.size:=om;rw[hq]at e0;clear hcs a p hK hz hq br;go_wp2_with fail
  go_region
  go_wp2;go_roundw
  .exact⟨k+1,om,ov,(HF.setCell _ _).drew,u⟩
  exact ow
 have A:k=d.m:=om;subst A;rcases O (p.congr λi hi=>(C3 hi).symm),a.size,hK.a2,hK.a3,hK.b2,hK.b3,hK.b4,hK.fz,O hK,o9 wr with⟨HQ,ah,H,K,M,P,Q,cf,aj,⟨v2,bt⟩⟩;rw[<-bt]at HQ H K M P Q cf aj ah ⊢;have cg:=JF underlying297 TY d.x hx;have ay:w.heap.size<v2.heap.size:=om;have az:w.heap.size+1<v2.heap.size:=om;have bu:s<v2.heap.size:=om;clear p a hK hk l bt HK;go_wp2_with fail;clear cg;obtain⟨u3,R⟩:=o9<|((((v2.setCell (Y9 w 2) Oq).setCell (Y9 w 3) N9).setCell (Y9 w 4)<|J d.used).setCell (Y9 w 3)<|S9 v2.heap.size d.x d.x).alloc<|.cells (madeCells #[.pointer none] d.x) 304;rw[<-R];have HK:Hid<|Bk w u3 xa xc d E (S9 s d.m d.m) Oq (S9 v2.heap.size d.x d.x)<|J d.used:=O (by rw[R];exact((((aj.eQ _).rV _).uD _).rV _).alloc _);have a8:Hid<|Db u3 v2.heap.size d.x 304 λ_=>none:=O (by rw[R];have:=Db.fresh ((((v2.setCell (Y9 w 2) Oq).setCell (Y9 w 3) N9).setCell (Y9 w 4)<|J d.used).setCell (Y9 w 3)<|S9 v2.heap.size d.x d.x) d.x 304;simpa using this);have ch:Hid<|Db u3 s d.m 289 λi=>CG E<|d.I i:=O (HQ.keep (by
  rw[R];refine(DO _ _ _ (by simpa using bu)).trans ?_;exact(At _ _ _ _ (by show s≠w.heap.size+1;omega)).trans ((At _ _ _ _ (by show s≠w.heap.size+1;omega)).trans ((At _ _ _ _ (by show s≠w.heap.size+1;omega)).trans (At _ _ _ _ (by show s≠w.heap.size+1;omega))))))
 have ae:Hid<|∀i,i<d.n->E i<v2.heap.size:=O λi hi=>(aj.Cw i hi).1.lt;obtain⟨R2,bb⟩:=o9 v2.heap.size;have cm:u3.heap.size=R2+1:=by rw[R,bb];simp
 rw[<-bb]at HK a8 ae bu ah ⊢;clear R aj HQ a6 cf H K M P Q ay az bb;have bc:s≠R2:=om;have cj:w.heap.size+3<=R2:=om;go_loopw [91] (λi wr=>∃(k:Nat) (S:Nat->Nat),k<=d.x/\i=J k/\Hm R2 u3 wr/\Db wr R2 d.x 304 (λj=>if j<k then DB S j (d.X j)else none)/\∀j,j<k->DC wr E S d j/\(d.X j≠0->R2<S j)) λi _=>d.x-(intOf i).toNat
 .exact⟨0,λ_=>0,om,rfl,Hm.refl _ _,a8.congr λi hi=>Cs om,λj hj=>om⟩
 clear a8;obtain⟨k,S,hk,rfl,a,p,t⟩:=hrel;have hK:=HK.tF a cj λi hi=>Nat.ne_of_lt<|ae i hi;have ah:=a.size;by_cases l:k<d.x
 .obtain⟨b,off,rfl,V,hcs⟩:=hD.index.resolve_left om;rcases (hK.below.cell V).trans (hcs k l),O a,O p,O t with⟨e0,HF,HP,cr⟩;have cd:w.heap.size+1<wr.heap.size:=om;have Dt:R2<wr.heap.size:=om;rcases hK.b0,hK.b3,p.cell l,p.frozen k with⟨c0,c3,r0,r1⟩;by_cases T:d.X k=0
  .have u:Hid<|Db wr R2 d.x 304 λj=>if j<k+1 then DB S j (d.X j)else none:=O (p.congr (λj hj=>by
    by_cases e:j=k
    .subst e;simp[DB,T]
    by_cases e2:j<k
    .rw[C3 om,C3 e2]
    rw[Cs om,Cs e2]))
   have ck:Hid<|∀j,j<k+1->DC wr E S d j/\(d.X j≠0->R2<S j):=O (λj hj=>by
    by_cases e:j=k
    .subst e;exact⟨⟨λh=>om,λh=>om⟩,λh=>absurd T h⟩
    exact t j om)
   rw[T]at e0;clear hcs a p hK t T;go_wp2;go_roundw
   .exact⟨k+1,S,om,ov,HF,u,ck⟩
   exact ow
  have ad:∀(W':Y) (sb:Nat),W'.heap[R2]?=(wr.setCell (G R2 k)<|Q9 sb).heap[R2]?->Db W' R2 d.x 304 λj=>if j<k+1 then DB (λi=>if i=k then sb else S i) j (d.X j)else none:=by
   intro W' sb F;refine((p.set (q:=k)<|some<|G sb 0).keep F).congr λj hj=>?_;by_cases e:j=k
   .subst e;simp[DB,T]
   simp only[e,XN,DB];by_cases e2:j<k
   .rw[C3 om,C3 e2]
   rw[Cs om,Cs e2]
  have ct:=O ad;rcases h4.2.1 k l with hs|hs|hs
  .exact absurd hs T
  .obtain⟨r,f⟩:=o9<|(wr.setCell (G R2 k)<|Q9 wr.heap.size).alloc<|.cells #[J 0,J 0,F9 0,E9,J 0,.pointer none,.bool true] 306;have c:Hm R2 wr r:=by rw[f];exact((Hm.refl _ _).setCell _ _).alloc _
   have u:Hid (Hm R2 u3 r/\Db r R2 d.x 304 (λj=>if j<k+1 then DB (λi=>if i=k then wr.heap.size else S i) j (d.X j)else none)/\∀j,j<k+1->DC r E (λi=>if i=k then wr.heap.size else S i) d j/\(d.X j≠0->R2<(λi=>if i=k then wr.heap.size else S i) j)):=O ⟨a.trans c,ad r _<|by rw[f];exact DO _ _ _<|by simpa using Dt,λj hj=>by
    by_cases e:j=k
    .subst e;simp only[if_true];refine⟨⟨λh=>om,λ_=>?_⟩,λ_=>Dt⟩;simp only[if_true];rw[f];exact⟨oq,oe,by have hg:=DD (wr.setCell (G R2 j)<|Q9 wr.heap.size)<|.cells XI 306;simpa using hg⟩
    obtain⟨⟨h1,h2⟩,h3⟩:=t j om;refine⟨⟨λh=>?_,λh=>?_⟩,λh=>?_⟩
    .simp only[e,XN];have:=h3 om;exact(h1 h).keep c.size (c.block _ (h1 h).lt om)
    .simp only[e,XN];have:=h3 om;exact(h2 h).keep c.size (c.block _ (h2 h).lt om)
    simp only[e,XN];exact h3 h⟩
   rw[hs]at e0;clear hcs a p hK t T hs ad c;go_wp2_with fail;rw[<-f];clear f;go_roundw
   .exact⟨k+1,_,om,ov,u.1,u.2.1,u.2.2⟩
   exact ow
  obtain⟨q,hq⟩:∃q:Nat,d.X k=(q:Int)+1:=⟨(d.X k-1).toNat,om⟩;have ai:q<d.n:=om;have p1:=hK.ptr.cell ai;obtain⟨cu,g0,g1,g2,g3,g4,_,_,_,_,_,_,_⟩:=(hK.Cw q ai).1;have bw:(d.X k-1).toNat=q:=om;obtain⟨r,f⟩:=o9<|((wr.setCell (G R2 k)<|Q9 wr.heap.size).alloc<|.cells #[J (d.L q).key.kind,J (d.L q).key.num,F9 (d.L q).key.Af,.string (d.L q).key.str,J (d.L q).key.ref,Q9<|E q,.bool false] 306).drew;have c:Hm R2 wr r:=by rw[f];exact(((Hm.refl _ _).setCell _ _).alloc _).drew
  have u:Hid (Hm R2 u3 r/\Db r R2 d.x 304 (λj=>if j<k+1 then DB (λi=>if i=k then wr.heap.size else S i) j (d.X j)else none)/\∀j,j<k+1->DC r E (λi=>if i=k then wr.heap.size else S i) d j/\(d.X j≠0->R2<(λi=>if i=k then wr.heap.size else S i) j)):=O ⟨a.trans c,ad r _<|by rw[f];exact DO _ _ _<|by simpa using Dt,λj hj=>by
   by_cases e:j=k
   .subst e;refine⟨⟨λ_=>?_,λh=>om⟩,λ_=>by simpa using Dt⟩;simp only[if_true];rw[f];have hn:=fJ (wr.setCell (G R2 j)<|Q9 wr.heap.size) (d.L q).key<|E q;have cl:Iy ((wr.setCell (G R2 j)<|Q9 wr.heap.size).alloc<|.cells #[J (d.L q).key.kind,J (d.L q).key.num,F9 (d.L q).key.Af,.string (d.L q).key.str,J (d.L q).key.ref,Q9<|E q,.bool false] 306) wr.heap.size (d.L q).key<|E q:=by simpa using hn
    show Iy _ _ (d.L (d.X j-1).toNat).key (E (d.X j-1).toNat);rw[bw];exact cl.keep (Be _) rfl
   obtain⟨⟨h1,h2⟩,h3⟩:=t j om;refine⟨⟨λh=>?_,λh=>?_⟩,λh=>?_⟩
   .simp only[e,XN];have:=h3 om;exact(h1 h).keep c.size (c.block _ (h1 h).lt om)
   .simp only[e,XN];have:=h3 om;exact(h2 h).keep c.size (c.block _ (h2 h).lt om)
   simp only[e,XN];exact h3 h⟩
  have cc:IntKind.i64.wrap (q:Int)=q:=oj;rw[hq]at e0;clear hcs a p hK t T hs ad c hq bw;go_wp2_with fail
  go_region
  rw[<-f];clear f;go_wp2;go_roundw
  .exact⟨k+1,_,om,ov,u.1,u.2.1,u.2.2⟩
  exact ow
 have A:k=d.x:=om;subst A;have C:=p.congr λi hi=>(C3 hi).symm;have hQ:=ch.keep<|a.block _ om bc;have af:Hid<|(JN wr (w.heap.size+1) (w.heap.size+1+1) s R2 E S d/\Vu wr w.heap.size (w.heap.size+1) (w.heap.size+1+1) s R2 E S d)/\B9 w wr:=O ⟨⟨⟨om,⟨_,_,hK.b0,λ_=>rfl⟩,⟨_,hK.b1⟩,hK.b2,hK.b3,hK.b4,hK.b5,hK.b6,λi hi=>hK.ptr.cell hi,λi hi=>(hK.Cw i hi).1,HI,λi hi=>hQ.cell hi,λi hi=>C.cell hi,λj hj=>(t j hj).1,om,om,om⟩,⟨hK.b0,hK.b1,hK.fz,hK.ptr,hQ,C,om,om,om,om,om,λi hi=>oS (hK.Cw i hi).2,λj hj h0=>(t j hj).2 h0⟩⟩,hK.below⟩;clear p C a hK t hk l hQ;go_wp2;go_ret;exact⟨⟨_,_,_,_,_,_,rfl,af.1⟩,af.2⟩
def Ih lc{ia:Option Addr}ic{xa:Option Addr}xc{d}{w}(hD:Ea w la ia xa d)(c:Small d)(h3:D3 d)(h4:D4 d):
  C9 193 #[Dv la lc ia ic xa xc d] w λe w'=>(∃bk a b R2 E S,e=.returned (Q9 bk)/\JN w' bk a b R2 E S d)/\B9 w w':=
 (Ii lc ic xc hD c h3 h4).mono λe w' h=>by
  obtain⟨⟨bk,a,b,R2,E,S,h1,h2,_⟩,h3⟩:=h;exact⟨⟨bk,a,b,R2,E,S,h1,h2⟩,h3⟩
end
section
attribute [local go_sem] Ar Am
def qI(n:Nat)(f:Nat->Pr):Prop:=∀i,i<n->(f i).key.str.size<=maxLen/\(f i).val.str.size<=maxLen
def WQ p left w(k:0<=left)(h1:left<=1048576)(hk:p.key.str.size<=maxLen)(j:p.val.str.size<=maxLen):
  C9 151 #[PV p,J left] w λe w'=>(∃r,e=.returned (J r)/\(r=-1\/0<=r/\r<=left))/\B9 w w':=by
 have HK:=O hk;have l:=O j;clear hk j;go_enter func151,ntmps151;go_wp2_with fail;refine m9 (Mg p.key.kind p.key.num p.key.Af p.key.str p.key.ref left _ HK k h1) λw1 b=>?_;obtain⟨a,i⟩:=AM b;have m:w1.cell? (y w 5)=some (J p.val.kind):=by rw[a _ _ oq];simp[go_sem]
 have n:w1.cell? (y w 6)=some (J p.val.num):=by rw[a _ _ oq];simp[go_sem]
 have o:w1.cell? (y w 7)=some (F9 p.val.Af):=by rw[a _ _ oq];simp[go_sem]
 have q:w1.cell? (y w 8)=some (.string p.val.str):=by rw[a _ _ oq];simp[go_sem]
 have s:w1.cell? (y w 9)=some (J p.val.ref):=by rw[a _ _ oq];simp[go_sem]
 have c:=O<|((BE w.heap.size w).alloc (Be _) _).trans<|b.mono oq;clear b a i;by_cases hl:left<p.key.str.size
 .rw[C3 hl];clear hl;go_wp2_with fail;go_ret;exact⟨⟨-1,rfl,.inl rfl⟩,c⟩
 rw[Cs hl];obtain⟨l2,d⟩:=o9<|left-(p.key.str.size:Int);rw[<-d];have g0:0<=l2:=om;have g1:l2<=left:=om;clear hl d;go_wp2_with fail;refine m9 (Mg p.val.kind p.val.num p.val.Af p.val.str p.val.ref l2 _ l g0 om) λw2 f=>?_;have g:=O<|o8 c f;clear f;by_cases hl:l2<p.val.str.size
 .rw[C3 hl];clear hl;go_wp2_with fail;go_ret;exact⟨⟨-1,rfl,.inl rfl⟩,g⟩
 rw[Cs hl];obtain⟨l3,h⟩:=o9<|l2-(p.val.str.size:Int);rw[<-h];have g2:0<=l3:=om;have g3:l3<=left:=om;clear hl h;go_wp2_with fail;go_ret;exact⟨⟨l3,rfl,.inr ⟨g2,g3⟩⟩,g⟩
structure mN (d:Dc):Prop where
 n:d.n<=maxLen
 m:d.m<=maxLen
 x:d.x<=maxLen
 s:qI d.n d.L
def WW p w:
  C9 159 #[PV p] w (R9 (PV p) w):=by
 go_enter func159,ntmps159;go_wp2_with fail;refine m9 (Fx p.key.kind p.key.num p.key.Af p.key.str p.key.ref _) λw1 a=>?_;obtain⟨c,j⟩:=AM a;have d:=a.size;simp at d;have m:w.heap.size<w1.heap.size:=om;have k:w.heap.size+1<w1.heap.size:=om;have n:w.heap.size+1+1<w1.heap.size:=om;have e:=O<|(((n9).alloc oq _).alloc ot _).trans<|a.mono ot;clear a;go_wp2_with fail;refine m9 (Fx p.val.kind p.val.num p.val.Af p.val.str p.val.ref _) λw2 b=>?_;obtain⟨f,l⟩:=AM b;have g:=b.size;simp at g;have z0:w.heap.size<w2.heap.size:=om;have o:w.heap.size+1<w2.heap.size:=om;have h:=O b;clear b;go_wp2;refine GO (v:=PV p) (by simp[results,results159,go_sem,c,f,k]) rfl ⟨rfl,?_⟩;have i:B9 w w2:=by
  refine AaD ?_<|h.mono ot;repeat(refine NO ?_ oy _)
  exact e
 repeat(refine NO ?_ (by first|(show w.heap.size<=w.heap.size+1;omega)|(show w.heap.size<=w.heap.size+1+1;omega)) _)
 exact i
def UJ(p:Pr)(h:q<o\/o+11<=q):(((((((((((w.setCell (G b o)<|J p.key.kind).setCell (G b<|o+1)<|J p.key.num).setCell (G b<|o+2)<|F9 p.key.Af).setCell (G b<|o+3)<|.string p.key.str).setCell (G b<|o+4)<|J p.key.ref).setCell (G b<|o+5)<|J p.val.kind).setCell (G b<|o+6)<|J p.val.num).setCell (G b<|o+7)<|F9 p.val.Af).setCell (G b<|o+8)<|.string p.val.str).setCell (G b<|o+9)<|J p.val.ref).setCell (G b<|o+10)<|J p.turn).cell? (G b q)=w.cell? (G b q):=by
 exact(Aa om).trans ((Aa om).trans<|(Aa om).trans<|(Aa om).trans<|(Aa om).trans<|(Aa om).trans<|(Aa om).trans<|(Aa om).trans<|(Aa om).trans<|(Aa om).trans<|Aa om)
def Ex.EG(h:Ex w b o p)(e:∀j,j<11->w'.cell? (G b<|o+j)=w.cell? (G b<|o+j)):Ex w' b o p:=
 ⟨(e 0 om).trans h.k0,(e 1 om).trans h.k1,(e 2 om).trans h.k2,(e 3 om).trans h.k3,(e 4 om).trans h.k4,(e 5 om).trans h.v0,(e 6 om).trans h.v1,(e 7 om).trans h.v2,(e 8 om).trans h.v3,(e 9 om).trans h.v4,(e 10 om).trans h.tn⟩
def ZA{t}(h:w.rowIs b t Z g)(c:o+11<=Z)p:(∃g',(((((((((((w.setCell (G b o)<|J p.key.kind).setCell (G b<|o+1)<|J p.key.num).setCell (G b<|o+2)<|F9 p.key.Af).setCell (G b<|o+3)<|.string p.key.str).setCell (G b<|o+4)<|J p.key.ref).setCell (G b<|o+5)<|J p.val.kind).setCell (G b<|o+6)<|J p.val.num).setCell (G b<|o+7)<|F9 p.val.Af).setCell (G b<|o+8)<|.string p.val.str).setCell (G b<|o+9)<|J p.val.ref).setCell (G b<|o+10)<|J p.turn).rowIs b t Z g')/\Ex (((((((((((w.setCell (G b o)<|J p.key.kind).setCell (G b<|o+1)<|J p.key.num).setCell (G b<|o+2)<|F9 p.key.Af).setCell (G b<|o+3)<|.string p.key.str).setCell (G b<|o+4)<|J p.key.ref).setCell (G b<|o+5)<|J p.val.kind).setCell (G b<|o+6)<|J p.val.num).setCell (G b<|o+7)<|F9 p.val.Af).setCell (G b<|o+8)<|.string p.val.str).setCell (G b<|o+9)<|J p.val.ref).setCell (G b<|o+10)<|J p.turn) b o p:=by
 have a:=((((((((((h.set o<|J p.key.kind).set (o+1)<|J p.key.num).set (o+2)<|F9 p.key.Af).set (o+3)<|.string p.key.str).set (o+4)<|J p.key.ref).set (o+5)<|J p.val.kind).set (o+6)<|J p.val.num).set (o+7)<|F9 p.val.Af).set (o+8)<|.string p.val.str).set (o+9)<|J p.val.ref).set (o+10)<|J p.turn;refine⟨⟨_,a⟩,?_⟩;constructor;all_goals(rw[a.cell om];simp)
def Wh(n:Nat)(hn:n<=4194304)w:
  (Instr.makeSlice 101 (J n)<|J n).run prog w=.ok (S9 w.heap.size n n) (w.alloc<|.cells (madeCells PZ.cells<|n*11) 166):=by
 obtain⟨i,hi,hz,hs,hb⟩:=ON EF;have:=run_make (P:=prog) w 101 166 i _ underlying101 hi hz .i64 .i64 n n om (AaC _) (by rw[hb];omega) om;simp only[On,hs]at this;exact this
def Wc(w:Y)m:∃g,(w.alloc<|.cells (madeCells PZ.cells m) 166).rowIs w.heap.size 166 m g:=by
 have h:=Aaj w (madeCells PZ.cells m) 166 (λi=>((madeCells PZ.cells m)[i]?).getD undef) (λi hi=>by rw[UP hi];rfl);rw[AaN]at h;exact⟨_,h⟩
def JX.setOther{s}{f}{v:V9}(h:JX w (some<|G s o) n f){b}(hb:s≠b):JX (w.setCell (G b q) v) (some<|G s o) n f:=by
 rcases h with h|⟨b',off,e,a,hc⟩
 .exact .inl h
 cases e;exact .inr ⟨s,o,rfl,by simpa using a,λi hi=>(hc i hi).keep λq=>Al<|Ne.symm hb⟩
def JP.setOther{s}{f}{v:V9}(h:JP w (some<|G s o) n f){b}(hb:s≠b):JP (w.setCell (G b q) v) (some<|G s o) n f:=by
 rcases h with h|⟨b',off,e,a,hc⟩
 .exact .inl h
 cases e;exact .inr ⟨s,o,rfl,by simpa using a,λi hi=>(Al<|Ne.symm hb).trans<|hc i hi⟩
def Tw p w:
  C9 177 #[PV p,PV p] w (R9 (.bool true) w):=by
 go_enter func177,ntmps177;go_wp2_with fail;refine m9 (EB p.key.kind p.key.num p.key.Af p.key.str p.key.ref _) λw1 a=>?_;obtain⟨f,g⟩:=AM a;have d:=a.size;simp at d;have j:w.heap.size<w1.heap.size:=om;have k:w.heap.size+1<w1.heap.size:=om;have c:=O<|((n9).alloc oq _).trans<|a.mono ot;clear a;go_wp2_with fail;refine m9 (EB p.val.kind p.val.num p.val.Af p.val.str p.val.ref _) λw2 b=>?_;obtain⟨h,i⟩:=AM b;have e:=O<|o8 c b;clear b;go_wp2;go_ret;exact⟨rfl,e⟩
def RT cap g{f}{w}(hA:JX w a n f)(s:JX w a' n f)(hn:n<=4194304):
  C9 149 #[.slice a n cap,.slice a' n g] w (R9 (.bool true) w):=by
 have u:=O hA;have v:=O s;clear hA s;go_enter func149,ntmps149;go_wp2;go_loopw [5] (λi wr=>∃(k:Nat),k<=n/\i=J k/\B9 w wr) λi _=>n-(intOf i).toNat
 .exact⟨0,om,rfl,BE _ _⟩
 obtain⟨k,hk,rfl,hb⟩:=hrel;by_cases j:k<n
 .obtain⟨b,off,rfl,l,hcs⟩:=u.resolve_left om;obtain⟨b',t,rfl,c,d⟩:=v.resolve_left om;rcases (hcs k j).keep (λq=>hb.cell l),(d k j).keep λq=>hb.cell c,A0 l hb.size,A0 c hb.size,O hb with⟨⟨e0,e1,e2,e3,x,A,B,C,D,E,p⟩,⟨d0,d1,d2,d3,d4,d5,d6,d7,d8,d9,d10⟩,H,F,m⟩;clear hb hcs d;go_wp2_with fail;refine qr wr ?_;(iterate 8 refine N (h:=?_));refine GC λK hK=>?_;go_simp;refine⟨_,λw' r=>qk r<|Tw (f k) _,hK _ ?_⟩;clear hK K;refine N (h:=?_);refine GS ?_;intro w2 o;have e:=O<|o8 m o;clear o e0 e1 e2 e3 x A B C D E p d0 d1 d2 d3 d4 d5 d6 d7 d8 d9 d10;go_wp2;go_roundw
  .exact⟨k+1,om,ov,e⟩
  exact ow
 have:k=n:=om;subst this;have e:=O hb;clear hb;go_wp2;go_ret;exact⟨rfl,e⟩
def Mw cap d{f}{w}(hA:JP w a n f)(m:JP w a' n f)(hn:n<=4194304):
  C9 150 #[.slice a n cap,.slice a' n d] w (R9 (.bool true) w):=by
 have p:=O hA;have q:=O m;clear hA m;go_enter func150,ntmps150;go_wp2;go_loopw [5] (λi wr=>∃(k:Nat),k<=n/\i=J k/\B9 w wr) λi _=>n-(intOf i).toNat
 .exact⟨0,om,rfl,BE _ _⟩
 obtain⟨k,hk,rfl,hb⟩:=hrel;by_cases e:k<n
 .obtain⟨b,off,rfl,h,hcs⟩:=p.resolve_left om;obtain⟨b',o,rfl,g,c⟩:=q.resolve_left om;rcases (hb.cell h).trans (hcs k e),(hb.cell g).trans<|c k e,O hb with⟨e0,d0,j⟩;clear hb hcs c;go_wp2_with fail;go_quiet (fail);go_wp2;go_roundw
  .exact⟨k+1,om,ov,AH j _⟩
  exact ow
 have:k=n:=om;subst this;have l:=O hb;clear hb;go_wp2;go_ret;exact⟨rfl,l⟩
def Tu{g h i:Option Addr}lc j ic k xc l{d}{w}(hA:Ea w la ia xa d)(v:Ea w g h i d)(A:Small d):
  C9 113 #[Dv la lc ia ic xa xc d,Dv g j h k i l d] w (R9 (.bool true) w):=by
 rcases O hA,O v,O A with⟨q,r,s⟩;clear hA v A;have p:B9 w<|(w.alloc<|.cells #[.slice la d.n lc,.slice ia d.m ic,.slice xa d.x xc,J d.used,J d.live,J d.turns] 103).alloc<|.cells #[.slice g d.n j,.slice h d.m k,.slice i d.x l,J d.used,J d.live,J d.turns] 103:=(n9).alloc oq _;have b:=O p;clear p;go_enter func113,ntmps113;go_wp2_with fail;refine m9 (RT lc j (q.below b).log (r.below b).log s.n) λw1 c=>?_;obtain⟨B,C⟩:=AM c;have t:=c.size;simp at t;have D:w.heap.size<w1.heap.size:=om;have E:w.heap.size+1<w1.heap.size:=om;have e:=O<|o8 b c;clear c;go_wp2_with fail;refine m9 (Mw ic k (q.below e).ints (r.below e).ints s.m) λw2 a=>?_;rcases AM a,A0 D a.size,A0 E a.size,O (o8 e a) with⟨⟨F,H⟩,z0,L,f⟩;clear a;go_wp2_with fail;refine m9 (Mw xc l (q.below f).index (r.below f).index s.x) λw3 o=>?_;obtain⟨I,K⟩:=AM o;have u:=O<|o8 f o;clear o;go_wp2;go_ret;exact⟨rfl,u⟩
end
structure A9 where
 parent:Int
 key:ByteArray
 count:Int
instance:Inhabited A9:=⟨⟨0,⟨#[]⟩,0⟩⟩
abbrev Sh(p:Int)(k:ByteArray)(c:Int):Value:=.agg #[J p,.string k,J c]
def IM(w:Y)(a:T9)(n:Nat)(f:Nat->A9):Prop:=
 n=0\/∃b off,a=some (G b off)/\b<w.heap.size/\∀i,i<n->w.cell? (G b<|off+i*3)=some (J (f i).parent)/\w.cell? (G b<|off+i*3+1)=some (.string (f i).key)/\w.cell? (G b<|off+i*3+2)=some (J (f i).count)
def IM.below{f}(h:IM w a n f)(hb:Below B w w')(d:B=w.heap.size):IM w' a n f:=by
 subst d;rcases h with h|⟨b,off,e,c,hc⟩
 .exact .inl h
 refine .inr ⟨b,off,e,A0 c hb.size,λi hi=>?_⟩;obtain⟨g,h1,h2⟩:=hc i hi;exact⟨(hb.cell<|by exact c).trans g,(hb.cell<|by exact c).trans h1,(hb.cell<|by exact c).trans h2⟩
def UZ p k c left w(hs:k.size<=maxLen)(a:0<=left)(h1:left<=1048576):
  C9 75 #[Sh p k c,J left] w (R9 (J<|if left<k.size then -1 else left-k.size) w):=by
 unfold maxLen at hs;by_cases h:left<k.size
 focus
  rw[C3 h]
 rotate_left
 focus
  rw[Cs h]
 all_goals
  go_enter func75,ntmps75;go_wp2;go_ret;exact⟨oq,n9⟩
def U5 p k c w:
  C9 96 #[Sh p k c] w (R9 (Sh p k c) w):=by
 go_enter func96,ntmps96;go_wp2;exact GO (v:=Sh p k c) (by simp[results,results96,go_sem]) rfl ⟨rfl,((n9).alloc oq _).alloc ot _⟩
def Ty p q k l c d w:
  C9 111 #[Sh p k c,Sh q l d] w (R9 (.bool<|p==q&&(k.toList==l.toList)&&c==d) w):=by
 go_enter func111,ntmps111;go_wp2;all_goals(go_ret;refine⟨by simp_all,(n9).alloc oq _⟩)
def Xg(n:Nat)(f:Nat->A9):Prop:=n<=1048576/\∀i,i<n->(f i).key.size<=1048576
def SI cap{f}{w}(hA:IM w a n f)(hn:n<=maxLen)(hk:∀i,i<n->(f i).key.size<=maxLen):
  C9 38 #[.slice a n cap,J 1048576] w λe w'=>(∃r,e=.returned (J r)/\(r=-1\/0<=r/\r<=1048576/\Xg n f))/\B9 w w':=by
 unfold maxLen at hn;by_cases h:(1048576:Int)<n
 .go_enter func38,ntmps38;go_wp2;go_ret;exact⟨⟨-1,oq,.inl rfl⟩,BE _ _⟩
 rcases hA with rfl|⟨b,off,rfl,d,hc⟩
 .go_enter func38,ntmps38;go_wp2;go_loopw [1,5] (λl i wr=>i=J 0/\l=J 1048576/\wr=w) λ_ i _=>0
  .simp
  obtain⟨rfl,rfl,rfl⟩:=hrel;go_wp2;go_ret;exact⟨⟨1048576,oq,.inr ⟨om,om,om,λi hi=>om⟩⟩,BE _ _⟩
 have p:=O hc;have HK:=O hk;go_enter func38,ntmps38;go_wp2;go_loopw [1,5] (λl i wr=>∃(k:Nat) (left:Int),k<=n/\i=J k/\l=J left/\0<=left/\left<=1048576/\B9 w wr/\∀j,j<k->(f j).key.size<=1048576) λ_ i _=>n-(intOf i).toNat
 .exact⟨0,1048576-n,om,rfl,oq,om,om,BE _ _,λj hj=>om⟩
 obtain⟨k,left,hk,rfl,rfl,q,s,hb,m⟩:=hrel;have c0:k<n->wr.cell? (G b<|off+k*3)=some (J (f k).parent):=λh=>(hb.cell<|by exact d).trans (p k h).1;have c1:k<n->wr.cell? (G b<|off+k*3+1)=some (.string (f k).key):=λh=>(hb.cell<|by exact d).trans (p k h).2.1;have c2:k<n->wr.cell? (G b<|off+k*3+2)=some (J (f k).count):=λh=>(hb.cell<|by exact d).trans (p k h).2.2;have g:=O m;go_wp2_with (go_at_call 75;refine m9 (UZ (f k).parent (f k).key (f k).count left _ (HK k om) om om) λw1 o=>?_)
 .have c:=o8 hb o;go_ret;exact⟨⟨-1,oq,.inl rfl⟩,c⟩
 .have d:k<n:=ol;have t:0<=if left<((f k).key.size:Int)then -1 else left-((f k).key.size:Int):=ol
  have u:¬left<((f k).key.size:Int):=λh=>by rw[C3 h]at t;omega
  have c:=o8 hb o;go_roundw
  .refine⟨k+1,left-(f k).key.size,om,ov,by rw[Cs u],om,om,c,λj hj=>?_⟩;by_cases e:j=k
   .subst e;omega
   exact g j om
  exact ow
 have:k=n:=om;subst this;go_ret;exact⟨⟨left,oq,.inr ⟨q,s,om,g⟩⟩,hb⟩
def cellOf(f:Nat->A9)(j:Nat):Value:=
 if j%3=0 then J (f<|j/3).parent else if j%3=1 then .string (f<|j/3).key else J (f<|j/3).count
theorem RO f i:cellOf f (i*3)=J (f i).parent:=by
 grind [cellOf]
theorem Nl f i:cellOf f (i*3+1)=.string (f i).key:=by
 grind [cellOf]
theorem RP f i:cellOf f (i*3+2)=J (f i).count:=by
 grind [cellOf]
def Bg(w:Y)(b n:Nat)(f:Nat->A9):Prop:=∃(Z:Nat) (g:Nat->Value),n*3<=Z/\w.rowIs b 142 Z g/\∀j,j<n*3->g j=cellOf f j
def Bg.lt{f}(h:Bg w b n f):b<w.heap.size:=by obtain⟨_,_,_,h,_⟩:=h;exact h.lt
def Bg.cells{f}(h:Bg w b n f){i}(hi:i<n):
  w.cell? (G b<|i*3)=some (J (f i).parent)/\w.cell? (G b<|i*3+1)=some (.string (f i).key)/\w.cell? (G b<|i*3+2)=some (J (f i).count):=by
 obtain⟨Z,g,hN,a,c⟩:=h;exact⟨by rw[a.cell om,c _ om,RO],by rw[a.cell om,c _ om,Nl],by rw[a.cell om,c _ om,RP]⟩
def Bg.of_block{f}(h:Bg w b n f)(e:w'.heap[b]?=w.heap[b]?):Bg w' b n f:=by
 obtain⟨Z,g,hN,a,c⟩:=h;exact⟨Z,g,hN,a.of_block e,c⟩
def Bg.below{f}(h:Bg w b n f)(hb:Below B w w')(a:b<B):Bg w' b n f:=h.of_block<|hb.block b a
def Bg.alloc{f}(h:Bg w b n f)o:Bg (w.alloc o) b n f:=h.of_block<|DO _ _ _ h.lt
def Bg.setOther{f}(h:Bg w b n f){a}(c:b≠a.block)v:Bg (w.setCell a v) b n f:=h.of_block<|At _ _ _ _ c
theorem Bg.at{f}(h:Bg w b n f):IM w (some<|G b 0) n f:=
 .inr ⟨b,0,rfl,h.lt,λi hi=>by simpa using h.cells hi⟩
def JA:(prog.info? 142).map (λi=>(i.zero,i.size,i.bytes))=some (some<|Sh 0 ⟨#[]⟩ 0,3,32):=ou
def Uj(n:Nat)(hn:n<=1048576)w:
  (Instr.makeSlice 36 (J n)<|J n).run prog w=.ok (S9 w.heap.size n n) (w.alloc<|.cells (madeCells (Sh 0 ⟨#[]⟩ 0).cells<|n*3) 142):=by
 obtain⟨i,hi,a⟩:=Option.map_eq_some_iff.1 JA;simp only[Prod.mk.injEq]at a;obtain⟨hz,hs,hb⟩:=a;have:=run_make (P:=prog) w 36 142 i _ underlying36 hi hz .i64 .i64 n n om (AaC _) (by rw[hb];omega) om;simp only[On,hs]at this;exact this
def dD(w:Y)m:∃g,(w.alloc<|.cells (madeCells (Sh 0 ⟨#[]⟩ 0).cells m) 142).rowIs w.heap.size 142 m g:=by
 have h:=Aaj w (madeCells (Sh 0 ⟨#[]⟩ 0).cells m) 142 (λi=>((madeCells (Sh 0 ⟨#[]⟩ 0).cells m)[i]?).getD undef) (λi hi=>by rw[UP hi];rfl);rw[AaN]at h;exact⟨_,h⟩
def eM{f}(h:w.rowIs b 142 (n*3) g)(a:∀j,j<k*3->g j=cellOf f j):
  ∃g',(((w.setCell (G b<|k*3)<|J (f k).parent).setCell (G b<|k*3+1)<|.string (f k).key).setCell (G b<|k*3+2)<|J (f k).count).rowIs b 142 (n*3) g'/\∀j,j<(k+1)*3->g' j=cellOf f j:=by
 refine⟨_,((h.set _ _).set _ _).set _ _,λj hj=>?_⟩;grind [cellOf,Nl]
def SP cap{f}{w}(hA:IM w a n f)(hn:n<=1048576):
  C9 54 #[.slice a n cap] w λe w'=>e=.returned (S9 w.heap.size n n)/\B9 w w'/\Bg w' w.heap.size n f:=by
 have A:=Uj n hn;obtain⟨g0,p⟩:=dD w<|n*3;rcases hA with hz|⟨b,off,rfl,m,hc⟩
 .have x:=O hz;clear hz;go_enter func54,ntmps54;go_wp2;go_loopw [4] (λi wr=>i=J 0/\wr=w.alloc (.cells (madeCells (Sh 0 ⟨#[]⟩ 0).cells<|n*3) 142)) λ_ _=>0
  .exact⟨rfl,rfl⟩
  obtain⟨rfl,rfl⟩:=hrel;have B:¬0<n:=oS<|z x;go_wp2;go_ret;exact⟨rfl,n9,n*3,_,Be _,p,λi hi=>oS<|z x⟩
 have t:=O hc;go_enter func54,ntmps54;go_wp2;go_loopw [4] (λi wr=>∃(k:Nat) (g:Nat->Value),k<=n/\i=J k/\B9 w wr/\wr.rowIs w.heap.size 142 (n*3) g/\∀j,j<k*3->g j=cellOf f j) λi _=>n-(intOf i).toNat
 .exact⟨0,g0,om,rfl,n9,p,λj hj=>om⟩
 obtain⟨k,g,hk,rfl,hb,d,q⟩:=hrel;have c0:k<n->wr.cell? (G b<|off+k*3)=some (J (f k).parent):=λh=>(hb.cell<|by exact m).trans (t k h).1;have c1:k<n->wr.cell? (G b<|off+k*3+1)=some (.string (f k).key):=λh=>(hb.cell<|by exact m).trans (t k h).2.1;have c2:k<n->wr.cell? (G b<|off+k*3+2)=some (J (f k).count):=λh=>(hb.cell<|by exact m).trans (t k h).2.2;have l:=O q;go_wp2_with (go_at_call 96;refine m9 (U5 (f k).parent (f k).key (f k).count _) λw1 r=>?_;have c:=GW d<|r.block _<|H8 d;have d0:=c.cell (i:=k*3) om;have d1:=c.cell (i:=k*3+1) om;have d2:=c.cell (i:=k*3+2) om;have e0:=c.frozen<|k*3;have e1:=c.frozen<|k*3+1;have e2:=c.frozen<|k*3+2;have u:=O c;clear c)
 .have s:=o8 hb r;obtain⟨g',v,o⟩:=eM u l;go_roundw
  .exact⟨k+1,g',om,ov,((s.setCell (by exact Be _) _).setCell (by exact Be _) _).setCell (by exact Be _) _,v,o⟩
  exact ow
 have:k=n:=om;subst this;go_ret;exact⟨rfl,hb,_,_,Be _,d,l⟩
def SL cap{f}{w}(hA:IM w a n f)(hn:n<=1048576):
  C9 22 #[.agg #[.slice a n cap]] w λe w'=>(∃m,e=.returned (.agg #[S9 m n n])/\w.heap.size<=m/\Bg w' m n f)/\B9 w w':=by
 have j:=O hA;clear hA;go_enter func22,ntmps22;go_wp2_with (go_at_call 54;refine(SP cap (j.below (((BE w.heap.size w).alloc (Be _) _ |>.alloc oq _).alloc ot _) rfl) hn).mono ?_;rintro e w1 ⟨rfl,b,c⟩;obtain⟨d,g⟩:=AM b;have h:=O b;have i:=O c;clear b c);have hb:=(((BE w.heap.size w).alloc (Be _) _ |>.alloc oq _).alloc ot _).trans<|h.mono ot;have k:Bg w1 (w.heap.size+1+1+1) n f:=by simpa using z i
 have l:w1.cell? (Y9 w 0)=some (N9):=by rw[d _ _ oq];simp[go_sem]
 clear d g;refine GO (v:=.agg #[S9 (w.heap.size+1+1+1) n n]) (by simp[results,results22,go_sem,l]) rfl ⟨⟨_,rfl,om,?_⟩,?_⟩
 .exact Bg.setOther (Bg.setOther k oq _) ot _
 exact(hb.setCell (by show _<=w.heap.size+1+1;omega) _).setCell (by show _<=w.heap.size+1;omega) _
def SH cap{f}{w}(hA:IM w a n f)(hn:n<=maxLen)(hk:∀i,i<n->(f i).key.size<=maxLen):
  C9 15 #[.agg #[.slice a n cap],J 1048576] w λe w'=>(∃r,e=.returned (J r)/\(r=-1\/0<=r/\r<=1048576/\Xg n f))/\B9 w w':=by
 have d:=O hA;have HK:=O hk;clear hA hk;go_enter func15,ntmps15;go_wp2_with (go_at_call 38;refine(SI cap (d.below ((BE w.heap.size w).alloc (Be _) _) rfl) hn HK).mono ?_;rintro e w1 ⟨⟨r,rfl,c⟩,b⟩;have g:=O c;have j:=O b;clear c b);all_goals(have hb:B9 w w1:=((BE w.heap.size w).alloc (Be _) _).trans<|j.mono oq;go_ret)
 .exact⟨⟨-1,oq,.inl rfl⟩,hb⟩
 refine⟨⟨r,oq,?_⟩,hb⟩;rcases z g with rfl|h
 .simp_all
 exact .inr h
section
attribute [local go_sem] Ar Am
structure Tb where
 shape:Int
 nv:Nat
 V:Nat->Vl
 d:Dc
structure Si where
 key:ByteArray
 shape:Int
 place:Int
 BZ:Int
 AB:Int
structure AK where
 nf:Nat
 F:Nat->A9
 nt:Nat
 T:Nat->Tb
 ns:Nat
 S:Nat->Si
abbrev GR(v:Vl):Value:=V v.kind v.num v.Af v.str v.ref
abbrev SV(s:Si):Value:=.agg #[.string s.key,J s.shape,J s.place,J s.BZ,J s.AB]
abbrev TV(va:T9)(vc:Nat)(la:T9)(lc:Nat)(ia:T9)(ic:Nat)(xa:T9)(xc:Nat)(t:Tb):Value:=.agg #[J t.shape,.slice va t.nv vc,.slice la t.d.n lc,.slice ia t.d.m ic,.slice xa t.d.x xc,J t.d.used,J t.d.live,J t.d.turns]
abbrev PY(a:T9)(b:Nat)(ta:T9)(tc:Nat)(sa:T9)(sc:Nat)(s:AK):Value:=.agg #[.slice a s.nf b,.slice ta s.nt tc,.slice sa s.ns sc]
structure EP (w:Y) (b o:Nat) (p:Vl):Prop where
 c0:w.cell? (G b o)=some (J p.kind)
 c1:w.cell? (G b<|o+1)=some (J p.num)
 c2:w.cell? (G b<|o+2)=some (F9 p.Af)
 c3:w.cell? (G b<|o+3)=some (.string p.str)
 c4:w.cell? (G b<|o+4)=some (J p.ref)
def EP.keep{p}(h:EP w b o p)(e:∀q,w'.cell? (G b q)=w.cell? (G b q)):EP w' b o p:=
 ⟨(e _).trans h.c0,(e _).trans h.c1,(e _).trans h.c2,(e _).trans h.c3,(e _).trans h.c4⟩
def EP.EG{p}(h:EP w b o p)(e:∀j,j<5->w'.cell? (G b<|o+j)=w.cell? (G b<|o+j)):EP w' b o p:=
 ⟨(e 0 om).trans h.c0,(e 1 om).trans h.c1,(e 2 om).trans h.c2,(e 3 om).trans h.c3,(e 4 om).trans h.c4⟩
def FA(w:Y)(a:T9)(n:Nat)(f:Nat->Vl):Prop:=
 n=0\/∃b off,a=some (G b off)/\b<w.heap.size/\∀i,i<n->EP w b (off+i*5) (f i)
def FA.below{f}(h:FA w a n f)(hb:Below B w w')(d:B=w.heap.size):FA w' a n f:=by
 subst d;rcases h with h|⟨b,off,e,c,hc⟩
 .exact .inl h
 exact .inr ⟨b,off,e,A0 c hb.size,λi hi=>(hc i hi).keep λq=>hb.cell c⟩
structure Vt (w:Y) (b o:Nat) (p:Si):Prop where
 c0:w.cell? (G b o)=some (.string p.key)
 c1:w.cell? (G b<|o+1)=some (J p.shape)
 c2:w.cell? (G b<|o+2)=some (J p.place)
 c3:w.cell? (G b<|o+3)=some (J p.BZ)
 c4:w.cell? (G b<|o+4)=some (J p.AB)
def Vt.keep{p}(h:Vt w b o p)(e:∀q,w'.cell? (G b q)=w.cell? (G b q)):Vt w' b o p:=
 ⟨(e _).trans h.c0,(e _).trans h.c1,(e _).trans h.c2,(e _).trans h.c3,(e _).trans h.c4⟩
def Vt.EG{p}(h:Vt w b o p)(e:∀j,j<5->w'.cell? (G b<|o+j)=w.cell? (G b<|o+j)):Vt w' b o p:=
 ⟨(e 0 om).trans h.c0,(e 1 om).trans h.c1,(e 2 om).trans h.c2,(e 3 om).trans h.c3,(e 4 om).trans h.c4⟩
def FX(w:Y)(a:T9)(n:Nat)(f:Nat->Si):Prop:=
 n=0\/∃b off,a=some (G b off)/\b<w.heap.size/\∀i,i<n->Vt w b (off+i*5) (f i)
def FX.below{f}(h:FX w a n f)(hb:Below B w w')(d:B=w.heap.size):FX w' a n f:=by
 subst d;rcases h with h|⟨b,off,e,c,hc⟩
 .exact .inl h
 exact .inr ⟨b,off,e,A0 c hb.size,λi hi=>(hc i hi).keep λq=>hb.cell c⟩
structure IQ (w:Y) (b o:Nat) (va:T9) (vc:Nat) (la:T9) (lc:Nat) (ia:T9) (ic:Nat) (xa:T9) (xc:Nat) (t:Tb):Prop where
 c0:w.cell? (G b o)=some (J t.shape)
 c1:w.cell? (G b<|o+1)=some (.slice va t.nv vc)
 c2:w.cell? (G b<|o+2)=some (.slice la t.d.n lc)
 c3:w.cell? (G b<|o+3)=some (.slice ia t.d.m ic)
 c4:w.cell? (G b<|o+4)=some (.slice xa t.d.x xc)
 c5:w.cell? (G b<|o+5)=some (J t.d.used)
 c6:w.cell? (G b<|o+6)=some (J t.d.live)
 c7:w.cell? (G b<|o+7)=some (J t.d.turns)
def IQ.EG{vc lc ic}{t}(h:IQ w b o va vc la lc ia ic xa xc t)(e:∀j,j<8->w'.cell? (G b<|o+j)=w.cell? (G b<|o+j)):IQ w' b o va vc la lc ia ic xa xc t:=
 ⟨(e 0 om).trans h.c0,(e 1 om).trans h.c1,(e 2 om).trans h.c2,(e 3 om).trans h.c3,(e 4 om).trans h.c4,(e 5 om).trans h.c5,(e 6 om).trans h.c6,(e 7 om).trans h.c7⟩
def Ys(w:Y)(b o:Nat)(t:Tb):Prop:=
 ∃va vc la lc ia ic xa xc,IQ w b o va vc la lc ia ic xa xc t/\FA w va t.nv t.V/\Ea w la ia xa t.d
def Ys.below{t}(h:Ys w b o t)(hb:B9 w w')(hl:b<w.heap.size):Ys w' b o t:=by
 obtain⟨va,vc,la,lc,ia,ic,xa,xc,h1,h2,h3⟩:=h;exact⟨va,vc,la,lc,ia,ic,xa,xc,h1.EG λq _=>hb.cell hl,h2.below hb rfl,h3.below hb⟩
def RH(w:Y)(a:T9)(n:Nat)(f:Nat->Tb):Prop:=
 n=0\/∃b off,a=some (G b off)/\b<w.heap.size/\∀i,i<n->Ys w b (off+i*8) (f i)
def RH.below{f}(h:RH w a n f)(hb:Below B w w')(d:B=w.heap.size):RH w' a n f:=by
 subst d;rcases h with h|⟨b,off,e,c,hc⟩
 .exact .inl h
 exact .inr ⟨b,off,e,A0 c hb.size,λi hi=>(hc i hi).below hb c⟩
structure Tg (w:Y) (a ta sa:T9) (s:AK):Prop where
 fo:IM w a s.nf s.F
 ta:RH w ta s.nt s.T
 si:FX w sa s.ns s.S
def Tg.below{ta sa:Option Addr}{s}(h:Tg w a ta sa s)(hb:B9 w w'):Tg w' a ta sa s:=⟨h.fo.below hb rfl,h.ta.below hb rfl,h.si.below hb rfl⟩
structure QE (t:Tb):Prop where
 n:t.nv<=maxLen
 s:∀i,i<t.nv->(t.V i).str.size<=maxLen
 d:mN t.d
structure Xi (s:AK):Prop where
 nf:s.nf<=maxLen
 fk:∀i,i<s.nf->(s.F i).key.size<=maxLen
 nt:s.nt<=maxLen
 ts:∀i,i<s.nt->QE (s.T i)
 ns:s.ns<=maxLen
 sk:∀i,i<s.ns->(s.S i).key.size<=maxLen
def dw(d:Dc):Nat:=d.n+d.m+d.x
def tw(t:Tb):Nat:=t.nv+dw t.d+1
def Em(f:Nat->Tb):Nat->Nat
 |0=>0
 |k+1=>Em f k+tw (f k)
def kZ f{k n}(h:k<=n):Em f k<=Em f n:=by
 induction n with
 |zero=>rw[show k=0 by omega];exact Be _
 |succ n ih=>
  by_cases e:k=n+1
  .subst e;exact Be _
  show _<=Em f n+tw (f n);omega
def NG f{k n}(h:k<n):Em f k+tw (f k)<=Em f n:=kZ f (k:=k+1) h
def SU f n:n<=Em f n:=by
 induction n with
 |zero=>exact W9 _
 |succ n ih=>show n+1<=Em f n+tw (f n);unfold tw;omega
def ZP cap{f}left{w}(hA:JX w a n f)(hn:n<=maxLen)(hs:qI n f)(I:0<=left)(h1:left<=1048576):
  C9 118 #[.slice a n cap,J left] w λe w'=>(∃r,e=.returned (J r)/\(r=-1\/0<=r/\r+n<=left))/\B9 w w':=by
 unfold maxLen at hn;have x:=O hA;have v:=O hs;clear hA hs;by_cases h:left<n
 .go_enter func118,ntmps118;go_wp2;go_ret;exact⟨⟨-1,oq,.inl rfl⟩,BE _ _⟩
 go_enter func118,ntmps118;go_wp2;go_loopw [1,5] (λl i wr=>∃(k:Nat) (d:Int),k<=n/\i=J k/\l=J d/\0<=d/\d+n<=left/\B9 w wr) λ_ i _=>n-(intOf i).toNat
 .exact⟨0,left-n,om,rfl,oq,om,om,BE _ _⟩
 obtain⟨k,d,hk,rfl,rfl,g,s,hb⟩:=hrel;by_cases c:k<n
 .obtain⟨b,off,rfl,t,hcs⟩:=x.resolve_left om;obtain⟨e0,e1,e2,e3,A,B,C,D,E,F,u⟩:=(hcs k c).keep λq=>hb.cell t;have p:=O hb;clear hcs hb;go_wp2_with fail;refine(WQ (f k) d _ g om (v k c).1 (v k c).2).mono ?_;rintro e w1 ⟨⟨r,rfl,H⟩,j⟩;have m:=O<|o8 p j;clear j e0 e1 e2 e3 A B C D E F u;rcases H with rfl|⟨g0,g1⟩
  .go_wp2_with fail
   go_ret;exact⟨⟨-1,oq,.inl rfl⟩,m⟩
  go_wp2_with fail
  go_roundw
  .exact⟨k+1,r,om,ov,rfl,g0,om,m⟩
  exact ow
 have o:k=n:=om;subst o;have p:=O hb;clear hb;go_wp2_with fail;go_ret;exact⟨⟨d,oq,.inr ⟨g,s⟩⟩,p⟩
def UY a n cap left w(hn:n<=maxLen)(c:0<=left)(h1:left<=1048576):
  C9 119 #[.slice a n cap,J left] w λe w'=>(∃r,e=.returned (J r)/\(r=-1\/0<=r/\r+n<=left))/\w'=w:=by
 unfold maxLen at hn;by_cases h:left<n
 .go_enter func119,ntmps119;go_wp2;go_ret;exact⟨⟨-1,oq,.inl rfl⟩,rfl⟩
 go_enter func119,ntmps119;go_wp2;go_ret;have b:0<=left-(n:Int)/\left-(n:Int)+n<=left:=om;exact⟨⟨left-(n:Int),oq,.inr b⟩,rfl⟩
def fZ lc{ia:Option Addr}ic{xa:Option Addr}xc{d}left{w}(hD:Ea w la ia xa d)(p:mN d)(q:0<=left)(h1:left<=1048576):
  C9 77 #[Dv la lc ia ic xa xc d,J left] w λe w'=>(∃r,e=.returned (J r)/\(r=-1\/0<=r/\r+dw d<=left))/\B9 w w':=by
 have t:=O hD;have i:=O p;clear hD p;have g:B9 w<|w.alloc<|.cells #[.slice la d.n lc,.slice ia d.m ic,.slice xa d.x xc,J d.used,J d.live,J d.turns] 93:=n9;have b:=O g;clear g;go_enter func77,ntmps77;go_wp2_with fail;refine(ZP lc left (t.below b).log i.n i.s q h1).mono ?_;rintro e w1 ⟨⟨r,rfl,u⟩,c⟩;obtain⟨f,j⟩:=AM c;have v:w1.cell? (y w 1)=some (.slice ia d.m ic):=by rw[f _ _ oq];simp[go_sem]
 have A:w1.cell? (y w 2)=some (.slice xa d.x xc):=by rw[f _ _ oq];simp[go_sem]
 have a:=O<|o8 b c;clear c f j;rcases u with rfl|⟨g0,g1⟩
 .go_wp2_with fail
  go_ret;exact⟨⟨-1,rfl,.inl rfl⟩,a⟩
 go_wp2_with fail
 refine(UY ia d.m ic r _ i.m g0 om).mono ?_;rintro e w2 ⟨⟨r2,rfl,k⟩,rfl⟩;rcases k with rfl|⟨g3,g4⟩
 .go_wp2_with fail
  go_ret;exact⟨⟨-1,rfl,.inl rfl⟩,a⟩
 go_wp2_with fail
 refine(UY xa d.x xc r2 _ i.x g3 om).mono ?_;rintro e w3 ⟨⟨r3,rfl,l⟩,rfl⟩;rcases l with rfl|⟨g6,g7⟩
 .go_wp2_with fail
  go_ret;exact⟨⟨-1,rfl,.inl rfl⟩,a⟩
 have h:r3+dw d<=left:=by unfold dw;omega
 have o:=O h;clear h;go_wp2_with fail;go_ret;exact⟨⟨r3,rfl,.inr ⟨g6,o⟩⟩,a⟩
def WS cap{f}left{w}(hA:FA w a n f)(hn:n<=maxLen)(hs:∀i,i<n->(f i).str.size<=maxLen)(B:0<=left)(h1:left<=1048576):
  C9 76 #[.slice a n cap,J left] w λe w'=>(∃r,e=.returned (J r)/\(r=-1\/0<=r/\r+n<=left))/\B9 w w':=by
 unfold maxLen at hn;have v:=O hA;have x:=O hs;clear hA hs;by_cases h:left<n
 .go_enter func76,ntmps76;go_wp2;go_ret;exact⟨⟨-1,oq,.inl rfl⟩,BE _ _⟩
 go_enter func76,ntmps76;go_wp2;go_loopw [1,5] (λl i wr=>∃(k:Nat) (c:Int),k<=n/\i=J k/\l=J c/\0<=c/\c+n<=left/\B9 w wr) λ_ i _=>n-(intOf i).toNat
 .exact⟨0,left-n,om,rfl,oq,om,om,BE _ _⟩
 obtain⟨k,c,hk,rfl,rfl,d,s,hb⟩:=hrel;by_cases g:k<n
 .obtain⟨b,off,rfl,t,hcs⟩:=v.resolve_left om;obtain⟨e0,e1,e2,e3,A⟩:=(hcs k g).keep λq=>hb.cell t;have p:=O hb;clear hcs hb;go_wp2_with fail;refine m9 (Mg (f k).kind (f k).num (f k).Af (f k).str (f k).ref c _ (x k g) d om) λw1 j=>?_;have m:=O<|o8 p j;clear j e0 e1 e2 e3 A;by_cases hl:c<(f k).str.size
  .rw[C3 hl];clear hl;go_wp2_with fail;go_ret;exact⟨⟨-1,oq,.inl rfl⟩,m⟩
  rw[Cs hl];obtain⟨r,u⟩:=o9<|c-((f k).str.size:Int);rw[<-u];have g0:0<=r:=om;have g1:r+n<=left:=om;clear hl u;go_wp2_with fail;go_roundw
  .exact⟨k+1,r,om,ov,rfl,g0,g1,m⟩
  exact ow
 have o:k=n:=om;subst o;have p:=O hb;clear hb;go_wp2_with fail;go_ret;exact⟨⟨c,oq,.inr ⟨d,s⟩⟩,p⟩
def ZS vc{la:Option Addr}lc{ia:Option Addr}ic{xa:Option Addr}xc{t}left{w}(q:FA w va t.nv t.V)(hD:Ea w la ia xa t.d)(u:QE t)(F:0<=left)(h1:left<=1048576):
  C9 39 #[TV va vc la lc ia ic xa xc t,J left] w λe w'=>(∃r,e=.returned (J r)/\(r=-1\/0<=r/\r+tw t<=left+1))/\B9 w w':=by
 rcases O q,O hD,O u with⟨H,I,k⟩;clear q hD u;have g:B9 w<|w.alloc<|.cells #[J t.shape,.slice va t.nv vc,.slice la t.d.n lc,.slice ia t.d.m ic,.slice xa t.d.x xc,J t.d.used,J t.d.live,J t.d.turns] 95:=n9;have c:=O g;clear g;go_enter func39,ntmps39;go_wp2_with fail;refine(WS vc left (H.below c rfl) k.n k.s F h1).mono ?_;rintro e w1 ⟨⟨r,rfl,K⟩,f⟩;obtain⟨a,l⟩:=AM f;have v:w1.cell? (y w 2)=some (.slice la t.d.n lc):=by rw[a _ _ oq];simp[go_sem]
 have A:w1.cell? (y w 3)=some (.slice ia t.d.m ic):=by rw[a _ _ oq];simp[go_sem]
 have B:w1.cell? (y w 4)=some (.slice xa t.d.x xc):=by rw[a _ _ oq];simp[go_sem]
 have C:w1.cell? (y w 5)=some (J t.d.used):=by rw[a _ _ oq];simp[go_sem]
 have D:w1.cell? (y w 6)=some (J t.d.live):=by rw[a _ _ oq];simp[go_sem]
 have E:w1.cell? (y w 7)=some (J t.d.turns):=by rw[a _ _ oq];simp[go_sem]
 have b:=O<|o8 c f;clear f a l;rcases K with rfl|⟨g0,g1⟩
 .clear v A B C D E;go_wp2_with fail;go_ret;exact⟨⟨-1,rfl,.inl rfl⟩,b⟩
 go_wp2_with fail
 refine(fZ lc ic xc r (I.below b) k.d g0 om).mono ?_;rintro e w2 ⟨⟨r2,rfl,o⟩,h⟩;have i:=O<|o8 b h;clear h v A B C D E;rcases o with rfl|⟨g2,g3⟩
 .go_wp2_with fail
  go_ret;exact⟨⟨-1,rfl,.inl rfl⟩,i⟩
 have j:r2+tw t<=left+1:=by unfold tw;omega
 have p:=O j;clear j;go_wp2_with fail;go_ret;exact⟨⟨r2,rfl,.inr ⟨g2,p⟩⟩,i⟩
def WR cap{f}left{w}(hA:RH w a n f)(hn:n<=maxLen)(hs:∀i,i<n->QE (f i))(C:0<=left)(h1:left<=1048576):
  C9 16 #[.slice a n cap,J left] w λe w'=>(∃r,e=.returned (J r)/\(r=-1\/0<=r/\r+Em f n<=left))/\B9 w w':=by
 unfold maxLen at hn;by_cases h:left<n
 .go_enter func16,ntmps16;go_wp2;go_ret;exact⟨⟨-1,oq,.inl rfl⟩,BE _ _⟩
 go_enter func16,ntmps16;go_wp2;go_loopw [1,5] (λl i wr=>∃(k:Nat) (c:Int),k<=n/\i=J k/\l=J c/\0<=c/\c+n+Em f k<=left+k/\B9 w wr) λ_ i _=>n-(intOf i).toNat
 .exact⟨0,left-n,om,rfl,oq,om,by show left-n+n+((0:Nat):Int)<=left+((0:Nat):Int);omega,BE _ _⟩
 obtain⟨k,c,hk,rfl,rfl,d,v,hb⟩:=hrel;by_cases g:k<n
 .obtain⟨b,off,rfl,s,hcs⟩:=hA.resolve_left om;obtain⟨va,vc,la,lc,ia,ic,xa,xc,hc,x,A⟩:=hcs k g;rcases hc.EG (λq _=>hb.cell s),O<|qj (x.below hb rfl)<|A.below hb,O hb with⟨⟨e0,e1,e2,e3,D,E,F,H⟩,j,u⟩;have Fo:Em f (k+1)=Em f k+tw (f k):=rfl;go_wp2_with fail;refine(ZS vc lc ic xc c j.1 j.2 (z (O hs) k g) d om).mono ?_;rintro e w1 ⟨⟨r,rfl,B⟩,t⟩;have m:=o8 u t;rcases B with rfl|⟨g0,g1⟩
  .go_wp2_with fail
   go_ret;exact⟨⟨-1,oq,.inl rfl⟩,m⟩
  have g2:r+n+Em f (k+1)<=left+(k+1:Nat):=by rw[z (O Fo)];omega
  go_wp2_with fail
  go_roundw
  .exact⟨k+1,r,om,ov,rfl,g0,z<|O g2,m⟩
  exact ow
 have o:k=n:=om;subst o;have p:c+Em f k<=left:=om;go_wp2_with fail
 go_ret;exact⟨⟨c,oq,.inr ⟨d,z<|O p⟩⟩,z<|O hb⟩
def gA s left w(hs:s.key.size<=maxLen)(a:0<=left)(h1:left<=1048576):
  C9 40 #[SV s,J left] w (R9 (J<|if left<s.key.size then -1 else left-s.key.size) w):=by
 unfold maxLen at hs;by_cases h:left<s.key.size
 focus
  rw[C3 h]
 rotate_left
 focus
  rw[Cs h]
 all_goals
  go_enter func40,ntmps40;go_wp2;go_ret;exact⟨oq,n9⟩
def ZQ cap{f}left{w}(hA:FX w a n f)(hn:n<=maxLen)(hs:∀i,i<n->(f i).key.size<=maxLen)(B:0<=left)(h1:left<=1048576):
  C9 17 #[.slice a n cap,J left] w λe w'=>(∃r,e=.returned (J r)/\(r=-1\/0<=r/\r+n<=left))/\B9 w w':=by
 unfold maxLen at hn;have v:=O hA;have x:=O hs;clear hA hs;by_cases h:left<n
 .go_enter func17,ntmps17;go_wp2;go_ret;exact⟨⟨-1,oq,.inl rfl⟩,BE _ _⟩
 go_enter func17,ntmps17;go_wp2;go_loopw [1,5] (λl i wr=>∃(k:Nat) (c:Int),k<=n/\i=J k/\l=J c/\0<=c/\c+n<=left/\B9 w wr) λ_ i _=>n-(intOf i).toNat
 .exact⟨0,left-n,om,rfl,oq,om,om,BE _ _⟩
 obtain⟨k,c,hk,rfl,rfl,d,s,hb⟩:=hrel;by_cases g:k<n
 .obtain⟨b,off,rfl,t,hcs⟩:=v.resolve_left om;obtain⟨e0,e1,e2,e3,A⟩:=(hcs k g).keep λq=>hb.cell t;have p:=O hb;clear hcs hb;go_wp2_with fail;refine m9 (gA (f k) c _ (x k g) d om) λw1 j=>?_;have m:=O<|o8 p j;clear j e0 e1 e2 e3 A;by_cases hl:c<(f k).key.size
  .rw[C3 hl];clear hl;go_wp2_with fail;go_ret;exact⟨⟨-1,oq,.inl rfl⟩,m⟩
  rw[Cs hl];obtain⟨r,u⟩:=o9<|c-((f k).key.size:Int);rw[<-u];have g0:0<=r:=om;have g1:r+n<=left:=om;clear hl u;go_wp2_with fail;go_roundw
  .exact⟨k+1,r,om,ov,rfl,g0,g1,m⟩
  exact ow
 have o:k=n:=om;subst o;have p:=O hb;clear hb;go_wp2_with fail;go_ret;exact⟨⟨c,oq,.inr ⟨d,s⟩⟩,p⟩
structure Ey (s:AK):Prop where
 f:Xg s.nf s.F
 t:Em s.T s.nt<=1048576
 n:s.ns<=1048576
def Ey.nt{s}(h:Ey s):s.nt<=1048576:=GP (SU _ _) h.t
def Ey.uF{s}(h:Ey s){i}(hi:i<s.nt):tw (s.T i)<=1048576:=by
 have:=NG s.T hi;have:=h.t;omega
def Ey.nv{s}(h:Ey s){i}(hi:i<s.nt):(s.T i).nv<=1048576:=by have:=h.uF hi;unfold tw at this;omega
def Ey.IY{s}(h:Ey s){i}(hi:i<s.nt):Small (s.T i).d:=by have:=h.uF hi;unfold tw dw at this;exact⟨om,om,om⟩
structure J9 (s:AK):Prop where
 f:Xg s.nf s.F
 nt:s.nt<=1048576
 nv:∀{i:Nat},i<s.nt->(s.T i).nv<=1048576
 IY:∀{i:Nat},i<s.nt->Small (s.T i).d
 n:s.ns<=1048576
def Ey.weak{s}(h:Ey s):J9 s:=⟨h.f,h.nt,λhi=>h.nv hi,λhi=>h.IY hi,h.n⟩
def ZR{m:Option Addr}n{ta:Option Addr}tc{sa:Option Addr}sc{s}{w}(A:Tg w m ta sa s)(B:Xi s):
  C9 4 #[PY m n ta tc sa sc s,J 1048576] w λe w'=>(∃r,e=.returned (J r)/\(r=-1\/0<=r/\r<=1048576/\Ey s))/\B9 w w':=by
 have o:=O A;have h:=O B;clear A B;have i:B9 w<|w.alloc<|.cells #[.slice m s.nf n,.slice ta s.nt tc,.slice sa s.ns sc] 28:=n9;have d:=O i;clear i;go_enter func4,ntmps4;go_wp2_with fail;refine(SH n (o.below d).fo h.nf h.fk).mono ?_;rintro e w1 ⟨⟨r,rfl,D⟩,a⟩;obtain⟨f,p⟩:=AM a;have C:w1.cell? (y w 1)=some (.slice ta s.nt tc):=by rw[f _ _ oq];simp[go_sem]
 have q:w1.cell? (y w 2)=some (.slice sa s.ns sc):=by rw[f _ _ oq];simp[go_sem]
 have E:w.heap.size<w1.heap.size:=by have:=a.size;simp at this;omega
 have b:=O<|o8 d a;clear a f p;rcases D with rfl|⟨g0,g1,j⟩
 .clear C q;go_wp2_with fail;go_ret;exact⟨⟨-1,rfl,.inl rfl⟩,b⟩
 have t:=O j;clear j;go_wp2_with fail;refine(WR tc r (o.below b).ta h.nt h.ts g0 g1).mono ?_;rintro e w2 ⟨⟨r2,rfl,u⟩,g⟩;have p2:=(g.cell E).trans q;have c:=O<|o8 b g;clear g C q;rcases u with rfl|⟨g2,g3⟩
 .clear p2;go_wp2_with fail;go_ret;exact⟨⟨-1,rfl,.inl rfl⟩,c⟩
 go_wp2_with fail
 refine(ZQ sc r2 (o.below c).si h.ns h.sk g2 om).mono ?_;rintro e w3 ⟨⟨r3,rfl,v⟩,k⟩;have l:=O<|o8 c k;clear k p2;rcases v with rfl|⟨g4,g5⟩
 .go_wp2_with fail
  go_ret;exact⟨⟨-1,rfl,.inl rfl⟩,l⟩
 have x:Hid<|Ey s:=O ⟨t,om,om⟩;have g6:r3<=1048576:=om;clear g3 g5;go_wp2_with fail;go_ret;exact⟨⟨r3,rfl,.inr ⟨g4,g6,x⟩⟩,l⟩
end
section
open Go.RowKit Go.Shelf
section
variable {P:Program} {ops:Array Oper} {C:World->Prop} {md:Region.Mode}
theorem wpIn_of_quiet{o:Oper}{a}{d}{j}(k:∀c,o.op≠.defer c)(g:C w)(h:∀a w',C w'->K a->d a w')(i:o.quiet P a C K):o.wpIn (Fence.wide.inRound l) n P a w d j:=by
 obtain⟨v,h1,h2⟩:=i;have h3:=h1 w g;unfold Oper.quietAt at h3;refine⟨λ_ _=>trivial,?_⟩;show o.uponIn (Fence.wide.inRound l) n P a d j ((o.semAt (some l) a.eval).run P w);rw[Oper.semAt_some l _ _ k];generalize (execOp a.eval o).run P w=r at*;cases r with
 |ok x w'=>
  cases x<;>simp only[Oper.quietUpon]at h3<;>simp only[Oper.uponIn]
  case value u=>
   obtain⟨e1,e2⟩:=h3;rw[e1,e2];exact h _ _ g h2
  case skip=>
   obtain⟨e1,e2⟩:=h3;rw[e1,<-e2];exact h _ _ g h2
  case enter f args=>
   obtain⟨e1,hc⟩:=h3;rw[e1];refine⟨λi=>(by cases i),CallsIn.inRound l<|Aaa.2<|hc.mono λe m ⟨p,b⟩=>?_⟩;subst p;exact h _ _ b h2
 |halt x w'=>simp only[Oper.quietUpon]at h3
def Fe(ops:Array Oper):Bool:=ops.all λo=>match o.op with|.defer _=>false|_=>true
def kF(h:Fe ops=true){i:Nat}{o}(a:ops[i]?=some o):∀c,o.op≠.defer c:=by
 grind [Fe]
def Qx{a}{c}{d}(j:Fe ops=true)(e:C w)(h:∀a w',C w'->K a->c a w')(b:qOp P ops C i K a):wpOpIn (Fence.wide.inRound l) n P ops d i c a w:=by
 unfold qOp at b;rw[wpOpIn];split
 .grind
 rename_i o f
 simp only[f]at b;split
 .grind [Fe,wpIn_of_quiet]
 rename_i g;simp only[g]at b;exact⟨λ_ _=>trivial,h _ _ e b⟩
def wpAnyIn_of_quiet{Q:Act->Prop}{e:Exit->Act->World->Prop}(f:Fe ops=true)(c:∀a w,C w->Q a->e .normal a w):∀(fuel:Nat) (listed:Array Bool) (a:Act) (w:Y),C w->
  wpAnyQ P md ops C Q fuel listed a->wpAnyIn (Fence.wide.inRound l) n P md ops e fuel listed a w
 |0,_,_,_,b,h=>⟨h.1,c _ _ b h.2⟩
 |fuel+1,_,_,_,b,h=>⟨λg=>c _ _ b<|h.1 g,λi hi=>Qx f b (λa' w' d=>wpAnyIn_of_quiet f c fuel _ a' w' d)<|h.2 i hi⟩
def wpIn_region_quiet{id}{Q}{a}(d:P.follows .mixedOrders=true)(b:Region.lexB .any ops=true)(e:Fe ops=true)(f:C {w with drawn:=w.drawn+1})
  (h:wpQuiet P ops C (λa'=>∀w',C w'->Q .normal a' w') ops.toList a):(Code.region id ops true).wpIn (Fence.wide.inRound l) n P Q a w:=by
 simp only[Region.lexB,AaJ]at b;refine wpIn_region_any d<|wpAnyIn_of_quiet e (Q:=λa'=>∀w',C w'->Q .normal a' w') (λ_ w' c h=>h w' c) _ _ _ _ f ?_;have:=wpAnyQ_lex b.1 ops.toList 0 (Array.replicate ops.size false) a oq (by simpa using b.2) h;simpa using this
end
end
section
open Go.RowKit Go.Shelf
attribute [local go_sem] Ar Am Oper.semAt_some
structure PW (T:World->Prop) (v:Vl) (h:Nat):Prop where
 lt:h<18446744073709551616
 call:∀w:World,T w->C9 203 #[V v.kind v.num v.Af v.str v.ref] w (R9 (.int .u64 (h:Int)) w)
def En(T:World->Prop):Prop:=∀w w',T w->B9 w w'->T w'
def E4(x a0 f:Nat):List Nat:=(List.range f).map λj=>(a0+j)%x
def Rk x a0 f:E4 x a0 (f+1)=E4 x a0 f++[(a0+f)%x]:=by
 unfold E4;simp[List.range_succ]
theorem MJ x a0 f:(E4 x a0 f).length=f:=by simp[E4]
theorem UI{a0 f g}(h:f<=g):E4 x a0 f<+:E4 x a0 g:=by
 obtain⟨k,rfl⟩:∃k,g=f+k:=⟨g-f,om⟩
 induction k with
 |zero=>exact List.prefix_refl _
 |succ k ih=>
  rw[show f+(k+1)=(f+k)+1 by omega,Rk];exact(ih om).trans (List.prefix_append _ _)
def TH p(v)w:
  C9 219 #[.pointer p,V v.kind v.num v.Af v.str v.ref] w λe w'=>e=.returned (.func (.func 228) #[] #[Q9 w.heap.size,Q9 (w.heap.size+1)])/\w'=(w.alloc<|.cells #[.pointer p] 313).alloc (.cells (qe v) 43):=by
 go_enter func219,ntmps219;go_wp2;go_ret;exact⟨rfl,rfl⟩
def I0(h:B9 w w'):w.grownBy w' none:=⟨h.os,h.tape,h.output,h.size,λk hk _=>h.block k hk⟩
def lP(d:Dc)(h:Nat)(xs:List {a:Nat//a<d.x}):Prop:=xs.map (·.1)=E4 d.x (h%d.x) d.x
def aV(d:Dc)(h:Nat)(xs:List {a:Nat//a<d.x}):Prop:=xs.map (·.1)<+:E4 d.x (h%d.x) d.x
def MS(d:Dc)(h j:Nat)(xs:List {a:Nat//a<d.x}):Prop:=xs.map (·.1)=E4 d.x (h%d.x) j
def MS.len{xs}(e:MS d h j xs):xs.length=j:=by
 grind [MS,MJ]
def MS.snoc{xs}(e:MS d h j xs)b:MS d h (j+1)<|xs++[⟨(h%d.x+j)%d.x,b⟩]:=by
 unfold MS at*;rw[AaA,e,Rk];rfl
def MS.pre{xs}(e:MS d h j xs)(hj:j<=d.x):aV d h xs:=by
 grind [MS,aV,UI]
def Ol(n)(hn:1<=n){T}(s:En T)(bk R2 L c)(d){v}{h}(n0)(hh:PW T v h)(w)(V:T w)(hx:d.x<=4194304)
  (m0:w.cell? (G L 0)=some (.pointer<|some<|G bk 2)) (c2:w.cell? (G bk 2)=some Oq) (c3:w.cell? (G bk 3)=some (S9 R2 d.x d.x))
  (k0:w.cell? (G c 0)=some (J v.kind)) (k1:w.cell? (G c 1)=some (J v.num)) (k2:w.cell? (G c 2)=some (F9 v.Af)) (k3:w.cell? (G c 3)=some (.string v.str)) (k4:w.cell? (G c 4)=some (J v.ref)):
  SeqStopsK Fence.wide n prog 228 #[Q9 L,Q9 c] (λa=>#[J (a.1:Int)]) (Below n0)
   (lP d h) (aV d h) d.x w:=λl Z Jx W b hJ M X h0=>by
 rcases IF _ _ m0,IF _ _ c2,IF _ _ k0 with⟨lm,lb,q⟩;rcases (b.cell lm).trans m0,(b.cell lb).trans c2,oT b lb c3,(b.cell q).trans k0,oT b q k1,oT b q k2,oT b q k3,oT b q k4 with⟨m0,c2,c3,k0,k1,k2,k3,k4⟩;have ad:L<W.heap.size:=A0 lm b.size;have ae:bk<W.heap.size:=A0 lb b.size;have af:c<W.heap.size:=A0 q b.size;rcases O (s _ _ V b),O X,O h0 with⟨HT,HY,H0⟩;clear M X V b h0;refine callsIn_of_wp func228 rfl trivial ?_ rfl;simp only[ntmps228,Aar,Aae,X9,Nat.reduceAdd,Nat.reduceSub,Aag,Aaf,Aas,Aai,Aad,Aaq];by_cases g:d.x=0
 .have t:((d.x:Int)==0)=true:=by simp[g]
  have P:=O g;clear g;gi_wp2;refine GO (Aaw rfl _ _ _) rfl ?_;exact⟨⟨_,rfl⟩,.inl ⟨[],by unfold lP;rw[z P];rfl,H0⟩⟩
 have t:((d.x:Int)==0)=false:=by simp[g]
 have u:0<d.x:=om;gi_wp2;refine wpIn_wide.2 ?_;refine qr W ?_;(iterate 5 refine N (h:=?_));refine GC λK hK=>?_;go_simp;refine⟨_,λw' A=>qk A<|hh.call _<|s _ _ HT A,hK _ ?_⟩;clear hK K;obtain⟨a0,k⟩:=o9<|h%d.x;have Q:(h:Int).tmod (d.x:Int)=(a0:Int):=by rw[k,Int.tmod_eq_emod_of_nonneg om];exact(Int.natCast_emod _ _).symm
 have ag:a0<d.x:=by rw[k];exact VC _ u
 have B:=O k;clear k;refine N (h:=N (h:=N (h:=?_)));refine GS ?_;intro w2 C;have D:=O<|(hJ) [] W w2 none H0 (I0 C) (λr e=>by cases e);clear C Q m0 c2 c3 k0 k1 k2 k3 k4;gi_wp2
 gi_loopw [24] (λi wr=>∃(j:Nat) (pre:List {a:Nat//a<d.x}),j<=d.x/\i=.int .u64 (j:Int)/\MS d h j pre/\Z pre wr) λi _=>d.x-(intOf i).toNat
 case atStart=>exact⟨0,[],om,rfl,rfl,D⟩
 case round=>
  clear D;obtain⟨j,pre,hj,rfl,m,o⟩:=hrel;by_cases R:j<d.x
  .obtain⟨a1,E⟩:=o9<|(a0+j)%d.x;have f:a1<d.x:=by rw[E];exact VC _ u
   have ah:((a0:Int)+(j:Int)).tmod (d.x:Int)=(a1:Int):=by rw[E,Int.tmod_eq_emod_of_nonneg om,Int.natCast_emod,Int.natCast_add]
   obtain⟨fn,tmps,assign,body,hy,S⟩:=z HY pre ⟨a1,f⟩ wr o (by rw[m.len];exact R);have F:Hid<|MS d h (j+1)<|pre++[⟨a1,f⟩]:=O (by
    have:=m.snoc (by rw[<-z B,<-E];exact f);simp only[<-z B,<-E]at this;exact this)
   clear m o E;dsimp only at hy;gi_wp2;refine S.mono ?_;rintro e W3 (⟨rfl,U,ai⟩|⟨rfl,H⟩)
   .clear hy S;gi_wp2;go_roundw
    .exact⟨j+1,_,om,ov,F,U⟩
    exact ow
   clear hy S;gi_wp2;refine GO (Aaw rfl _ _ _) rfl ?_;exact⟨⟨_,rfl⟩,.inr ⟨_,F.pre om,H⟩⟩
  have I:j=d.x:=om;subst I;gi_wp2;go_end0;exact⟨⟨_,rfl⟩,.inl ⟨pre,m,o⟩⟩
def Stop(d:Dc)(v:Vl)(a:Nat):Prop:=d.X a=0\/(0<d.X a/\AF (d.at<|d.X a).key v=true)
open Classical in
noncomputable def QK(d:Dc)(v:Vl):List Nat->Option Nat
 |[]=>none
 |a::l=>if d.X a=0 then none else if 0<d.X a/\AF (d.at<|d.X a).key v=true then some a else QK d v l
def VF{l}(h:∀a∈l,¬Stop d v a):QK d v l=none:=by
 induction l with
 |nil=>rfl
 |cons a l ih=>
  have h1:=h a oq;rw[QK,Cs (λe=>h1 (.inl e)),Cs (λe=>h1 (.inr e))];exact ih λb hb=>h b<|by simp[hb]
def VG{l f}{a}(h:∀b∈l,¬Stop d v b)(hp:l++[a]<+:f)(hs:Stop d v a):QK d v f=if d.X a=0 then none else some a:=by
 obtain⟨r,rfl⟩:=hp
 induction l with
 |nil=>
  show(if _ then _ else _)=_;by_cases e:d.X a=0
  .rw[C3 e,C3 e]
  rw[Cs e,Cs e,C3 (hs.resolve_left e)]
 |cons b l ih=>
  have h1:=h b oq;show(if _ then _ else _)=_;rw[Cs (λe=>h1 (.inl e)),Cs (λe=>h1 (.inr e))];exact ih λc hc=>h c<|by simp[hc]
def Ux(b:0<d.x):∀(f a),a<d.x->probe d v a f=QK d v (E4 d.x a f):=by
 intro f
 induction f with
 |zero=>intro a _;rfl
 |succ f ih=>
  intro a c;have e:E4 d.x a (f+1)=a::E4 d.x ((a+1)%d.x) f:=by
   rw[E4,List.range_succ_eq_map];simp only[List.map_cons,List.map_map,Aau,TC c];congr 1;apply List.map_congr_left;intro j _;simp only[Function.comp];rw[Nat.mod_add_mod];congr 1;omega
  rw[e];show(if _ then _ else _)=(if _ then _ else _);rw[ih _ (VC _ b)]
def Lf:A5 d v h=QK d v (E4 d.x (h%d.x) d.x):=by
 rw[A5];by_cases a:d.x=0
 .rw[a];rfl
 rw[Cs a];exact Ux om _ _<|VC _ om
def BR{W W':Y}(h:B9 W W'):KeepsOthers W W':=⟨h.size,λk o hk _=>(h.block k (E1.1 hk).1).trans hk⟩
def Od T(ae:En T)bk R0 R1 R2 E S d v h(hh:PW T v h)w(hT:T w)(hB:JN w bk R0 R1 R2 E S d)(hS:Small d)(h4:D4 d):
  C9 207 #[.pointer (some<|G bk 2),V v.kind v.num v.Af v.str v.ref] w (R9 (J<|FF<|A5 d v h) w):=by
 have hx:=hS.x;refine(Aaa (n:=10)).1 ?_;refine callsIn_of_wp_marks func207 rfl trivial ?_ rfl;simp only[ntmps207,Aar,Aae,X9,Nat.reduceAdd,Nat.reduceSub,Aag,Aaf,Aas,Aai,Aad,Aaq];gi_wp2_with (refine⟨trivial,?_⟩;gi_at_call 219;refine(Aaa.2<|TH (some<|G bk 2) v _).mono ?_;rintro e w' ⟨rfl,rfl⟩);obtain⟨u,hu⟩:=o9<|((((w.alloc<|.cells #[.pointer (some<|G bk 2)] 313).alloc<|.cells (qe v) 43).alloc<|.cells #[J 0] 3).alloc<|.cells #[.pointer (some<|G bk 2)] 313).alloc<|.cells (qe v) 43;rw[<-hu];have zu:u.heap.size=w.heap.size+5:=by rw[hu];simp
 have bu:B9 w u:=by rw[hu];exact((((n9).alloc oq _).alloc ot _).alloc ot _).alloc ot _
 obtain⟨n0,i0,i1,i2,i3,i4,r0,r1,m0,j0,j1,j2,j3,j4⟩:u.cell? (y w 0)=some (.pointer<|some<|G bk 2)/\u.cell? (Y9 w 0)=some (J v.kind)/\u.cell? (Y9 w 1)=some (J v.num)/\u.cell? (Y9 w 2)=some (F9 v.Af)/\u.cell? (Y9 w 3)=some (.string v.str)/\u.cell? (Y9 w 4)=some (J v.ref)/\u.cell? (Z9 w 0)=some (J 0)/\u.frozen? (Z9 w 0)=false/\u.cell? (G (w.heap.size+1+1+1) 0)=some (.pointer<|some<|G bk 2)/\u.cell? (G (w.heap.size+1+1+1+1) 0)=some (J v.kind)/\u.cell? (G (w.heap.size+1+1+1+1) 1)=some (J v.num)/\u.cell? (G (w.heap.size+1+1+1+1) 2)=some (F9 v.Af)/\u.cell? (G (w.heap.size+1+1+1+1) 3)=some (.string v.str)/\u.cell? (G (w.heap.size+1+1+1+1) 4)=some (J v.ref):=by rw[hu];simp[go_sem]
 have t:=hB.below bu;have ai:=ae _ _ hT bu;clear hu;refine wpIn_rangeFunc_ownF rfl oo (gf:=228) (lb:=#[Q9 (w.heap.size+1+1+1),Q9 (w.heap.size+1+1+1+1)]) rfl trivial (enters_of func228 ou rfl)
  (Ol 9 oo ae bk R2 (w.heap.size+1+1+1) (w.heap.size+1+1+1+1) d w.heap.size hh u ai hx m0 t.c2 t.c3 j0 j1 j2 j3 j4) belowK_t (belowK_b om) (BE _ _) (λ_=>rfl)
  (λpre W=>((∀Z∈pre,¬Stop d v Z.1)/\W.cell? (y w 0)=some (.pointer<|some<|G bk 2)/\W.cell? (Y9 w 0)=some (J v.kind)/\W.cell? (Y9 w 1)=some (J v.num)/\W.cell? (Y9 w 2)=some (F9 v.Af)/\W.cell? (Y9 w 3)=some (.string v.str)/\W.cell? (Y9 w 4)=some (J v.ref)/\W.cell? (Z9 w 0)=some (J 0)/\W.frozen? (Z9 w 0)=false)/\B9 w W)
  (λc pre W=>(c=.ret/\(∃i a,pre=i++[a]/\(∀Z∈i,¬Stop d v Z.1)/\Stop d v a.1/\W.cell? (Z9 w 0)=some (J<|FF<|if d.X a.1=0 then none else some a.1)))/\B9 w W)
  (OwnFrom.and (Own.from (λs A B row hs L M=>⟨hs.1,Of hs.2.1 L M,Of hs.2.2.1 L M,Of hs.2.2.2.1 L M,Of hs.2.2.2.2.1 L M,Of hs.2.2.2.2.2.1 L M,Of hs.2.2.2.2.2.2.1 L M,Of hs.2.2.2.2.2.2.2.1 L M,(frozen_kept hs.2.2.2.2.2.2.2.1 L M).trans hs.2.2.2.2.2.2.2.2⟩) _)<|ownFrom_below (Be _) om)
  (λc=>OwnFrom.and (Own.from (λs A B row hs L M=>⟨hs.1,by obtain⟨i,a,h1,h2,h3,h4⟩:=hs.2;exact⟨i,a,h1,h2,h3,Of h4 L M⟩⟩) _)<|ownFrom_below (Be _) om)
  ⟨⟨oq,n0,i0,i1,i2,i3,i4,r0,r1⟩,bu⟩
  ?a1 ?assign ?body ?done ?stop
 case assign=>
  intro l x W K hK;gi_wp2;exact hK
 case body=>
  rintro l pre ⟨a,ha⟩ W ⟨⟨hp,g0,e0,e1,e2,e3,U,F,s1⟩,m⟩ _;have P:=hB.below m;rcases P.c3,P.r2 a ha,P.sl a ha,IF _ _ g0,IF _ _ e0,IF _ _ F with⟨c3,p0,q,z0,k,z2⟩;dsimp only at z0 k z2;have HP:=O hp;have j:=O m;clear P hp m n0 i0 i1 i2 i3 i4 r0 r1 m0 j0 j1 j2 j3 j4 t ai bu zu hB hT hh ae;rcases h4.2.1 a ha with hs|hs|hs
  .have H:Stop d v a:=.inl hs;have HS:=O H;rw[show DB S a (d.X a)=none from C3 hs]at p0;have HX:Hid<|FF (if d.X a=0 then none else some a)=-1:=O (by rw[C3 hs];rfl);clear q hs H;gi_wp2;exact⟨Q2 _ _ _,⟨rfl,pre,⟨a,ha⟩,rfl,HP,HS,by rw[z HX];exact I9 _ _ _<|qh F⟩,j.setCell (p:=Z9 w 0) oy _⟩
  .have I:¬Stop d v a:=λh=>by rcases h with h|h<;>omega
   have HS:=O I;rw[show DB S a (d.X a)=some (G (S a) 0)from Cs om]at p0;obtain⟨ak,ar⟩:=q.2 om;clear q hs I;gi_wp2;refine wpIn_region_quiet (C:=λw'=>B9 W w') ou ou ou ((BE _ _).drew) ?_;show wpQuiet _ _ _ _ [_,_,_,_,_,_,_,_,_,_,_,_,_] _;(iterate 6 refine N (h:=?_));iterate 6 (go_big_quiet_step (fail))
   refine N (h:=?_);refine GS ?_;intro w2 f;rcases BR f,O f,(f.cell z0).trans g0,(f.cell k).trans e0,(f.cell k).trans e1,(f.cell k).trans e2,(f.cell k).trans e3,(f.cell k).trans U,(f.cell z2).trans F,(f.frozen z2).trans s1 with⟨HK,o,g0,e0,e1,e2,e3,U,F,s1⟩;clear f;gi_wp2;exact⟨HK,o.mono j.size,⟨λZ hy=>(List.mem_append.1 hy).elim (HP Z) (λe=>by simp at e;subst e;exact HS),g0,e0,e1,e2,e3,U,F,s1⟩,o8 j o⟩
  rw[show DB S a (d.X a)=some (G (S a) 0)from Cs om]at p0;obtain⟨ak,f0,f1,f2,f3,f4,f5,f6⟩:=q.1 hs.1;have af:=hs.1;generalize Q:(d.at<|d.X a).key=g at*;cases R:AF g v
  .have I:¬Stop d v a:=λh=>by
    rcases h with h|h
    .omega
    rw[Q,R]at h;exact absurd h.2 oo
   have HS:=O I;have ao:(g.kind==v.kind&&(g.num==v.num&&((O9 g.Af v.Af==some .eq)&&(g.str.toList==v.str.toList&&g.ref==v.ref))))=false:=R;clear q hs I af Q;gi_wp2;refine wpIn_region_quiet (C:=λw'=>B9 W w') ou ou ou ((BE _ _).drew) ?_;show wpQuiet _ _ _ _ [_,_,_,_,_,_,_,_,_,_,_,_,_] _;(iterate 11 refine N (h:=?_));refine GC λK hK=>?_;go_simp;refine⟨.bool false,λw' aq=>?_,hK _ ?_⟩
   .by_cases q1:g.kind=v.kind<;>by_cases q2:g.num=v.num<;>by_cases q3:O9 g.Af v.Af=some Ordering.eq<;>by_cases q4:g.str.toList=v.str.toList<;>by_cases q5:g.ref=v.ref<;>simp_all
   clear hK K;refine N (h:=?_);refine GS ?_;intro w2 f;rcases BR f,O f,(f.cell z0).trans g0,(f.cell k).trans e0,(f.cell k).trans e1,(f.cell k).trans e2,(f.cell k).trans e3,(f.cell k).trans U,(f.cell z2).trans F,(f.frozen z2).trans s1 with⟨HK,o,g0,e0,e1,e2,e3,U,F,s1⟩;clear f;gi_wp2;exact⟨HK,o.mono j.size,⟨λZ hy=>(List.mem_append.1 hy).elim (HP Z) (λe=>by simp at e;subst e;exact HS),g0,e0,e1,e2,e3,U,F,s1⟩,o8 j o⟩
  have H:Stop d v a:=.inr ⟨af,by rw[Q];exact R⟩;have HS:=O H;have HX:Hid<|FF (if d.X a=0 then none else some a)=(a:Int):=O (by rw[Cs om];rfl);have ao:(g.kind==v.kind&&(g.num==v.num&&((O9 g.Af v.Af==some .eq)&&(g.str.toList==v.str.toList&&g.ref==v.ref))))=true:=R;clear q hs H af Q;gi_wp2;refine wpIn_region_quiet (C:=λw'=>B9 W w') ou ou ou ((BE _ _).drew) ?_;show wpQuiet _ _ _ _ [_,_,_,_,_,_,_,_,_,_,_,_,_] _;(iterate 11 refine N (h:=?_));refine GC λK hK=>?_;go_simp;refine⟨.bool true,λw' aq=>?_,hK _ ?_⟩
  .by_cases q1:g.kind=v.kind<;>by_cases q2:g.num=v.num<;>by_cases q3:O9 g.Af v.Af=some Ordering.eq<;>by_cases q4:g.str.toList=v.str.toList<;>by_cases q5:g.ref=v.ref<;>simp_all
  clear hK K;refine N (h:=?_);refine GS ?_;intro w2 f;rcases BR f,O f,(f.cell z0).trans g0,(f.cell k).trans e0,(f.cell k).trans e1,(f.cell k).trans e2,(f.cell k).trans e3,(f.cell k).trans U,(f.cell z2).trans F,(f.frozen z2).trans s1 with⟨HK,o,g0,e0,e1,e2,e3,U,F,s1⟩;clear f;gi_wp2;exact⟨HK.trans<|Q2 _ _ _,⟨rfl,pre,⟨a,ha⟩,rfl,HP,HS,by rw[z HX];exact I9 _ _ _<|qh F⟩,(o8 j o).setCell (p:=Z9 w 0) oy _⟩
 case done=>
  rintro D ys W hD aj ⟨⟨hp,_,_,_,_,_,_,ag,au⟩,m⟩ hK;have HR:Hid<|A5 d v h=none:=O (by
   rw[Lf,<-show ys.map (·.1)=E4 d.x (h%d.x) d.x from aj];exact VF (λa ha=>by obtain⟨Z,hy,rfl⟩:=List.mem_map.1 ha;exact hp Z hy))
  clear aj hp hh hB t;gi_wp2;have hK':=(Q2 W (Z9 w 0)<|J (-1)).same D _ hK rfl;refine⟨oq,.inl ⟨_,_,rfl,AaH hK',?_⟩⟩;have ah:=Of (I9 W (Z9 w 0) (J (-1))<|qh ag) (NX _ D<|.deferred none) (λr e=>by cases e;exact⟨_,hK',rfl⟩);refine⟨J (-1),?_,qg HR,(m.setCell (p:=Z9 w 0) oy _).trans<|belowK_b (w:=w) (Be _) _ D _ _ om hK' rfl rfl⟩;simp[results,f207,go_sem,ah]
 case stop=>
  rintro D c pre W hD ad ⟨⟨rfl,i,a,rfl,h1,h2,ag⟩,m⟩ hK;have HR:Hid<|A5 d v h=if d.X a.1=0 then none else some a.1:=O (by
   rw[Lf];have hp:(i++[a]).map (·.1)<+:E4 d.x (h%d.x) d.x:=ad;rw[AaA]at hp;exact VG (λb hb=>by obtain⟨Z,hy,rfl⟩:=List.mem_map.1 hb;exact h1 Z hy) hp h2)
  clear ad h1 h2 hh hB t;gi_wp2;refine⟨oq,.inl ⟨_,_,rfl,AaH hK,?_⟩⟩;have ah:=Of ag (NX _ D<|.deferred none) (λr e=>by cases e;exact⟨_,hK,rfl⟩);refine⟨J<|FF<|if d.X a.1=0 then none else some a.1,?_,qg HR,m.trans<|belowK_b (w:=w) (Be _) W D _ _ om hK rfl rfl⟩;simp[results,f207,go_sem,ah]
end
section
attribute [local go_sem] Ar Am
def H9(d:Dc)(x:Int):Prop:=1<=x/\x<=d.n/\(d.at x).turn≠0
def DL lc{ia:Option Addr}ic{xa:Option Addr}xc{d}x{w}(hD:Ea w la ia xa d)(e:Small d):
  C9 283 #[Dv la lc ia ic xa xc d,J x] w (R9 (.bool<|tells<|H9 d x) w):=by
 have hn:=e.n;by_cases h1:1<=x
 case neg=>
  have a:=O<|Ae (p:=H9 d x) λh=>h1 h.1;have g:decide (1<=x)=false:=by simp[h1]
  clear h1 hD e;go_enter func283,ntmps283;go_wp2;go_ret;exact⟨qg a,n9⟩
 by_cases h2:x<=(d.n:Int)
 case neg=>
  have a:=O<|Ae (p:=H9 d x) λh=>h2 h.2.1;clear hD e;go_enter func283,ntmps283;go_wp2;go_ret;exact⟨qg a,n9⟩
 obtain⟨q,hq⟩:∃q:Nat,x=(q:Int)+1:=⟨(x-1).toNat,om⟩;subst hq;have f:q<d.n:=om;obtain⟨b,off,rfl,i,hcs⟩:=hD.log.resolve_left om;have e0:=(hcs q f).tn;have hA:d.at ((q:Int)+1)=d.L q:=by unfold Dc.at;congr 1;omega
 by_cases c:(d.L q).turn=0
 .have a:=O<|Ae (p:=H9 d<|(q:Int)+1) λh=>h.2.2 (by rw[hA];exact c);rw[c]at e0;clear hD e hcs hA c;go_enter func283,ntmps283;go_wp2;go_ret;exact⟨qg a,n9⟩
 have a:=O<|Aj (p:=H9 d<|(q:Int)+1) ⟨h1,h2,by rw[hA];exact c⟩;have j:((d.L q).turn !=0)=true:=by simp[c]
 clear hD e hcs hA c;go_enter func283,ntmps283;go_wp2;go_ret;exact⟨by rw[z a];simp,n9⟩
def Ca v(m:Nat)w(b:m<=4194304):
  C9 206 #[V v.kind v.num v.Af v.str v.ref,J m] w (R9 (.bool<|tells<|Ay m v) w):=by
 have a:=O (show tells (Ay m v)=(v.kind==2&&(decide (1<=v.num)&&decide (v.num<=(m:Int)))) by unfold Ay tells;simp;rfl);cases h1:v.kind==2<;>cases h2:decide (1<=v.num)<;>cases h3:decide (v.num<=(m:Int))<;>(rw[h1,h2,h3]at a;go_enter func206,ntmps206;go_wp2;go_ret;exact⟨by rw[z a];simp,n9⟩)
def Nq(h:Cc v=true)(hk:v.kind=2):(O9 v.Af 0==some .eq)=true/\v.str.toList.isEmpty=true/\v.ref=0:=by
 grind [Cc,Vl.ok,A8,fz]
def R7 lc{ia:Option Addr}ic{xa:Option Addr}xc{d}{w}(hD:Ea w la ia xa d)(W:Small d)(h2:D2 d):
  C9 279 #[Dv la lc ia ic xa xc d] w (R9 (.bool<|tells<|D3 d) w):=by
 rcases W.n,W.m,O hD,O W,O h2 with⟨hn,hm,X,Z,H2⟩;clear hD W h2;go_enter func279,ntmps279;go_wp2;go_loopw [10] (λi wr=>∃(k:Nat),k<=d.m/\i=J k/\(∀j,j<k->Fu d j)/\w.heap.size<wr.heap.size/\wr.cell? (y w 0)=some (.slice la d.n lc)/\wr.cell? (y w 1)=some (.slice ia d.m ic)/\wr.cell? (y w 2)=some (.slice xa d.x xc)/\wr.cell? (y w 3)=some (J d.used)/\wr.cell? (y w 4)=some (J d.live)/\wr.cell? (y w 5)=some (J d.turns)/\B9 w wr) λi _=>d.m-(intOf i).toNat
 .exact⟨0,om,rfl,λj hj=>om,oq,oe,oe,oe,oe,oe,oe,n9⟩
 obtain⟨k,hk,rfl,v,f,c0,c1,c2,c3,c4,c5,hb⟩:=hrel;have g:=O v;clear v;by_cases D:k<d.m
 case neg=>
  have M:k=d.m:=om;subst M;by_cases l:d.m=0
  .have A:=O<|Aj (p:=D3 d) ⟨g,.inl l⟩;have E:((d.m:Int)==0)=true:=by simp[l]
   have t:=O hb;clear hb l;go_wp2;go_ret;exact⟨qg A,t⟩
  have E:((d.m:Int)==0)=false:=ot;obtain⟨q,hq⟩:∃q,d.m=q+1:=⟨d.m-1,om⟩;obtain⟨b,off,rfl,F,hcs⟩:=X.ints.resolve_left l;have e0:=oT hb F<|hcs q om;have ag:IntKind.i64.wrap ((d.m:Int)-1)=(q:Int):=oj;have ad:q<d.m:=om;have t:=O hb;clear hcs hb;have r:0<d.I q↔d.I q≠0:=by
   rcases z g q ad with h|h
   .omega
   omega
  by_cases hp:d.I q=0
  focus
   have A:=O (Ae (p:=D3 d) (λh=>by
    rcases h.2 with h|h
    .exact l h
    rw[hq]at h;exact(r.1 h) hp))
   have hd:(d.I q !=0)=false:=by simp[hp]
  rotate_left
  focus
   have A:=O<|Aj (p:=D3 d) ⟨g,.inr<|by rw[hq];exact r.2 hp⟩;have hd:(d.I q !=0)=true:=by simp[hp]
  all_goals
   have HQ:=O hq;clear hp hq l r;go_wp2;go_ret;exact⟨by rw[z A];simp,t⟩
 obtain⟨b,off,ae,F,hcs⟩:=X.ints.resolve_left om;subst ae;rcases oT hb F (hcs k D),O hb,O<|X.below hb,hb.size with⟨e0,t,H,o⟩;clear hcs hb;by_cases l:d.I k=0
 .have HO:Hid<|Fu d k:=O<|.inl l;rw[l]at e0;clear l;go_wp2;go_roundw
  .exact⟨k+1,om,ov,λj hj=>(by by_cases e:j=k;exact e▸z HO;exact g j om),f,c0,c1,c2,c3,c4,c5,t⟩
  exact ow
 have E:(d.I k==0)=false:=by simp[l]
 by_cases hl:H9 d<|d.I k
 case neg=>
  have A:=O<|Ks D (λh=>by rcases h with h|h;exact l h;exact hl ⟨om,h.2.1,h.2.2.1⟩);have P:=O<|Ae hl;clear hl l;go_wp2_with fail;refine qr wr ?_;refine N (h:=N (h:=?_));refine GC λK hK=>?_;go_simp;apply Exists.intro;refine qj (λw' a=>?_)<|hK _ ?_
  .refine((z P)▸DL lc ic xc (d.I k) (H.below a) Z).mono ?_;rintro e Q ⟨rfl,hb⟩;exact⟨rfl,o8 a hb⟩
  clear hK K;refine N (h:=N (h:=?_));iterate 12 (go_big_quiet_step (fail))
  refine N (h:=?_);refine GS ?_;intro w2 c;have s:=O<|t.trans<|c.mono o;clear c;go_wp2;go_ret;exact⟨qg A,s⟩
 have P:=O<|Aj hl;obtain⟨q,hq⟩:∃q:Nat,d.I k=(q:Int)+1:=⟨(d.I k-1).toNat,oS hl.1⟩;have R:q<d.n:=oS hl.2.1;have hA:d.at (d.I k)=d.L q:=by unfold Dc.at;rw[hq];congr 1;omega
 have u:(d.L q).turn≠0:=hA▸hl.2.2;have B:=(H2.pos R u).2;obtain⟨lb,lo,af,S,T⟩:=X.log.resolve_left om;subst af;obtain⟨e1,e2,e3,e4,e5,_,_,_,_,_,_⟩:=(T q R).keep λq=>t.cell (p:=G lb q) S;have ah:lb<wr.heap.size:=A0 S o;have U:Hid<|Fu d k↔(d.L q).key.kind=2/\(d.L q).key.num=(k:Int)+1:=O ⟨λh=>by
   rcases h with h|h
   .omega
   rw[hA]at h;exact h.2.2.2,λh=>.inr ⟨om,om,by rw[hA];exact u,by rw[hA];exact h.1,by rw[hA];exact h.2⟩⟩
 rw[hq]at e0 E P;have ai:IntKind.i64.wrap (q:Int)=q:=oj;have aj:IntKind.i64.wrap ((k:Int)+1)=(k:Int)+1:=oj;rcases O hq,O B,O u with⟨HQ,C,ak⟩;clear T hl l hq hA B u;by_cases Dt:(d.L q).key.kind=2/\(d.L q).key.num=(k:Int)+1
 .obtain⟨k1,k2⟩:=Dt;have HO:Hid<|Fu d k:=O<|U.2 ⟨k1,k2⟩;obtain⟨f1,f2,f3⟩:=Nq C k1;rw[k1]at e1;rw[k2]at e2;rw[f3]at e5;clear k1 k2 f3;go_wp2_with fail;refine qr wr ?_;refine N (h:=N (h:=?_));refine GC λK hK=>?_;go_simp;apply Exists.intro;refine qj (λw' a=>?_)<|hK _ ?_
  .refine((z P)▸DL lc ic xc ((q:Int)+1) (H.below a) Z).mono ?_;rintro e Q ⟨rfl,hb⟩;exact⟨rfl,o8 a hb⟩
  clear hK K;(iterate 12 refine N (h:=?_));refine GC λK hK=>?_;go_simp;refine⟨_,λw' a=>qk a<|FH ((k:Int)+1) _,hK _ ?_⟩;clear hK K;refine N (h:=N (h:=?_));refine GS ?_;intro w2 c;have s:=O<|t.trans<|c.mono o;have V:w.heap.size<w2.heap.size:=A0 f c.size;rcases oT c f c0,oT c f c1,oT c f c2,oT c f c3,oT c f c4,oT c f c5 with⟨g0,g1,g2,g3,g4,g5⟩;clear c c0 c1 c2 c3 c4 c5;go_wp2;go_roundw
  .exact⟨k+1,om,ov,λj hj=>(by by_cases e:j=k;exact e▸z HO;exact g j om),V,g0,g1,g2,g3,g4,g5,s⟩
  exact ow
 have A:=O<|Ks D λh=>Dt<|U.1 h;by_cases k1:(d.L q).key.kind=2
 focus
  obtain⟨f1,f2,f3⟩:=Nq C k1;have k2:((d.L q).key.num==(k:Int)+1)=false:=by simp;exactλh=>Dt ⟨k1,h⟩
  rw[k1]at e1;rw[f3]at e5;clear k1 Dt f3
 rotate_left
 focus
  have ao:((d.L q).key.kind==2)=false:=by simp[k1]
  clear k1 Dt
 all_goals
  go_wp2_with fail
  refine qr wr ?_;refine N (h:=N (h:=?_));refine GC λK hK=>?_;go_simp;apply Exists.intro;refine qj (λw' a=>?_) (hK _ ?_)
  .refine((z P)▸DL lc ic xc ((q:Int)+1) (H.below a) Z).mono ?_;rintro e Q ⟨rfl,hb⟩;exact⟨rfl,o8 a hb⟩
  clear hK K;(iterate 12 refine N (h:=?_));refine GC λK hK=>?_;go_simp;refine⟨_,λw' a=>qk a<|FH ((k:Int)+1) _,hK _ ?_⟩;clear hK K;refine N (h:=N (h:=?_));refine GS ?_;intro w2 c;have s:=O<|t.trans<|c.mono o;clear c;go_wp2;go_ret;exact⟨qg A,s⟩
end
section
open Go.RowKit Go.Shelf
attribute [local go_sem] Ar Am Oper.semAt_some
def C2(E:Nat->Nat)(p:Int):Option Addr:=if 0<=p then some (G (E p.toNat) 0)else none
def Ja(h3:D3 d)(h4:D4 d)v h:-1<=Aw d v h/\Aw d v h<d.n:=by
 rw[Aw];by_cases hs:Ay d.m v
 .rw[C3 hs];have:=hs.2.1;have:=hs.2.2;rcases h3.1 (v.num-1).toNat om with hh|hh<;>omega
 rw[Cs hs];cases e:A5 d v h with
 |none=>exact⟨by show(-1:Int)<=-1;omega,by show(-1:Int)<_;omega⟩
 |some s=>
  obtain⟨h1,h2⟩:=Md e;show -1<=d.X s-1/\d.X s-1<d.n;rcases h4.2.1 s h1 with hh|hh|hh<;>omega
def Jq(j:En T){bk Q R R2}{E S}{d}{v}{h}(hh:PW T v h){w:Y}(hT:T w)(hB:JN w bk Q R R2 E S d)(U:Small d)(h3:D3 d)(h4:D4 d):
  C9 196 #[.pointer (some<|G bk 0),V v.kind v.num v.Af v.str v.ref] w (R9 (.pointer<|C2 E<|Aw d v h) w):=by
 have Z:=U.m;obtain⟨W,k⟩:=o9<|w.alloc<|.cells (qe v) 43;have f:B9 w W:=by rw[k];exact(BE _ _).alloc (Be _) _
 have g:=hB.below f;rcases g.c1,g.lt,g.l1 with⟨⟨k1,c1⟩,lb,l1⟩;have c:w.heap.size<W.heap.size:=by rw[k];simp
 obtain⟨q0,q1,q2,q3,q4⟩:W.cell? (y w 0)=some (J v.kind)/\W.cell? (y w 1)=some (J v.num)/\W.cell? (y w 2)=some (F9 v.Af)/\W.cell? (y w 3)=some (.string v.str)/\W.cell? (y w 4)=some (J v.ref):=by rw[k];simp[go_sem]
 go_enter func196,ntmps196;go_wp2_with fail;rw[<-k];clear k;by_cases hs:Ay d.m v
 .have r:=O<|Aj hs;obtain⟨k1,k2,k3⟩:=hs;obtain⟨q,hq⟩:∃q:Nat,v.num=(q:Int)+1:=⟨(v.num-1).toNat,om⟩;have F:q<d.m:=om;have C:Hid<|Aw d v h=d.I q-1:=O (by unfold Aw;rw[C3 ⟨k1,k2,k3⟩,hq];congr 2;omega);have D:=g.r1 q F;have hI:CG E (d.I q)=C2 E (d.I q-1):=by
   unfold CG C2;by_cases e:0<d.I q
   .rw[C3 e,C3 om]
   rw[Cs e,Cs om]
  rw[hI]at D;have ad:IntKind.i64.wrap (q:Int)=q:=oj;have HQ:=O hq;clear k1 k2 k3 hI hq;refine qr W ?_;(iterate 6 refine N (h:=?_));refine GC λK hK=>?_;go_simp;apply Exists.intro;refine qj (λw' b=>?_)<|hK _ ?_
  .refine((z r)▸Ca v d.m _ Z).mono ?_;rintro e H ⟨rfl,hb⟩;exact⟨rfl,o8 b hb⟩
  clear hK K;refine GS ?_;intro w2 a;rcases (a.cell lb).trans c1,(a.cell l1).trans D,(a.cell c).trans q1 with⟨ae,af,t⟩;rw[z HQ]at t;rcases A0 lb a.size,A0 l1 a.size,A0 c a.size,o8 f a with⟨L,ag,M,l⟩;go_wp2_with fail;go_quiet (fail);go_wp2;go_ret;exact⟨qg C,AH l _⟩
 have r:=O<|Ae hs;have C:Hid<|Aw d v h=fH d (A5 d v h):=O (by unfold Aw;rw[Cs hs]);refine qr W ?_;(iterate 6 refine N (h:=?_));refine GC λK hK=>?_;go_simp;apply Exists.intro;refine qj (λw' b=>?_)<|hK _ ?_
 .refine((z r)▸Ca v d.m _ Z).mono ?_;rintro e H ⟨rfl,hb⟩;exact⟨rfl,o8 b hb⟩
 clear hK K;refine GS ?_;intro w2 a;rcases (a.cell c).trans q0,(a.cell c).trans q1,(a.cell c).trans q2,(a.cell c).trans q3,(a.cell c).trans q4,A0 c a.size,A0 lb a.size,o8 f a,g.below a,O (j _ _ (z<|O<|j _ _ hT f) a) with⟨ah,t,ai,aj,ak,M,L,l,p,P⟩;go_wp2_with fail;refine qr w2 ?_;(iterate 4 refine N (h:=?_));refine GC λK hK=>?_;go_simp;refine⟨_,λw' b=>qk b<|Od T j bk Q R R2 E S d v h hh _ (j _ _ P b) (p.below b) U h4,hK _ ?_⟩;clear hK K;refine N (h:=?_);refine GS ?_;intro w3 u;have x:=o8 l u;have i:=p.below u;have c3:=i.c3;cases n:A5 d v h with
 |none=>
  have o:Hid<|C2 E (Aw d v h)=none:=O (by rw[z C,n];rfl);simp only[FF];go_wp2;go_ret;exact⟨qg o,x⟩
 |some s=>
  obtain⟨A,B⟩:=Md n;have D:=i.r2 s A;rw[show DB S s (d.X s)=some (G (S s) 0)from Cs om]at D;have p1:=((i.sl s A).1 B).pt;have o:Hid<|C2 E (Aw d v h)=some (G (E (d.X s-1).toNat) 0):=O (by
   rw[z C,n];show(if 0<=d.X s-1 then _ else _)=_;rw[C3 om];rfl)
  simp only[FF];obtain⟨q,hq⟩:=o9<|(d.X s-1).toNat;rw[<-hq]at p1 o;clear n B hq;go_wp2;go_ret;exact⟨qg o,x⟩
abbrev Ml(d:Dc):Type:={i:Nat//i<d.n/\(d.L i).turn≠0}
def AW(d:Dc)(k:Nat):List Nat:=(List.range k).filter λi=>(d.L i).turn !=0
def aR(d:Dc)(xs:List<|Ml d):Prop:=xs.map (·.1)=AW d d.n
def Te(d:Dc)(xs:List<|Ml d):Prop:=xs.map (·.1)<+:AW d d.n
def II(d:Dc)(k:Nat)(xs:List<|Ml d):Prop:=xs.map (·.1)=AW d k
theorem B7(h:(d.L k).turn=0):AW d (k+1)=AW d k:=by
 unfold AW;rw[List.range_succ];simp[h]
theorem Bi(h:(d.L k).turn≠0):AW d (k+1)=AW d k++[k]:=by
 unfold AW;rw[List.range_succ];simp[h]
def FI d k:(AW d k).length<=k:=by
 grind [AW]
theorem Ft(h:k<=n):AW d k<+:AW d n:=by
 obtain⟨j,rfl⟩:∃j,n=k+j:=⟨n-k,om⟩
 induction j with
 |zero=>exact List.prefix_refl _
 |succ j ih=>
  refine(ih om).trans ?_;by_cases e:(d.L<|k+j).turn=0
  .rw[show k+(j+1)=k+j+1 by omega,B7 e];exact List.prefix_refl _
  rw[show k+(j+1)=k+j+1 by omega,Bi e];exact List.prefix_append _ _
def II.pre{xs}(h:II d k xs)(hk:k<=d.n):Te d xs:=by
 grind [II,Te,Ft]
def O4:i∈AW d k↔i<k/\(d.L i).turn≠0:=by
 unfold AW;simp[List.mem_filter]
def Ia bk w:
  C9 225 #[Q9 bk] w λe w'=>e=.returned (.func (.func 233) #[] #[Q9 w.heap.size])/\w'=w.alloc (.cells #[Q9 bk] 286):=by
 go_enter func225,ntmps225;go_wp2;go_ret;exact⟨rfl,rfl⟩
def KU(n)(hn:1<=n){bk v B R2}(x n0){E S}{d}{w}(C:JN w bk v B R2 E S d)(D:Small d)(F:v<n0)(H:∀i,i<d.n->E i<n0)
  (m0:w.cell? (G x 0)=some (Q9 bk)):
  SeqStopsK Fence.wide n prog 233 #[Q9 x] (λa=>#[Q9 (E a.1)]) (Below n0)
   (aR d) (Te d) d.n w:=λl Z R W A T I K M=>by
 have m0:=(A.cell<|IF _ _ m0).trans m0;have g:=C.below A;obtain⟨a0,k0,c0,s⟩:=g.c0;have P:=D.n;refine callsIn_of_wp func233 rfl trivial ?_ rfl;simp only[ntmps233,Aar,Aae,X9,Nat.reduceAdd,Nat.reduceSub,Aag,Aaf,Aas,Aai,Aad,Aaq];gi_wp2
 gi_loopw [10] (λi wr=>∃(k:Nat) (pre:List<|Ml d),k<=d.n/\i=J (k:Int)/\II d k pre/\Z pre wr/\Below n0 W wr) λi _=>d.n-(intOf i).toNat
 case atStart=>exact⟨0,[],om,rfl,rfl,z<|O M,BE _ _⟩
 case round=>
  obtain⟨k,pre,hk,rfl,c,j,f⟩:=hrel;by_cases b:k<d.n
  .obtain rfl:=z (O s) om;have U:=(f.cell F).trans<|g.r0 k b;have t0:=(f.cell<|z (O H) k b).trans (g.Cw k b).tn;by_cases o:(d.L k).turn=0
   .have r:II d (k+1) pre:=by unfold II;rw[B7 o];exact c
    rw[o]at t0;gi_wp2;refine⟨λ_ h=>(by cases h),?_⟩;gi_wp2;go_roundw
    .exact⟨k+1,pre,om,ov,r,j,f⟩
    exact ow
   have Q:((d.L k).turn !=0)=true:=by simp[o]
   obtain⟨fn,tmps,assign,body,hy,m⟩:=z (O K) pre ⟨k,b,o⟩ wr j (by
    have h1:=congrArg List.length c;rw[List.length_map]at h1;have:=FI d k;omega)
   have r:Hid<|II d (k+1)<|pre++[⟨k,b,o⟩]:=O (by
    unfold II;rw[Bi o,AaA,show pre.map (·.1)=AW d k from c];rfl)
   dsimp only at hy;gi_wp2;refine m.mono ?_;rintro e V (⟨rfl,t,u⟩|⟨rfl,p⟩)
   .clear hy m;gi_wp2;go_roundw
    .exact⟨k+1,_,om,ov,r,t,f.trans u⟩
    exact ow
   clear hy m;gi_wp2;refine GO (Aaw rfl _ _ _) rfl ?_;exact⟨⟨_,rfl⟩,.inr ⟨_,r.pre om,p⟩⟩
  have q:k=d.n:=om;subst q;gi_wp2;go_end0;exact⟨⟨_,rfl⟩,.inl ⟨pre,c,j⟩⟩
end
section
attribute [local go_sem] Ar Am
def tK a b n m c d w:(Instr.index 360 (.agg #[.slice a n c,.slice b m d])<|J 0).run prog w=.ok (.slice a n c) w:=ou
def tM a b n m c d w:(Instr.index 360 (.agg #[.slice a n c,.slice b m d])<|J 1).run prog w=.ok (.slice b m d) w:=ou
def PG lc{ia:Option Addr}ic{xa:Option Addr}xc{d}{w}(hD:Ea w la ia xa d)(p:Small d)(h3:D3 d)(h4:D4 d):
  C9 285 #[Dv la lc ia ic xa xc d] w λe w'=>(∃s,e=.returned (S9 s d.n d.n)/\Bs w' s d.n λj=>CI d.I j d.m+CI d.X j d.x)/\B9 w w':=by
 rcases p.n,p.m,p.x with⟨hn,L,M⟩;rcases JE d.n hn,tK ia xa d.m d.x ic xc,tM ia xa d.m d.x ic xc with⟨B,C,D⟩;go_enter func285,ntmps285;go_wp2;obtain⟨u,hu⟩:=o9<|(w.alloc<|.cells #[.slice la d.n lc,.slice ia d.m ic,.slice xa d.x xc,J d.used,J d.live,J d.turns] 357).alloc<|.cells (madeCells #[J 0] d.n) 3;rw[<-hu];have r:B9 w u:=by rw[hu];exact(n9).alloc oq _
 have t:Hid<|Bs u (w.heap.size+1) d.n λj=>0:=O (by
  rw[hu];have:=Ib (w.alloc (.cells #[.slice la d.n lc,.slice ia d.m ic,.slice xa d.x xc,J d.used,J d.live,J d.turns] 357)) d.n;exact⟨_,by simpa[Value.cells]using this,λj hj=>rfl⟩)
 go_loopw [20] (λi wr=>(i=J 0/\Bs wr (w.heap.size+1) d.n (λj=>0)/\B9 w wr)\/(i=J 1/\Bs wr (w.heap.size+1) d.n (λj=>CI d.I j d.m)/\B9 w wr)\/(i=J 2/\Bs wr (w.heap.size+1) d.n (λj=>CI d.I j d.m+CI d.X j d.x)/\B9 w wr)) λi _=>2-(intOf i).toNat
 .exact .inl ⟨rfl,t,r⟩
 rcases hrel with⟨rfl,a,hb⟩|⟨rfl,a,hb⟩|⟨rfl,a,hb⟩
 .have c:=O a;have f:=O hb;go_wp2;go_loopw [25] (λi wr=>∃k:Nat,k<=d.m/\i=J k/\Bs wr (w.heap.size+1) d.n (λj=>CI d.I j k)/\B9 w wr) λi _=>d.m-(intOf i).toNat
  .exact⟨0,om,rfl,c,f⟩
  obtain⟨k,hk,rfl,a,hb⟩:=hrel;by_cases g:k<d.m
  .obtain⟨b,off,rfl,l,hcs⟩:=hD.ints.resolve_left om;have e0:=(hb.cell l).trans<|hcs k g;have f:=O hb;rcases h3.1 k g with hz|hz
   .have c:Bs wr (w.heap.size+1) d.n λj=>CI d.I j<|k+1:=a.congr (λj hj=>by show(if _ then _ else _)=_;rw[Cs om]);rw[hz]at e0;go_wp2;go_roundw
    .exact⟨k+1,om,ov,c,f⟩
    exact ow
   obtain⟨q,hq⟩:∃q:Nat,d.I k=(q:Int)+1:=⟨(d.I k-1).toNat,om⟩;have o:q<d.n:=om;rcases a.cell o,a.frozen q,LO d.I q k with⟨r0,r1,v⟩;have c:Hid<|Bs (wr.setCell (Y9 w q)<|J<|(CI d.I q k:Int)+1) (w.heap.size+1) d.n λj=>CI d.I j<|k+1:=O (a.bump.congr (λj hj=>by
    show(if d.I k=(j:Int)+1 then _ else _)=(if j=q then _ else _);by_cases e:j=q
    .subst e;rw[C3 hq,C3 rfl]
    rw[Cs om,Cs e]))
   rw[hq]at e0;go_wp2;go_roundw
   .exact⟨k+1,om,ov,c,f.setCell ox _⟩
   exact ow
  have h:k=d.m:=om;subst h;have c:=O a;have f:=O hb;go_wp2;go_roundw
  .exact .inr (.inl ⟨rfl,c,f⟩)
  simp[intOf]
 .have c:=O a;have f:=O hb;go_wp2;go_loopw [25] (λi wr=>∃k:Nat,k<=d.x/\i=J k/\Bs wr (w.heap.size+1) d.n (λj=>CI d.I j d.m+CI d.X j k)/\B9 w wr) λi _=>d.x-(intOf i).toNat
  .exact⟨0,om,rfl,c,f⟩
  obtain⟨k,hk,rfl,a,hb⟩:=hrel;by_cases g:k<d.x
  .obtain⟨b,off,rfl,l,hcs⟩:=hD.index.resolve_left om;have e0:=(hb.cell l).trans<|hcs k g;have f:=O hb;by_cases hz:0<d.X k
   case neg=>
    have c:Bs wr (w.heap.size+1) d.n λj=>CI d.I j d.m+CI d.X j (k+1):=a.congr (λj hj=>by show _+(if _ then _ else _)=_;rw[Cs om]);have E:decide (0<d.X k)=false:=ot;go_wp2;go_roundw
    .exact⟨k+1,om,ov,c,f⟩
    exact ow
   obtain⟨q,hq⟩:∃q:Nat,d.X k=(q:Int)+1:=⟨(d.X k-1).toNat,om⟩;have o:q<d.n:=by rcases h4.2.1 k g with hh|hh|hh<;>omega
   rcases a.cell o,a.frozen q,LO d.I q d.m,LO d.X q k with⟨r0,r1,v,A⟩;have c:Hid<|Bs (wr.setCell (Y9 w q)<|J<|((CI d.I q d.m+CI d.X q k:Nat):Int)+1) (w.heap.size+1) d.n λj=>CI d.I j d.m+CI d.X j (k+1):=O (a.bump.congr (λj hj=>by
    show _+(if d.X k=(j:Int)+1 then _ else _)=(if j=q then _ else _);by_cases e:j=q
    .subst e;rw[C3 hq,C3 rfl];omega
    rw[Cs om,Cs e]))
   generalize F:CI d.I q d.m+CI d.X q k=H at r0 c;have K:H<=8388608:=om;rw[hq]at e0;go_wp2;go_roundw
   .exact⟨k+1,om,ov,c,f.setCell ox _⟩
   exact ow
  have h:k=d.x:=om;subst h;have c:=O a;have f:=O hb;go_wp2;go_roundw
  .exact .inr (.inr ⟨rfl,c,f⟩)
  simp[intOf]
 have c:=O a;go_wp2;go_ret;exact⟨⟨_,rfl,c⟩,z<|O hb⟩
def I7 bk h i R2 E S d w(b:JN w bk h i R2 E S d)(g:Small d):
  C9 216 #[Q9 bk] w (R9 (V 2 ((d.m:Int)+1) 0 ⟨#[]⟩ 0) w):=by
 rcases g.m,b.c1,b.lt with⟨l,⟨k1,c1⟩,j⟩;clear b g;go_enter func216,ntmps216;go_wp2_with (go_at_call 165;refine m9 (FH ((d.m:Int)+1) _) λw1 a=>?_;obtain⟨c,k⟩:=AM a;have e:=a.size;simp at e);refine GO (v:=V 2 ((d.m:Int)+1) 0 ⟨#[]⟩ 0) (by simp[results,results216,go_sem,c]) rfl ⟨rfl,?_⟩;have f:=(n9).trans<|a.mono oq;exact(((((f.setCell (p:=y w 0) (Be _) _).setCell (p:=y w 1) (Be _) _).setCell (p:=y w 2) (Be _) _).setCell (p:=y w 3) (Be _) _).setCell (p:=y w 4) (Be _) _)
end
section
open Go.RowKit Go.Shelf
attribute [local go_sem] Ar Am Oper.semAt_some
def YW:(prog.info? 303).map (λi=>i.size)=some 12:=ou
def Sp{f g}(b:JN w bk f g R2 E S d){p:Int}(h1:-1<=p)(h2:p<d.n){i}(hi:i<d.n):
  (binOp .neq 289 (.pointer<|C2 E p)<|Q9<|E i).run prog w=.ok (.bool<|decide (p≠i)) w:=by
 have hp:prog.underlying 289=some (.pointer 303):=underlying289;obtain⟨j,hj,hs⟩:=Option.map_eq_some_iff.1 YW;unfold C2;by_cases h:0<=p
 .rw[C3 h];by_cases e:p=i
  .subst e;have a:∀k:Nat,(Op.equalIn (k+1) 289 (Q9<|E i)<|Q9<|E i).run prog w=.ok true w:=λk=>by
    simp[Op.equalIn,run_underlying hp,sizeOf,typeInfo,hj,run_sameAddr_same]
   simp only[On,binOp];simp[Op.equal,Op.maxDepth,a 9999]
  have o1:=(b.Cw p.toNat om).ob;have o2:=(b.Cw i hi).ob;have c:((G (E p.toNat) 0):Addr)≠(G (E i) 0):=λl=>by
   have:=b.inj p.toNat i om hi (by simpa using l);omega
  have a:∀k:Nat,(Op.equalIn (k+1) 289 (Q9<|E p.toNat)<|Q9<|E i).run prog w=.ok false w:=λk=>by
   simp[Op.equalIn,run_underlying hp,sizeOf,typeInfo,hj,hs,run_sameAddr_other w c o1 o2]
  simp only[binOp];simp[Op.equal,Op.maxDepth,a 9999,e]
 rw[Cs h];have e:p≠i:=om;have a:∀k:Nat,(Op.equalIn (k+1) 289 (.pointer none)<|Q9<|E i).run prog w=.ok false w:=λk=>by
  simp[Op.equalIn,run_underlying hp,sizeOf,typeInfo]
 simp only[binOp];simp[Op.equal,Op.maxDepth,a 9999,e]
def MT(R:En T){la:Option Addr}lc{ia:Option Addr}ic{xa:Option Addr}xc{d}H{w:Y}(hT:T w)(hD:Ea w la ia xa d)(hS:Small d)(h2:D2 d)(h3:D3 d)(h4:D4 d)(hH:∀i,i<d.n->(d.L i).turn≠0->PW T (d.L i).key (H i)):
  C9 281 #[Dv la lc ia ic xa xc d] w λe w'=>e=.returned (.bool<|tells<|D5 d H)/\Below w.heap.size w w':=by
 have hm:=hS.m;have ak:Below w.heap.size w<|(w.alloc<|.cells #[.slice la d.n lc,.slice ia d.m ic,.slice xa d.x xc,J d.used,J d.live,J d.turns] 357).alloc<|.cells #[.bool false] 4:=(n9).alloc oq _;refine(Aaa (n:=20)).1 ?_;refine callsIn_of_wp_marks func281 rfl trivial ?_ rfl;simp only[ntmps281,Aar,Aae,X9,Nat.reduceAdd,Nat.reduceSub,Aag,Aaf,Aas,Aai,Aad,Aaq];rcases O hT,O hD,O hH with⟨HT,HD,HH⟩;clear hT hD hH;gi_wp2_with fail;refine⟨trivial,?_⟩;refine(Aaa.2<|Ih lc ic xc (HD.below ak) hS h3 h4).mono ?_;rintro e w1 ⟨⟨bk,R0,R1,R2,E,S,rfl,P⟩,ao⟩;obtain⟨g,bm⟩:=AM ao;have bu:w.heap.size+2<=w1.heap.size:=by have:=ao.size;simp at this;omega
 have y0:w.heap.size<w1.heap.size:=om;have y1:w.heap.size+1<w1.heap.size:=om;have a0:w1.cell? (G w.heap.size 0)=some (.slice la d.n lc):=by rw[g _ _ ot];simp[go_sem]
 have a1:w1.cell? (G w.heap.size 1)=some (.slice ia d.m ic):=by rw[g _ _ ot];simp[go_sem]
 have a2:w1.cell? (G w.heap.size 2)=some (.slice xa d.x xc):=by rw[g _ _ ot];simp[go_sem]
 have a3:w1.cell? (G w.heap.size 3)=some (J d.used):=by rw[g _ _ ot];simp[go_sem]
 have a4:w1.cell? (G w.heap.size 4)=some (J d.live):=by rw[g _ _ ot];simp[go_sem]
 have a5:w1.cell? (G w.heap.size 5)=some (J d.turns):=by rw[g _ _ ot];simp[go_sem]
 have b0:w1.cell? (G (w.heap.size+1) 0)=some (.bool false):=by rw[g _ _ oq];simp[go_sem]
 have b1:w1.frozen? (G (w.heap.size+1) 0)=false:=by rw[bm _ _ oq];simp[go_sem]
 have a6:=o8 ak ao;have k:=O P;clear ao g bm P;gi_wp2_with fail;refine⟨trivial,?_⟩;refine(Aaa.2<|PG lc ic xc (HD.below<|a6.alloc om _) hS h3 h4).mono ?_;rintro e w2 ⟨⟨st,rfl,bn⟩,aq⟩;have bp:w1.heap.size<w2.heap.size:=by have:=aq.size;simp at this;omega
 have a7:=((BE w1.heap.size w1).alloc (Be _) _).trans<|aq.mono oq;have m2:w2.cell? (G w1.heap.size 0)=some (Q9 bk):=by rw[(AM aq).1 _ _ oq];simp[go_sem]
 clear aq a0 a1 a2 a3 a4 a5;gi_wp2_with fail;refine⟨trivial,?_⟩;refine(Aaa.2<|I7 bk R0 R1 R2 E S d _ (k.below<|a7.alloc om _) hS).mono ?_;rintro e w3 ⟨rfl,ar⟩;have bq:w2.heap.size<w3.heap.size:=by have:=ar.size;simp at this;omega
 have af:w1.heap.size<w3.heap.size:=om;have a8:=((BE w2.heap.size w2).alloc (Be _) _).trans<|ar.mono oq;have m3:w3.cell? (G w1.heap.size 0)=some (Q9 bk):=oT a8 bp m2;have s3:w3.cell? (G w2.heap.size 0)=some (S9 st d.n d.n):=by rw[(AM ar).1 _ _ oq];simp[go_sem]
 clear ar m2;gi_wp2_with fail;refine⟨trivial,?_⟩;refine(Aaa.2<|Ia bk _).mono ?_;rintro e w4 ⟨rfl,rfl⟩;gi_wp2_with fail;obtain⟨u,hu⟩:=o9<|(w3.alloc<|.cells #[J 2,J<|(d.m:Int)+1,F9 0,E9,J 0] 43).alloc<|.cells #[Q9 bk] 286;rw[<-hu];have zu:u.heap.size=w3.heap.size+2:=by rw[hu];simp
 have au:Below w3.heap.size w3 u:=by rw[hu];exact(n9).alloc oq _
 obtain⟨n0,n1,n2,n3,n4,br⟩:u.cell? (G w3.heap.size 0)=some (J 2)/\u.cell? (G w3.heap.size 1)=some (J<|(d.m:Int)+1)/\u.cell? (G w3.heap.size 2)=some (F9 0)/\u.cell? (G w3.heap.size 3)=some (E9)/\u.cell? (G w3.heap.size 4)=some (J 0)/\u.cell? (G (w3.heap.size+1) 0)=some (Q9 bk):=by rw[hu];simp[go_sem]
 clear hu;have bb:Below w2.heap.size w2 u:=a8.trans<|au.mono om;have U:Below w1.heap.size w1 u:=a7.trans<|bb.mono om;have V:Below w.heap.size w u:=a6.trans<|U.mono om;rcases oT au af m3,oT au bq s3,oT U y1 b0,o7 U y1 b1,k.below U with⟨mu,su,ru,fu,av⟩;have bw:Bs u st d.n λj=>CI d.I j d.m+CI d.X j d.x:=bn.below bb;have ag:w1.heap.size<u.heap.size:=om;have ah:w2.heap.size<u.heap.size:=om;have o:w3.heap.size<u.heap.size:=om;have ad:w.heap.size+1<u.heap.size:=om;clear bb U au m3 s3 b0 b1 k a7 a8 a6 HD bu y0 y1 bp bq af ak bn;generalize w1.heap.size=M1 at*;generalize w2.heap.size=M2 at*;refine wpIn_rangeFunc_ownF rfl oo (gf:=233) (lb:=#[Q9 (w3.heap.size+1)]) rfl trivial (enters_of func233 ou rfl)
  (KU 19 oo (w3.heap.size+1) u.heap.size av hS av.l0 (λi hi=>(av.Cw i hi).lt) br) belowK_t (belowK_b<|Be _) (BE _ _) (λ_=>rfl)
  (λpre W=>(∀Z∈pre,Zh d H Z.1)/\Below u.heap.size u W)
  (λc pre W=>(c=.ret/\(∃Z∈pre,¬Zh d H Z.1)/\W.cell? (G (w.heap.size+1) 0)=some (.bool false))/\Below w.heap.size w W)
  (OwnFrom.and (ownFrom_pure _ λpre:List (Ml d)=>∀Z∈pre,Zh d H Z.1)<|ownFrom_below (Be _)<|Be _)
  (λc=>OwnFrom.and (Own.from (λs A B row hs hg hr=>⟨hs.1,hs.2.1,Of hs.2.2 hg hr⟩) _)<|ownFrom_below (Be _) om)
  ⟨oq,BE _ _⟩
  ?a1 ?assign ?body ?done ?stop
 case assign=>
  intro l x W K hK;gi_wp2;exact hK
 case body=>
  rintro l pre ⟨i,hi,ht⟩ W ⟨hp,a⟩ _;rcases av.below a,oT a ag mu,oT a ah su,oT a o n0,oT a o n1,oT a o n2,oT a o n3,oT a o n4,bw.below a with⟨P,m0,s0,g0,g1,g2,g3,g4,bc⟩;rcases bc.cell hi,bc.lt,P.Cw i hi with⟨r0,b6,⟨b7,k0,k1,k2,k3,k4,_,_,_,_,_,_,pl⟩⟩;have b8:M1<W.heap.size:=A0 ag a.size;have b9:M2<W.heap.size:=A0 ah a.size;have ca:w3.heap.size<W.heap.size:=A0 o a.size;have Q:w.heap.size+1<W.heap.size:=A0 ad a.size;rcases oT a ad ru,o7 a ad fu,O P with⟨t,aw,k⟩;rcases O (R _ _ HT<|V.trans<|a.mono om),z HH i hi ht,(h2.pos hi ht).2 with⟨bd,bx,ai⟩;clear P bc mu su n0 n1 n2 n3 n4 br;by_cases g:CI d.I i d.m+CI d.X i d.x=1
  case neg=>
   have ae:Hid<|¬Zh d H i:=O λh=>g (h ht).1;have aj:(((CI d.I i d.m+CI d.X i d.x:Nat):Int)!=1)=true:=ot;generalize CI d.I i d.m+CI d.X i d.x=cc at r0 aj g;clear g;gi_wp2;refine wpIn_region_quiet (C:=λw'=>Below W.heap.size W w') ou ou ou ((BE _ _).drew) ?_;show wpQuiet _ _ _ _ [_,_,_,_,_,_,_,_,_,_,_,_,_,_,_,_,_,_,_,_,_,_,_,_,_,_,_,_] _;(iterate 9 refine N (h:=?_));iterate 9 (go_big_quiet_step (fail))
   refine N (h:=N (h:=?_));iterate 7 (go_big_quiet_step (fail))
   refine N (h:=?_);refine GS ?_;intro w5 b;have HK:=BR b;rcases V.trans ((o8 a b).mono om),oT b Q t,o7 b Q aw with⟨q,v0,v1⟩;clear b;gi_wp2;exact⟨HK.trans<|Q2 _ _ _,⟨rfl,⟨⟨i,hi,ht⟩,oq,ae⟩,I9 _ _ _<|qh v0⟩,q.setCell (p:=G (w.heap.size+1) 0) ox _⟩
  rw[g]at r0;have aj:(((1:Nat):Int)!=1)=false:=rfl;obtain⟨ax,ay⟩:=Ja h3 h4 (d.L i).key<|H i;have v:=λW' bz (b2:JN W' bk R0 R1 R2 E S d)=>Jq R bx bz b2 hS h3 h4;have az:Hid<|Zh d H i↔Aw d (d.L i).key (H i)=(i:Int)/\¬((d.L i).key.kind=2/\(d.L i).key.num=(d.m:Int)+1):=O ⟨λh=>(h ht).2,λh _=>⟨g,h⟩⟩;generalize Aw d (d.L i).key (H i)=b3 at ax ay v az;have F:=O v;clear v g;by_cases bf:b3=(i:Int)
  case neg=>
   have ae:Hid<|¬Zh d H i:=O λh=>bf (az.1 h).1;gi_wp2;refine wpIn_region_quiet (C:=λw'=>Below W.heap.size W w') ou ou ou ((BE _ _).drew) ?_;show wpQuiet _ _ _ _ [_,_,_,_,_,_,_,_,_,_,_,_,_,_,_,_,_,_,_,_,_,_,_,_,_,_,_,_] _;(iterate 12 refine N (h:=?_));refine N (h:=N (h:=N (h:=?_)));refine GC λK hK=>?_;go_simp;refine⟨_,λw' f=>qk f<|F _ (R _ _ bd f)<|k.below f,hK _ ?_⟩;clear hK K;refine N (h:=?_);refine GC λK hK=>?_;go_simp;refine⟨.bool true,λw' f=>?_,hK _ ?_⟩
   .rw[Sp ((z k).below f) ax ay hi];simp[bf]
   clear hK K;refine N (h:=N (h:=?_));iterate 7 (go_big_quiet_step (fail))
   refine N (h:=?_);refine GS ?_;intro w5 b;have HK:=BR b;rcases V.trans ((o8 a b).mono om),oT b Q t,o7 b Q aw with⟨q,v0,v1⟩;clear b;gi_wp2;exact⟨HK.trans<|Q2 _ _ _,⟨rfl,⟨⟨i,hi,ht⟩,oq,ae⟩,I9 _ _ _<|qh v0⟩,q.setCell (p:=G (w.heap.size+1) 0) ox _⟩
  subst bf;by_cases M:(d.L i).key.kind=2/\(d.L i).key.num=(d.m:Int)+1
  .have ae:Hid<|¬Zh d H i:=O λh=>(az.1 h).2 M;have bg:=O M;have HF:=O<|Nq ai M.1;clear M ai;gi_wp2;refine wpIn_region_quiet (C:=λw'=>Below W.heap.size W w') ou ou ou ((BE _ _).drew) ?_;show wpQuiet _ _ _ _ [_,_,_,_,_,_,_,_,_,_,_,_,_,_,_,_,_,_,_,_,_,_,_,_,_,_,_,_] _;(iterate 12 refine N (h:=?_));refine N (h:=N (h:=N (h:=?_)));refine GC λK hK=>?_;go_simp;refine⟨_,λw' f=>qk f<|F _ (R _ _ bd f)<|k.below f,hK _ ?_⟩;clear hK K;refine N (h:=?_);refine GC λK hK=>?_;go_simp;refine⟨.bool false,λw' f=>?_,hK _ ?_⟩
   .rw[Sp ((z k).below f) ax ay hi];simp
   clear hK K;(iterate 8 refine N (h:=?_));refine GC λK hK=>?_;go_simp;refine⟨.bool true,λw' f=>?_,hK _ ?_⟩
   .obtain⟨x1,x2⟩:=z bg;obtain⟨x3,x4,x5⟩:=z HF;have b4:O9 (d.L i).key.Af 0=some Ordering.eq:=by simpa using x3
    have b5:(d.L i).key.str.toList=[]:=List.isEmpty_iff.1 x4;simp only[x1,x2,x5,b4,b5,if_true];exact⟨trivial,trivial⟩
   clear hK K;refine N (h:=?_);refine GS ?_;intro w5 b;have HK:=BR b;rcases V.trans ((o8 a b).mono om),oT b Q t,o7 b Q aw with⟨q,v0,v1⟩;clear b;gi_wp2;exact⟨HK.trans<|Q2 _ _ _,⟨rfl,⟨⟨i,hi,ht⟩,oq,ae⟩,I9 _ _ _<|qh v0⟩,q.setCell (p:=G (w.heap.size+1) 0) ox _⟩
  have HO:Zh d H i:=az.2 ⟨rfl,M⟩;have HP:=O hp;have bg:=O M;clear hp M;gi_wp2;refine wpIn_region_quiet (C:=λw'=>Below W.heap.size W w') ou ou ou ((BE _ _).drew) ?_;show wpQuiet _ _ _ _ [_,_,_,_,_,_,_,_,_,_,_,_,_,_,_,_,_,_,_,_,_,_,_,_,_,_,_,_] _;(iterate 12 refine N (h:=?_));refine N (h:=N (h:=N (h:=?_)));refine GC λK hK=>?_;go_simp;refine⟨_,λw' f=>qk f<|F _ (R _ _ bd f)<|k.below f,hK _ ?_⟩;clear hK K;refine N (h:=?_);refine GC λK hK=>?_;go_simp;refine⟨.bool false,λw' f=>?_,hK _ ?_⟩
  .rw[Sp ((z k).below f) ax ay hi];simp
  clear hK K;(iterate 8 refine N (h:=?_));refine GC λK hK=>?_;go_simp;refine⟨.bool false,λw' f=>?_,hK _ ?_⟩
  .have aM:=z bg;by_cases q1:(d.L i).key.kind=2
   .have q2:¬(d.L i).key.num=(d.m:Int)+1:=λh=>aM ⟨q1,h⟩;simp only[q1,q2,if_true,XN];exact⟨trivial,trivial⟩
   simp only[q1,XN];exact⟨trivial,trivial⟩
  clear hK K;refine N (h:=?_);refine GS ?_;intro w5 b;have HK:=BR b;have q:=O b;clear b;gi_wp2;exact⟨HK,q.mono a.size,λZ hy=>(List.mem_append.1 hy).elim (HP Z) (λe=>by simp at e;subst e;exact HO),o8 a q⟩
 case done=>
  rintro D ys W hD bt ⟨hp,a⟩ hK;have HR:Hid<|tells (D5 d H)=true:=O (Aj (λi hi ht=>by
   have hm:i∈ys.map (·.1):=by rw[show ys.map (·.1)=AW d d.n from bt];exact O4.2 ⟨hi,ht⟩
   obtain⟨Z,hy,rfl⟩:=List.mem_map.1 hm;exact hp Z hy ht))
  have t:=oT a ad ru;have aw:=o7 a ad fu;clear bt hp;gi_wp2;have hK':=(Q2 W (G (w.heap.size+1) 0)<|.bool true).same D _ hK rfl;refine⟨oq,.inl ⟨_,_,rfl,AaH hK',?_⟩⟩;have bh:=Of (I9 W (G (w.heap.size+1) 0) (.bool true)<|qh t) (NX _ D<|.deferred none) (λr e=>by cases e;exact⟨_,hK',rfl⟩);refine⟨.bool true,?_,qg HR,((V.trans<|a.mono om).setCell (p:=G (w.heap.size+1) 0) ox _).trans<|belowK_b (w:=w) (Be _) _ D _ _ om hK' rfl rfl⟩;simp[results,f281,go_sem,bh]
 case stop=>
  rintro D c pre W hD bj ⟨⟨rfl,⟨Z,hy,aM⟩,t⟩,a⟩ hK;have HR:Hid<|tells (D5 d H)=false:=O<|Su Z.2.1 aM;clear bj aM hy;gi_wp2;refine⟨oq,.inl ⟨_,_,rfl,AaH hK,?_⟩⟩;have bh:=Of t (NX _ D<|.deferred none) (λr e=>by cases e;exact⟨_,hK,rfl⟩);refine⟨.bool false,?_,qg HR,a.trans<|belowK_b (w:=w) (Be _) W D _ _ om hK rfl rfl⟩;simp[results,f281,go_sem,bh]
end
section
attribute [local go_sem] Ar Am
def tT(x:Int):Int:=IntKind.u64.wrap<|bits BinOp.and IntKind.u64 (x/2) 6148914691236517205+bits BinOp.and IntKind.u64 x 6148914691236517205
def tU(x:Int):Int:=IntKind.u64.wrap<|bits BinOp.and IntKind.u64 (x/4) 3689348814741910323+bits BinOp.and IntKind.u64 x 3689348814741910323
def tV(x:Int):Int:=bits BinOp.and IntKind.u64 (IntKind.u64.wrap<|x/16+x) 1085102592571150095
def tX(x:Int):Int:=IntKind.u64.wrap<|x+x/256
def tY(x:Int):Int:=IntKind.u64.wrap<|x+x/65536
def tZ(x:Int):Int:=IntKind.u64.wrap<|x+x/4294967296
def pop(x:Int):Int:=bits BinOp.and IntKind.i64 (wrap64<|tZ<|tY<|tX<|tV<|tU<|tT x) 127
def M9(x:Nat)(a:x<=4000)w:
  C9 287 #[.int .u64 x] w λe w'=>e=.returned (J<|pop x)/\w'=w:=by
 go_enter func287,ntmps287;go_wp2;go_ret;exact⟨rfl,rfl⟩
def J3(x:Nat)(a:x<=4000)w:
  C9 284 #[.int .u64 x] w λe w'=>e=.returned (J<|pop x)/\w'=w:=by
 go_enter func284,ntmps284;go_wp2_with (go_at_call 287;refine(M9 x a _).mono ?_;rintro e w1 ⟨rfl,rfl⟩);go_ret;exact⟨rfl,rfl⟩
def dT:∀k,k<12->pop ((2^k:Nat):Int)=1:=by decide +kernel
def kN:∀x:Nat,x<4001->pop (x)=1->x∈[1,2,4,8,16,32,64,128,256,512,1024,2048]:=by decide +kernel
def Yb(a:x<=4000):pop x=1↔GY x:=by
 constructor
 .intro h;have:=kN x om h;simp only[List.mem_cons,AaI,or_false]at this;rcases this with h|h|h|h|h|h|h|h|h|h|h|h
  .exact⟨0,h⟩
  .exact⟨1,h⟩
  .exact⟨2,h⟩
  .exact⟨3,h⟩
  .exact⟨4,h⟩
  .exact⟨5,h⟩
  .exact⟨6,h⟩
  .exact⟨7,h⟩
  .exact⟨8,h⟩
  .exact⟨9,h⟩
  .exact⟨10,h⟩
  exact⟨11,h⟩
 rintro⟨k,rfl⟩;have hk:k<12:=by
  rcases Nat.lt_or_ge k 12 with h|h
  .exact h
  have:=AaP (n:=2) oo h;omega
 exact dT k hk
def P2 la lc ia ic xa xc{d}w(g:Small d):
  C9 277 #[Dv la lc ia ic xa xc d] w (R9 (.bool<|tells<|D1 d) w):=by
 have hn:=g.n;clear g;have c:∀o1 o2,B9 w<|(w.alloc o1).alloc o2:=λo1 o2=>(n9).alloc oq _;have b:=O c;clear c;by_cases h1:d.live<0
 .have a:=O<|Ae (p:=D1 d) (λh=>by unfold D1 at h;omega);go_enter func277,ntmps277;go_wp2;go_ret;exact⟨qg a,b _ _⟩
 by_cases h2:500<d.live
 .have a:=O<|Ae (p:=D1 d) (λh=>by unfold D1 at h;omega);go_enter func277,ntmps277;go_wp2;go_ret;exact⟨qg a,b _ _⟩
 by_cases h3:d.turns<0
 .have a:=O<|Ae (p:=D1 d) (λh=>by unfold D1 at h;omega);go_enter func277,ntmps277;go_wp2;go_ret;exact⟨qg a,b _ _⟩
 by_cases h4:1000000000000<d.turns
 .have a:=O<|Ae (p:=D1 d) (λh=>by unfold D1 at h;omega);go_enter func277,ntmps277;go_wp2;go_ret;exact⟨qg a,b _ _⟩
 by_cases h5:(d.n:Int)<=8
 .have a:=O<|Aj (p:=D1 d) ⟨om,om,om,om,.inl h5⟩;go_enter func277,ntmps277;go_wp2;go_ret;exact⟨qg a,b _ _⟩
 have i:IntKind.i64.wrap (2*d.live)=2*d.live:=oj;by_cases e:(d.n:Int)<=2*d.live
 focus
  have a:=O<|Aj (p:=D1 d) ⟨om,om,om,om,.inr e⟩;have f:decide ((d.n:Int)<=2*d.live)=true:=by simp[e]
 rotate_left
 focus
  have a:=O<|Ae (p:=D1 d) (λh=>by unfold D1 at h;omega);have f:decide ((d.n:Int)<=2*d.live)=false:=by simp[e]
 all_goals
  go_enter func277,ntmps277;go_wp2;go_ret;exact⟨by rw[z a];simp,b _ _⟩
def jA(h:fz x=true):PS x x=true:=by
 have h':(Ieee.double.order x 0==some .eq)=true:=h;show(Ieee.double.order x x==some .eq)=true;rcases Fl.Cl x with⟨s,m,i,a,hi,b,c,_⟩|⟨s,a⟩|⟨s,t,a⟩
 .rw[Fl.BG a a hi hi];simp
 .unfold Ieee.Format.order at h';rw[a,Fl.Cq]at h';cases s<;>simp[Ieee.Datum.order]at h'
 unfold Ieee.Format.order at h';rw[a]at h';simp[Ieee.Datum.order]at h'
def XU(h:Cc v=true):PS v.Af v.Af=true:=by
 unfold Cc Vl.ok at h;simp only[AaJ,ne_eq,Bool.not_eq_true',Bool.and_eq_false_iff,Bool.or_eq_false_iff,beq_eq_false_iff_ne]at h;obtain⟨⟨a,b⟩,h3⟩:=h;by_cases hk:v.kind=3
 .rcases h3 with h3|h3
  .exact absurd hk h3
  have:(O9 v.Af v.Af !=some .eq)=false:=h3.1;rw[PS];simpa using this
 have hz:fz v.Af=true:=by grind [PS,A8]
 exact jA hz
def YX v w:
  C9 282 #[V v.kind v.num v.Af v.str v.ref] w (R9 (.bool<|Cc v) w):=by
 rcases OG v with⟨hk,b⟩|⟨hk,c,k,n,f,t,r,b,hc⟩
 .have e:=O b;have HK:=O hk;have g:(O9 v.Af v.Af==some .eq)=true:=XU hk;clear hk b;go_enter func282,ntmps282;go_wp2_with (go_at_call 135;refine m9 (F2 v.kind v.num v.Af v.str v.ref _) λw1 hb=>?_;rw[z e];obtain⟨hc,hf⟩:=AM hb;have hz:=hb.size;simp at hz;have d:w.heap.size<w1.heap.size:=om);go_ret;exact⟨by rw[z HK];simp,((n9).trans<|hb.mono oq).alloc om _⟩
 have e:=O b;have HK:=O hk;clear hk b;by_cases a:c=0
 .have h3:v.kind=3/\k=2:=hc.resolve_left λh=>h a;obtain⟨h3,rfl⟩:=h3;have i:((2:Int)==v.kind)=false:=qh h3
  subst a;clear h3 hc;go_enter func282,ntmps282;go_wp2_with (go_at_call 135;refine m9 (F2 v.kind v.num v.Af v.str v.ref _) λw1 hb=>?_;rw[z e];obtain⟨hc,hf⟩:=AM hb;have hz:=hb.size;simp at hz;have d:w.heap.size<w1.heap.size:=om);go_ret;exact⟨by rw[z HK];simp,((n9).trans<|hb.mono oq).alloc om _⟩
 have j:(c==0)=false:=by simp[a]
 clear a hc;go_enter func282,ntmps282;go_wp2_with (go_at_call 135;refine m9 (F2 v.kind v.num v.Af v.str v.ref _) λw1 hb=>?_;rw[z e];obtain⟨hc,hf⟩:=AM hb;have hz:=hb.size;simp at hz;have d:w.heap.size<w1.heap.size:=om);go_ret;exact⟨qg HK,((n9).trans<|hb.mono oq).alloc om _⟩
def Nt v:DH v=(v.kind==0&&(v.num==0&&(fz v.Af&&(v.str.toList.isEmpty&&v.ref==0)))):=by
 grind [DH,fz,Vl.ok,A8]
def Sl lc{ia:Option Addr}ic{xa:Option Addr}xc{d}{w}(hD:Ea w la ia xa d)(S:Small d):
  C9 278 #[Dv la lc ia ic xa xc d] w (R9 (.bool<|tells<|D2 d) w):=by
 have hn:=S.n;clear S;go_enter func278,ntmps278;go_wp2;go_loopw [3,4,11] (λli l i wr=>∃(k:Nat) (live last:Int),k<=d.n/\i=J k/\l=J last/\li=J live/\CZ d k=some (live,last)/\0<=live/\live<=k/\w.heap.size<wr.heap.size/\wr.cell? (y w 4)=some (J d.live)/\wr.cell? (y w 5)=some (J d.turns)/\B9 w wr) λ_ _ i _=>d.n-(intOf i).toNat
 .exact⟨0,0,0,om,rfl,rfl,rfl,rfl,om,om,oq,oe,oe,n9⟩
 obtain⟨k,live,last,hk,rfl,rfl,rfl,t,ad,ae,o,c4,c5,hb⟩:=hrel;have r:=O t;clear t;by_cases f:k<d.n
 case neg=>
  have D:k=d.n:=om;subst D;have j:=O hb;clear hb;by_cases B:live=d.live
  .have c:=O<|Aj (p:=D2 d) ⟨last,by rw[<-B];exact r⟩;have P:(live==d.live)=true:=by simp[B]
   clear B;go_wp2;go_ret;exact⟨by rw[z c];simp,j⟩
  have c:=O<|Ae (p:=D2 d) (λ⟨l,e⟩=>by rw[z r]at e;simp only[Option.some.injEq,Prod.mk.injEq]at e;exact B e.1);have P:(live==d.live)=false:=by simp[B]
  clear B;go_wp2;go_ret;exact⟨by rw[z c];simp,j⟩
 obtain⟨b,off,rfl,Q,hcs⟩:=hD.log.resolve_left om;obtain⟨e0,e1,e2,e3,T,U,V,e7,e8,X,E⟩:=(hcs k f).keep λq=>hb.cell (p:=G b q) Q;have j:=O hb;clear hcs hb;by_cases C:(d.L k).turn=0
 .have s:=O<|F5 r C;rw[C]at E;clear C;by_cases hz:(DH (d.L k).key&&DH (d.L k).val)=true
  .have c:Hid<|CZ d (k+1)=some (live,last):=O<|s.trans<|C3 hz;rw[Nt,Nt]at hz;simp only[AaJ,beq_iff_eq]at hz;obtain⟨⟨a0,a1,a2,a3,a4⟩,b0,b1,b2,b3,b4⟩:=hz;rw[a0]at e0;rw[a1]at e1;rw[a4]at T;rw[b0]at U;rw[b1]at V;rw[b4]at X;have af:(O9 (d.L k).key.Af 0==some .eq)=true:=a2;have ag:(O9 (d.L k).val.Af 0==some .eq)=true:=b2;clear a0 a1 a4 b0 b1 b4 a2 b2;go_wp2;go_roundw
   .exact⟨k+1,live,last,om,ov,rfl,rfl,c,om,om,ot,(Hi _ _ _<|by exact o).trans c4,(Hi _ _ _<|by exact o).trans c5,j.alloc j.size _⟩
   exact ow
  have c:=O<|EY f<|s.trans<|Cs hz;rw[Nt,Nt]at hz;have HZ:=O hz;clear hz;go_wp2_with fail;all_goals first|(go_ret;exact⟨qg c,j.alloc j.size _⟩)|(exfalso;apply HZ;simp_all [fz])
 have s:=O<|F6 r C;have ah:((d.L k).turn==0)=false:=by simp[C]
 clear C;by_cases t1:(d.L k).turn<=last
 .have c:=O<|EY f<|s.trans<|Cs (by unfold EI;simp;intros;omega);go_wp2_with fail;go_ret;exact⟨qg c,j.alloc j.size _⟩
 by_cases t2:d.turns<(d.L k).turn
 .have c:=O<|EY f<|s.trans<|Cs (by unfold EI;simp;intros;omega);go_wp2_with fail;go_ret;exact⟨qg c,j.alloc j.size _⟩
 obtain⟨W,m⟩:=o9<|wr.alloc<|.cells #[J (d.L k).key.kind,J (d.L k).key.num,F9 (d.L k).key.Af,.string (d.L k).key.str,J (d.L k).key.ref,J (d.L k).val.kind,J (d.L k).val.num,F9 (d.L k).val.Af,.string (d.L k).val.str,J (d.L k).val.ref,J (d.L k).turn] 166;have F:B9 w W:=by rw[m];exact j.alloc j.size _
 have g:wr.heap.size<W.heap.size:=by rw[m];simp
 obtain⟨Z,y6,y7,y8,y9,H⟩:W.cell? (y wr 5)=some (J (d.L k).val.kind)/\W.cell? (y wr 6)=some (J (d.L k).val.num)/\W.cell? (y wr 7)=some (F9 (d.L k).val.Af)/\W.cell? (y wr 8)=some (.string (d.L k).val.str)/\W.cell? (y wr 9)=some (J (d.L k).val.ref)/\W.cell? (y wr 10)=some (J (d.L k).turn):=by rw[m];simp[go_sem]
 have z4:W.cell? (y w 4)=some (J d.live):=by rw[m];exact(Hi _ _ _<|by exact o).trans c4
 have z5:W.cell? (y w 5)=some (J d.turns):=by rw[m];exact(Hi _ _ _<|by exact o).trans c5
 go_wp2_with fail
 rw[<-m];clear m;refine m9 (YX (d.L k).key _) λw1 a=>?_;rcases o8 F a,oT a g Z,oT a g y6,oT a g y7,oT a g y8,oT a g y9,oT a g H with⟨u,x5,x6,x7,x8,x9,I⟩;have K:w.heap.size<W.heap.size:=om;have u4:=oT a K z4;have u5:=oT a K z5;have M:wr.heap.size<w1.heap.size:=A0 g a.size;clear a Z y6 y7 y8 y9 H z4 z5 e0 e1 e2 e3 T U V e7 e8 X E c4 c5;cases t3:Cc (d.L k).key
 .have c:=O<|EY f<|s.trans<|Cs (by unfold EI;simp[t3]);clear t1 t2;go_wp2_with fail;go_ret;exact⟨qg c,u⟩
 go_wp2_with fail
 refine m9 (Cb (d.L k).val.kind (d.L k).val.num (d.L k).val.Af (d.L k).val.str (d.L k).val.ref _) λw2 h=>?_;rcases o8 u h,oT h M x5,oT h M I with⟨v,v5,ai⟩;have x:w.heap.size<w1.heap.size:=om;have s4:=oT h x u4;have s5:=oT h x u5;have R:w.heap.size<w2.heap.size:=A0 x h.size;clear h x5 x6 x7 x8 x9 I u4 u5;cases t4:(d.L k).val.ok
 .have c:=O<|EY f<|s.trans<|Cs (by unfold EI;simp[t4]);have A:A8 (d.L k).val.kind (d.L k).val.num (d.L k).val.Af (d.L k).val.str (d.L k).val.ref=false:=t4;rw[A];clear t1 t2;go_wp2_with fail;go_ret;exact⟨qg c,v⟩
 have A:A8 (d.L k).val.kind (d.L k).val.num (d.L k).val.Af (d.L k).val.str (d.L k).val.ref=true:=t4;rw[A];by_cases t5:(d.L k).val.kind=0
 .have c:=O<|EY f<|s.trans<|Cs (by unfold EI;simp[t5]);rw[t5]at v5;clear t1 t2 t5;go_wp2_with fail;go_ret;exact⟨qg c,v⟩
 have c:Hid<|CZ d (k+1)=some (live+1,(d.L k).turn):=O<|s.trans<|C3 (by unfold EI;simp[t3,t4,t5];omega);have aj:((d.L k).val.kind==0)=false:=by simp[t5]
 clear t1 t2 t5;go_wp2;go_roundw
 .exact⟨k+1,live+1,(d.L k).turn,om,ov,rfl,ov,c,om,om,R,s4,s5,v⟩
 exact ow
def fD(h:¬Gr d.x):d.x≠0/\(d.x<8\/4000<d.x\/(8<=d.x/\d.x<=4000/\¬GY d.x)):=by
 grind [Gr,GY,Small.x]
def Oz lc{ia:Option Addr}ic{xa:Option Addr}xc{d}{w}(hD:Ea w la ia xa d)(U:Small d)(h2:D2 d):
  C9 280 #[Dv la lc ia ic xa xc d] w (R9 (.bool<|tells<|D4 d) w):=by
 rcases U.n,U.m,U.x,O hD,O U with⟨hn,hm,hx,HD,HS⟩;clear hD U h2;have V:∀o,B9 w<|w.alloc o:=λo=>n9;have A:=O V;clear V;by_cases l:Gr d.x
 case neg=>
  have g:=O<|Nu (d:=d) l;obtain⟨E,h1⟩:=fD l;have W:((d.x:Int)!=0)=true:=by simp[E]
  clear l E;rcases h1 with h1|h1|⟨h1,h2,h3⟩
  .go_enter func280,ntmps280;go_wp2;go_ret;exact⟨qg g,A _⟩
  .have F:¬(d.x:Int)<8:=om;go_enter func280,ntmps280;go_wp2;go_ret;exact⟨qg g,A _⟩
  have hp:(pop (d.x:Int)!=1)=true:=by
   simp only[bne_iff_ne,ne_eq];exactλh=>h3<|(Yb h2).1 h
  have F:¬(d.x:Int)<8:=om;clear h3;generalize Z:pop (d.x:Int)=pp at hp;have P:=O Z;clear Z;go_enter func280,ntmps280;go_wp2_with (go_at_call 284;refine(J3 d.x h2 _).mono ?_;rintro e w1 ⟨rfl,rfl⟩;rw[z P]);go_ret;exact⟨qg g,A _⟩
 have aj:=O l;obtain⟨br,ak⟩:∃br:Bool,br=decide (d.x=0):=⟨_,rfl⟩;go_enter func280,ntmps280;clear ak;by_cases E:d.x=0
 .have W:((d.x:Int)!=0)=false:=by simp[E]
  have az:¬(0:Int)<d.x:=om;have B:=O E;clear E l;go_wp2_with fail;go_loopw [4,31] (λu i wr=>u=J 0/\i=J 0/\wr.cell? (y w 3)=some (J d.used)/\B9 w wr) λ_ _ _=>0
  .exact⟨rfl,rfl,oe,A _⟩
  obtain⟨rfl,rfl,c3,hb⟩:=hrel;have aM:(0:Int)<=d.x:=om;have t:=O hb;clear hb;by_cases hu:(0:Int)=d.used
  .have g:=O<|Aj (p:=D4 d) ⟨.inl B,λj hj=>oS<|z B,by rw[z B];exact hu,by rw[z B];exact Be _⟩;rw[<-hu]at c3;clear hu;go_wp2;go_ret;exact⟨qg g,t⟩
  have g:=O<|Ae (p:=D4 d) (λh=>by have:=h.2.2.1;rw[z B]at this;exact hu this);have a6:((0:Int)==d.used)=false:=by simp[hu]
  clear hu;go_wp2;go_ret;exact⟨qg g,t⟩
 have H:8<=d.x/\d.x<=4000/\GY d.x:=l.resolve_left E;have W:((d.x:Int)!=0)=true:=by simp[E]
 have F:¬(d.x:Int)<8:=om;have ao:=H.2.1;have a7:¬(4000:Int)<d.x:=om;have P:=O<|(Yb H.2.1).2 H.2.2;clear l E H;go_wp2_with (go_at_call 284;refine(J3 d.x ao _).mono ?_;rintro e w1 ⟨rfl,rfl⟩;rw[z P]);go_loopw [4,31] (λu i wr=>∃k:Nat,k<=d.x/\i=J k/\u=J (BT d k)/\(∀j,j<k->Ga d j)/\w.heap.size<wr.heap.size/\wr.cell? (y w 0)=some (.slice la d.n lc)/\wr.cell? (y w 1)=some (.slice ia d.m ic)/\wr.cell? (y w 2)=some (.slice xa d.x xc)/\wr.cell? (y w 3)=some (J d.used)/\wr.cell? (y w 4)=some (J d.live)/\wr.cell? (y w 5)=some (J d.turns)/\B9 w wr) λ_ i _=>d.x-(intOf i).toNat
 .exact⟨0,om,rfl,rfl,λj hj=>om,oq,oe,oe,oe,oe,oe,oe,A _⟩
 obtain⟨k,hk,rfl,rfl,M,f,c0,c1,c2,c3,c4,c5,hb⟩:=hrel;have a8:=Rr d k;have r:=O M;clear M;by_cases Q:k<d.x
 case neg=>
  have ad:k=d.x:=om;subst ad;have t:=O hb;clear hb;by_cases h1:(BT d d.x:Int)=d.used
  case neg=>
   have g:=O<|Ae (p:=D4 d) λh=>h1 h.2.2.1;have F:((BT d d.x:Int)==d.used)=false:=by simp[h1]
   clear h1;go_wp2;go_ret;exact⟨qg g,t⟩
  have F:((BT d d.x:Int)==d.used)=true:=by simp[h1]
  by_cases h2:2*BT d d.x<=d.x
  .have g:=O<|Aj (p:=D4 d) ⟨aj,r,h1,h2⟩;have aq:decide (2*(BT d d.x:Int)<=d.x)=true:=ot;clear h1 h2;go_wp2;go_ret;exact⟨by rw[z g];simp,t⟩
  have g:=O<|Ae (p:=D4 d) λh=>h2 h.2.2.2;have aq:decide (2*(BT d d.x:Int)<=d.x)=false:=ot;clear h1 h2;go_wp2;go_ret;exact⟨by rw[z g];simp,t⟩
 obtain⟨b,off,ar,au,hcs⟩:=HD.index.resolve_left om;subst ar;rcases oT hb au (hcs k Q),O hb,O<|HD.below hb,hb.size with⟨e0,t,R,s⟩;clear hcs hb;by_cases D:d.X k=0
 .have HO:Hid<|Ga d k:=O<|.inl D;have HU:Hid<|BT d (k+1)=BT d k:=O (by show(if d.X k=0 then _ else _)=_;rw[C3 D]);rw[D]at e0;clear D;go_wp2;go_roundw
  .exact⟨k+1,om,ov,qg HU,λj hj=>(by by_cases e:j=k;exact e▸z HO;exact r j om),f,c0,c1,c2,c3,c4,c5,t⟩
  exact ow
 have HU:Hid<|BT d (k+1)=BT d k+1:=O (by show(if d.X k=0 then _ else _)=_;rw[Cs D]);by_cases S:d.X k=-1
 .have HO:Hid<|Ga d k:=O<|.inr<|.inl S;rw[S]at e0;clear D S;go_wp2;go_roundw
  .exact⟨k+1,om,ov,by rw[z HU];go_num,λj hj=>(by by_cases e:j=k;exact e▸z HO;exact r j om),f,c0,c1,c2,c3,c4,c5,t⟩
  exact ow
 have av:(d.X k==0)=false:=by simp[D]
 have aw:(d.X k==-1)=false:=by simp[S]
 by_cases hl:H9 d<|d.X k
 case neg=>
  have g:=O (Pa Q (λh=>by
   rcases h with h|h|h
   .exact D h
   .exact S h
   exact hl ⟨om,h.2.1,h.2.2.1⟩))
  have HL:=O<|Ae hl;clear hl D S;go_wp2_with fail;refine qr wr ?_;refine N (h:=N (h:=?_));refine GC λK hK=>?_;go_simp;apply Exists.intro;refine qj (λw' a=>?_)<|hK _ ?_
  .refine((z HL)▸DL lc ic xc (d.X k) (R.below a) HS).mono ?_;rintro e I ⟨rfl,hb⟩;exact⟨rfl,o8 a hb⟩
  clear hK K;refine N (h:=N (h:=?_));iterate 13 (go_big_quiet_step (fail))
  refine N (h:=?_);refine GS ?_;intro w2 c;have C:=O<|t.trans<|c.mono s;clear c;go_wp2;go_ret;exact⟨qg g,C⟩
 have HL:=O<|Aj hl;obtain⟨q,hq⟩:∃q:Nat,d.X k=(q:Int)+1:=⟨(d.X k-1).toNat,oS hl.1⟩;have ax:q<d.n:=oS hl.2.1;have hA:d.at (d.X k)=d.L q:=by unfold Dc.at;rw[hq];congr 1;omega
 have af:(d.L q).turn≠0:=hA▸hl.2.2;obtain⟨lb,lo,ay,ag,ah⟩:=HD.log.resolve_left om;subst ay;obtain⟨e1,e2,e3,e4,e5,_,_,_,_,_,_⟩:=(ah q ax).keep λq=>t.cell (p:=G lb q) ag;have bb:lb<wr.heap.size:=A0 ag s;have ai:Hid<|Ga d k↔¬Ay d.m (d.L q).key:=O ⟨λh=>by
   rcases h with h|h|h
   .omega
   .omega
   rw[hA]at h;exact h.2.2.2,λh=>.inr (.inr ⟨om,om,by rw[hA];exact af,by rw[hA];exact h⟩)⟩
 rw[hq]at e0 av aw HL;have bc:IntKind.i64.wrap (q:Int)=q:=oj;clear ah hl D S hq hA af;by_cases v:Ay d.m (d.L q).key
 .have g:=O<|Pa Q λh=>ai.1 h v;have T:=O<|Aj v;clear v;go_wp2_with fail;refine qr wr ?_;refine N (h:=N (h:=?_));refine GC λK hK=>?_;go_simp;apply Exists.intro;refine qj (λw' a=>?_)<|hK _ ?_
  .refine((z HL)▸DL lc ic xc ((q:Int)+1) (R.below a) HS).mono ?_;rintro e I ⟨rfl,hb⟩;exact⟨rfl,o8 a hb⟩
  clear hK K;(iterate 12 refine N (h:=?_));refine N (h:=N (h:=?_));refine GC λK hK=>?_;go_simp;apply Exists.intro;refine qj (λw' a=>?_)<|hK _ ?_
  .refine((z T)▸Ca (d.L q).key d.m _ hm).mono ?_;rintro e I ⟨rfl,hb⟩;exact⟨rfl,o8 a hb⟩
  clear hK K;refine N (h:=?_);refine GS ?_;intro w2 c;have C:=t.trans<|c.mono s;clear c;go_wp2;go_ret;exact⟨qg g,C⟩
 have HO:Hid<|Ga d k:=O<|ai.2 v;have T:=O<|Ae v;clear v;go_wp2_with fail;refine qr wr ?_;refine N (h:=N (h:=?_));refine GC λK hK=>?_;go_simp;apply Exists.intro;refine qj (λw' a=>?_)<|hK _ ?_
 .refine((z HL)▸DL lc ic xc ((q:Int)+1) (R.below a) HS).mono ?_;rintro e I ⟨rfl,hb⟩;exact⟨rfl,o8 a hb⟩
 clear hK K;(iterate 12 refine N (h:=?_));refine N (h:=N (h:=?_));refine GC λK hK=>?_;go_simp;apply Exists.intro;refine qj (λw' a=>?_)<|hK _ ?_
 .refine((z T)▸Ca (d.L q).key d.m _ hm).mono ?_;rintro e I ⟨rfl,hb⟩;exact⟨rfl,o8 a hb⟩
 clear hK K;refine N (h:=?_);refine GS ?_;intro w2 c;have C:=O<|t.trans<|c.mono s;have ae:w.heap.size<w2.heap.size:=A0 f c.size;rcases oT c f c0,oT c f c1,oT c f c2,oT c f c3,oT c f c4,oT c f c5 with⟨g0,g1,g2,g3,g4,g5⟩;clear c c0 c1 c2 c3 c4 c5;go_wp2;go_roundw
 .exact⟨k+1,om,ov,by rw[z HU];go_num,λj hj=>(by by_cases e:j=k;exact e▸z HO;exact r j om),ae,g0,g1,g2,g3,g4,g5,C⟩
 exact ow
end
section
open Go.RowKit Go.Shelf
attribute [local go_sem] Ar Am C5
def vX x w:(Instr.index 358 (.agg #[.func (.func 277) #[x] #[],.func (.func 278) #[x] #[],.func (.func 279) #[x] #[],.func (.func 280) #[x] #[],.func (.func 281) #[x] #[]])<|J 0).run prog w=.ok (.func (.func 277) #[x] #[]) w:=ou
def vY x w:(Instr.index 358 (.agg #[.func (.func 277) #[x] #[],.func (.func 278) #[x] #[],.func (.func 279) #[x] #[],.func (.func 280) #[x] #[],.func (.func 281) #[x] #[]])<|J 1).run prog w=.ok (.func (.func 278) #[x] #[]) w:=ou
def vZ x w:(Instr.index 358 (.agg #[.func (.func 277) #[x] #[],.func (.func 278) #[x] #[],.func (.func 279) #[x] #[],.func (.func 280) #[x] #[],.func (.func 281) #[x] #[]])<|J 2).run prog w=.ok (.func (.func 279) #[x] #[]) w:=ou
def wA x w:(Instr.index 358 (.agg #[.func (.func 277) #[x] #[],.func (.func 278) #[x] #[],.func (.func 279) #[x] #[],.func (.func 280) #[x] #[],.func (.func 281) #[x] #[]])<|J 3).run prog w=.ok (.func (.func 280) #[x] #[]) w:=ou
def wB x w:(Instr.index 358 (.agg #[.func (.func 277) #[x] #[],.func (.func 278) #[x] #[],.func (.func 279) #[x] #[],.func (.func 280) #[x] #[],.func (.func 281) #[x] #[]])<|J 4).run prog w=.ok (.func (.func 281) #[x] #[]) w:=ou
def Ox(q:En T){la:Option Addr}lc{ia:Option Addr}ic{xa:Option Addr}xc{d}H{w:Y}(B:T w)(hD:Ea w la ia xa d)(C:Small d)(D:∀i,i<d.n->Cc (d.L i).key=true->PW T (d.L i).key (H i)):
  C9 274 #[Dv la lc ia ic xa xc d] w (R9 (J<|BI d H) w):=by
 rcases O q,O B,O hD,O C,O D with⟨r,E,A,s,F⟩;clear q B hD C D;go_enter func274,ntmps274;go_wp2_with fail;obtain⟨u,hu⟩:=o9<|((w.alloc<|.cells #[.slice la d.n lc,.slice ia d.m ic,.slice xa d.x xc,J d.used,J d.live,J d.turns] 103).alloc<|.cells #[.slice la d.n lc,.slice ia d.m ic,.slice xa d.x xc,J d.used,J d.live,J d.turns] 357).alloc<|.cells #[.func (.func 277) #[Dv la lc ia ic xa xc d] #[],.func (.func 278) #[Dv la lc ia ic xa xc d] #[],.func (.func 279) #[Dv la lc ia ic xa xc d] #[],.func (.func 280) #[Dv la lc ia ic xa xc d] #[],.func (.func 281) #[Dv la lc ia ic xa xc d] #[]] 358;rw[<-hu];have t:Hid<|B9 w u:=O (by rw[hu];exact((n9).alloc oq _).alloc ot _);clear hu;rcases vX (Dv la lc ia ic xa xc d),vY<|Dv la lc ia ic xa xc d,vZ<|Dv la lc ia ic xa xc d,wA<|Dv la lc ia ic xa xc d,wB (Dv la lc ia ic xa xc d) with⟨i0,K,i2,i3,i4⟩;go_loopw [21] (λi wr=>(i=J 0/\B9 w wr)\/(i=J 1/\D1 d/\B9 w wr)\/(i=J 2/\D1 d/\D2 d/\B9 w wr)\/(i=J 3/\D1 d/\D2 d/\D3 d/\B9 w wr)\/(i=J 4/\D1 d/\D2 d/\D3 d/\D4 d/\B9 w wr)\/(i=J 5/\D1 d/\D2 d/\D3 d/\D4 d/\D5 d H/\B9 w wr)) λi _=>5-(intOf i).toNat
 .exact .inl ⟨rfl,t⟩
 clear t;rcases hrel with⟨rfl,hb⟩|⟨rfl,h1,hb⟩|⟨rfl,h1,h2,hb⟩|⟨rfl,h1,h2,h3,hb⟩|⟨rfl,h1,h2,h3,h4,hb⟩|⟨rfl,h1,h2,h3,h4,h5,hb⟩
 .have l:=O hb;have a:=P2 la lc ia ic xa xc wr s;have o:=O a;clear hb a;go_wp2_with fail;refine o.mono ?_;rintro e w2 ⟨rfl,c⟩;have f:=O<|o8 l c;clear c o;by_cases b:D1 d
  .rw[Aj b];have j:=O b;clear b;go_wp2_with fail;go_roundw
   .exact .inr (.inl ⟨rfl,j,f⟩)
   simp[intOf]
  rw[Ae b];have g:=O<|Xw (H:=H) b;clear b;go_wp2_with fail;go_ret;exact⟨qg g,f⟩
 .have l:=O hb;have a:=Sl lc ic xc (A.below hb) s;have o:=O a;have h:=O h1;clear hb a h1;go_wp2_with fail;refine o.mono ?_;rintro e w2 ⟨rfl,c⟩;have f:=O<|o8 l c;clear c o;by_cases b:D2 d
  .rw[Aj b];have j:=O b;clear b;go_wp2_with fail;go_roundw
   .exact .inr (.inr<|.inl ⟨rfl,h,j,f⟩)
   simp[intOf]
  rw[Ae b];have g:=O<|Xx (H:=H) h b;clear b;go_wp2_with fail;go_ret;exact⟨qg g,f⟩
 .have l:=O hb;have a:=R7 lc ic xc (A.below hb) s h2;rcases O a,O h1,O h2 with⟨o,h,k⟩;clear hb a h1 h2;go_wp2_with fail;refine o.mono ?_;rintro e w2 ⟨rfl,c⟩;have f:=O<|o8 l c;clear c o;by_cases b:D3 d
  .rw[Aj b];have j:=O b;clear b;go_wp2_with fail;go_roundw
   .exact .inr (.inr<|.inr<|.inl ⟨rfl,h,k,j,f⟩)
   simp[intOf]
  rw[Ae b];have g:=O<|Xy (H:=H) h k b;clear b;go_wp2_with fail;go_ret;exact⟨qg g,f⟩
 .have l:=O hb;have a:=Oz lc ic xc (A.below hb) s h2;rcases O a,O h1,O h2,O h3 with⟨o,h,k,p⟩;clear hb a h1 h2 h3;go_wp2_with fail;refine o.mono ?_;rintro e w2 ⟨rfl,c⟩;have f:=O<|o8 l c;clear c o;by_cases b:D4 d
  .rw[Aj b];have j:=O b;clear b;go_wp2_with fail;go_roundw
   .exact .inr (.inr<|.inr<|.inr<|.inl ⟨rfl,h,k,p,j,f⟩)
   simp[intOf]
  rw[Ae b];have g:=O<|Xz (H:=H) h k p b;clear b;go_wp2_with fail;go_ret;exact⟨qg g,f⟩
 .have l:=O hb;have a:=MT r lc ic xc H (r _ _ E hb) (A.below hb) s h2 h3 h4 λi hi I=>F i hi (h2.pos hi I).2;rcases O a,O h1,O h2,O h3,O h4 with⟨o,h,k,p,v⟩;clear hb a h1 h2 h3 h4;go_wp2_with fail;refine o.mono ?_;rintro e w2 ⟨rfl,c⟩;have f:=O<|o8 l c;clear c o;by_cases b:D5 d H
  .rw[Aj b];have j:=O b;clear b;go_wp2_with fail;go_roundw
   .exact .inr (.inr<|.inr<|.inr<|.inr<|⟨rfl,h,k,p,v,j,f⟩)
   simp[intOf]
  rw[Ae b];have g:=O<|XA (H:=H) h k p v b;clear b;go_wp2_with fail;go_ret;exact⟨qg g,f⟩
 have l:=O hb;have g:=O<|RS (H:=H) h1 h2 h3 h4 h5;clear hb h1 h2 h3 h4 h5;go_wp2_with fail;go_ret;exact⟨qg g,l⟩
end
namespace Fl
open Ieee
def fields x(b:x<18446744073709551616):∃a e f,x=a*9223372036854775808+e*4503599627370496+f/\a<2/\e<2048/\f<4503599627370496:=
 ⟨x/9223372036854775808,x/4503599627370496%2048,x%4503599627370496,om,om,om,om⟩
def Di a e f(h1:a<2)(h2:e<2047)(h3:f<4503599627370496):
  double.read (a*9223372036854775808+e*4503599627370496+f)=.number (a==1) (if e=0 then f else 4503599627370496+f) (if e=0 then -1074 else(e:Int)-1075):=by
 unfold Format.read;have hb:double.binade=4503599627370496:=oo;have b:double.infRung=9218868437227405312:=oo;have hl:double.leastPlace=-1074:=oo;have hs:double.signWeight=9223372036854775808:=oo;have e2:(a*9223372036854775808+e*4503599627370496+f)/9223372036854775808%2=a:=om;grind
def Ee a f(h1:a<2)(h3:f<4503599627370496):
  double.read (a*9223372036854775808+2047*4503599627370496+f)=if f=0 then .infinity (a==1)else .nan (a==1) f:=by
 unfold Format.read;have hb:double.binade=4503599627370496:=oo;have b:double.infRung=9218868437227405312:=oo;have hs:double.signWeight=9223372036854775808:=oo;rw[b,hs];have e1:(a*9223372036854775808+2047*4503599627370496+f)%9223372036854775808=9218868437227405312+f:=om;have e2:(a*9223372036854775808+2047*4503599627370496+f)/9223372036854775808%2=a:=om;rw[e1,e2,Cs om];grind
theorem qM:(2:Nat)^63=9223372036854775808:=oo
def iM:(2:Nat)^52=4503599627370496:=oo
def vI:(2:Nat)^52-1=4503599627370495:=oo
def Xr:(2:Nat)^11=2048:=oo
def UF a:a*9223372036854775808%2^52=0:=by
 omega
def Mr a e f(h1:a<2)(h2:e<2048)(h3:f<4503599627370496):
  bits BinOp.andNot IntKind.u64 ((a*9223372036854775808+e*4503599627370496+f:Nat):Int) 9223372036854775808=((e*4503599627370496+f:Nat):Int):=by
 have h:=u64_andNot_nat (a*9223372036854775808+e*4503599627370496+f) 9223372036854775808 om om;have:=Nat.and_two_pow_sub_one_eq_mod (a*9223372036854775808+e*4503599627370496+f) 63;grind [qM]
def Vw a e f(h1:a<2)(h2:e<2048)(h3:f<4503599627370496):
  bits BinOp.andNot IntKind.u64 ((a*9223372036854775808+e*4503599627370496+f:Nat):Int) 9218868437227405312=((a*9223372036854775808+f:Nat):Int):=by
 have h:=u64_andNot_nat (a*9223372036854775808+e*4503599627370496+f) 9218868437227405312 om om;refine h.trans ?_;have m1:18446744073709551615-9218868437227405312=9223372036854775808 ||| 4503599627370495:=oo
 rw[m1,Nat.and_or_distrib_left];have a1:=nat_bit 63<|a*9223372036854775808+e*4503599627370496+f;have a2:=Nat.and_two_pow_sub_one_eq_mod (a*9223372036854775808+e*4503599627370496+f) 52;rw[a1,a2];have e1:(a*9223372036854775808+e*4503599627370496+f)/9223372036854775808%2=a:=om;have e2:(a*9223372036854775808+e*4503599627370496+f)%4503599627370496=f:=om;rw[e1,e2,nat_join 52 (a*9223372036854775808) f (UF a) (by rw[iM];omega)]
def oX a f(h1:a<2)(h3:f<4503599627370496):
  bits BinOp.or IntKind.u64 ((a*9223372036854775808+f:Nat):Int) 4602678819172646912=((a*9223372036854775808+1022*4503599627370496+f:Nat):Int):=by
 have h:=u64_or_nat (a*9223372036854775808+f) 4602678819172646912 om om;refine h.trans ?_;have b:=nat_join 52 (a*9223372036854775808) f (UF a) (by rw[iM];omega);have c:=nat_join 52 4602678819172646912 f (by rw[iM]) (by rw[iM];omega);have d:=nat_join 63 (a*9223372036854775808) (4602678819172646912+f) (by rw[qM];exact Nat.mul_mod_left _ _) (by rw[qM];omega);rw[<-b,Nat.or_assoc,Nat.or_comm f,c,d];omega
def iH(e:Nat)(h2:e<4096):bits BinOp.and IntKind.u64 (e) 2047=((e%2048:Nat):Int):=by
 have h:=u64_and_nat e 2047 om om;refine h.trans ?_;congr 1;have:=Nat.and_two_pow_sub_one_eq_mod e 11;omega
def Q5{s t}{i j}(f:double.read x=.number s m i)(hy:double.read Z=.number t n j)(g:m*n≠0)(b:-1074<=i+j)
  (a) p (h:a<2^53) (c:-1074<=p) (d:p<=971) (e:(m*n)*2^(i+j+1074).toNat=a*2^(p+1074).toNat):
  ∃r q l,floatBits .mul .f64 x Z=some r/\double.read r=.number (s^^t) q l/\-1074<=l/\l<=971/\q*2^(l+1074).toNat=a*2^(p+1074).toNat:=by
 obtain⟨q,l,h1,h2,h3,h4⟩:=GL (s^^t) (m*n) (i+j) a p g b h c d e;refine⟨double.nearest (s^^t) (m*n)<|i+j,q,l,?_,h1,h2,h3,h4.trans e⟩;show((double.read x).product<|double.read Z).map double.write=_;rw[f,hy];rfl
def eD:double.read 9218868437227405311=.number false 9007199254740991 971:=oo
def Zu:double.read 4602678819172646912=.number false 4503599627370496 (-53):=oo
def eH:double.read 4611686018427387904=.number false 4503599627370496 (-51):=oo
def eE:double.read 4841369599423283200=.number false 4503599627370496 0:=oo
def eG:double.read 4845873199050653696=.number false 4503599627370496 1:=oo
def Pj:double.read 4503599627370496=.number false 4503599627370496 (-1074):=oo
theorem Cf m i:sc false m i=((m*2^(i+1074).toNat:Nat):Int):=by
 rw[sc,signed];rw[Nat.shiftLeft_eq];simp
def Zz s m i(c:m<2^53)(hi:i<=971):sc s m i<=sc false 9007199254740991 971:=by
 have h1:sc s m i<=sc false m i:=by
  cases s;all_goals grind [Ej,Cf]
 refine Int.le_trans h1 ?_;rw[Cf,Cf];have a:m<=9007199254740991:=om;have b:2^(i+1074).toNat<=2^((971:Int)+1074).toNat:=AaP om om;exact Int.ofNat_le.2<|Nat.mul_le_mul a b
def JH{s}{i}(b:double.read x=.number s m i)(hi:-1074<=i)(a:i<=971)(c:m<2^53):(double.order x 9218868437227405311==some .gt)=false:=by
 rw[BG b eD hi om,Kd];have:=Zz s m i c a;simp;omega
def QT(a:double.read x=.infinity false):(double.order x 9218868437227405311==some .gt)=true:=by
 unfold Format.order;rw[a];rfl
def Wj(a:double.read x=.infinity true):(double.order x 9218868437227405311==some .gt)=false:=by
 unfold Format.order;rw[a];rfl
end Fl
namespace Fl
open Ieee
structure Fr (x:Nat) (s:Bool) (m:Nat) (i:Int) (a y e0 z z2:Nat) (k:Int) (j:Nat):Prop where
 hk:-60<=k
 Dt:k<=60
 qG:e0<2048
 TQ:bits BinOp.andNot IntKind.u64 (x:Int) 9223372036854775808=(a:Int)
 JS:(double.order a 9218868437227405311==some .gt)=false
 XO:(k=0/\y=x/\(double.order a 4503599627370496==some .lt)=false)\/(k=-52/\floatBits .mul .f64 x 4841369599423283200=some y/\(double.order a 4503599627370496==some .lt)=true)
 h1:bits BinOp.and IntKind.u64 ((y:Int)/4503599627370496) 2047=(e0:Int)
 h2:bits BinOp.andNot IntKind.u64 (y:Int) 9218868437227405312=(z:Int)
 h3:bits BinOp.or IntKind.u64 (z:Int) 4602678819172646912=(z2:Int)
 rd:double.read z2=.number s (m*2^j) (-53)
 lo:2^52<=m*2^j
 hi:m*2^j<2^53
 ex:k+((e0:Int)-1023+1)-53=i-j
def Oj(Z a e f:Nat)(hy:Z=a*9223372036854775808+e*4503599627370496+f)(h1:a<2)(h2:e<2048)(h3:f<4503599627370496):
  bits BinOp.and IntKind.u64 ((Z)/4503599627370496) 2047=(e:Int)/\
  bits BinOp.andNot IntKind.u64 (Z:Int) 9218868437227405312=((a*9223372036854775808+f:Nat):Int)/\
  bits BinOp.or IntKind.u64 ((a*9223372036854775808+f:Nat):Int) 4602678819172646912=((a*9223372036854775808+1022*4503599627370496+f:Nat):Int):=by
 subst hy;refine⟨?_,Vw a e f h1 h2 h3,oX a f h1 h3⟩;have q:(((a*9223372036854775808+e*4503599627370496+f:Nat):Int)/4503599627370496)=((a*2048+e:Nat):Int):=om;rw[q,iH _ om];congr 1;omega
def TG x(P:x<18446744073709551616)s m i(A:double.read x=.number s m i)(T:m≠0):
  ∃Q Z e0 X z2 k j,Fr x s m i Q Z e0 X z2 k j:=by
 obtain⟨o,e,f,rfl,b1,b2,b3⟩:=fields x P;have L:e<2047:=by
  apply Nat.lt_of_le_of_ne om;intro h;subst h;rw[Ee o f b1 b3]at A;split at A<;>cases A
 rw[Di o e f b1 L b3]at A;injection A with hs d g
 have w:=Di 0 e f om L b3;by_cases E:e=0
 .subst E;simp only[if_true]at d g w;subst d g;have F:double.read (o*9223372036854775808+0*4503599627370496+f)=.number s f (-1074):=by
   rw[Di o 0 f b1 om b3];simp[hs]
  obtain⟨r,q,l,t,b,R,S,B⟩:=Q5 F eE om om f (-1022) om om om (by
   rw[show((-1074:Int)+0+1074).toNat=0 from by decide,show((-1022:Int)+1074).toNat=52 from by decide,Nat.mul_one])
  rw[show((-1022:Int)+1074).toNat=52 from by decide]at B;have C:r<18446744073709551616:=by
   have:=floatBits_wf t;simpa[Lit.wf]using this
  obtain⟨n,e',f',u,d1,d2,d3⟩:=fields r C;have H:e'<2047:=by
   apply Nat.lt_of_le_of_ne om;intro h;rw[u,h,Ee n f' d1 d3]at b;split at b<;>cases b
  rw[u,Di n e' f' d1 H d3]at b;injection b with g1 g2 g3
  have I:e'≠0:=by
   intro h;subst h;simp only[if_true]at g2 g3;subst g2 g3;rw[show((-1074:Int)+1074).toNat=0 from by decide,Nat.mul_one]at B;omega
  rw[Cs I]at g2 g3;subst g2 g3;rw[Bool.xor_false]at g1;obtain⟨c,hc⟩:∃c:Nat,c=((e':Int)-1075+1074).toNat:=⟨_,rfl⟩;rw[<-hc]at B;have M:c<=52:=by
   apply Nat.le_of_not_lt;intro K;have p1:2^53<=2^c:=AaP om K;have p2:(4503599627370496+f')*2^53<=(4503599627370496+f')*2^c:=Nat.mul_le_mul_left _ p1;omega
  have hj:4503599627370496+f'=f*2^(52-c):=by
   have e1:2^52=2^(52-c)*2^c:=by rw[<-Aam];congr 1;omega
   rw[e1,<-Re]at B;exact Aab (OK c) B
  obtain⟨t1,t2,t3⟩:=Oj r n e' f' u d1 om d3;have D:(double.order f 4503599627370496==some .lt)=true:=by
   have a:double.read f=.number false f (-1074):=by simpa using w
   rw[BG a Pj om om,IW,Cf,Cf];simp;omega
  refine⟨f,r,e',_,_,-52,52-c,om,om,om,?_,?_,.inr ⟨rfl,t,D⟩,t1,t2,t3,?_,?_,?_,?_⟩
  .have:=Mr o 0 f b1 om b3;simpa using this
  .have a:double.read f=.number false f (-1074):=by simpa using w
   exact JH a om om om
  .rw[Di n 1022 f' d1 om d3,Cs om,g1,hj];rfl
  .rw[iM];omega
  .rw[<-hj];omega
  omega
 rw[Cs E]at d g w;rw[Cs E]at w;subst d g;obtain⟨t1,t2,t3⟩:=Oj _ o e f rfl b1 om b3;have a:double.read (e*4503599627370496+f)=.number false (4503599627370496+f) ((e:Int)-1075):=by simpa using w
 refine⟨e*4503599627370496+f,_,e,_,_,0,0,om,om,om,Mr o e f b1 b2 b3,?_,.inl ⟨rfl,rfl,?_⟩,t1,t2,t3,?_,?_,?_,?_⟩
 .exact JH a om om om
 .rw[BG a Pj om om,IW,Cf,Cf];have p:1<=2^((e:Int)-1075+1074).toNat:=OK _;have p2:(4503599627370496+f)*1<=(4503599627370496+f)*2^((e:Int)-1075+1074).toNat:=Nat.mul_le_mul_left _ p;generalize (4503599627370496+f)*2^((e:Int)-1075+1074).toNat=v at p2;simp;omega
 .rw[Di o 1022 f b1 om b3,Cs om,hs];simp
 .rw[iM];omega
 .rw[Nat.pow_zero];omega
 omega
end Fl
end Go.Proofs.YtoobllcjfinmoaaGreatDoor
