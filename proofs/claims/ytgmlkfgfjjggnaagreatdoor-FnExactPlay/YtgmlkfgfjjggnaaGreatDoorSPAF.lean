import Derived.Test.YtgmlkfgfjjggnaaGreatDoorSPAE
set_option linter.all false
set_option maxHeartbeats 40000000
set_option maxRecDepth 100000
namespace Go.Proofs.YtgmlkfgfjjggnaaGreatDoor
open Go.Proofs.Tryz
open Go.RowKit
attribute [local go_sem] Am Aj Cx
variable {P:Program}{w w3 A w' C W W' wr:Y}{o:Oper}{a g3 l n i id g B b e bk R2 q n0 x p b' lo hi:Nat}{Q:Exit->Act->World->Prop}{t:TypeId}{c d:Dc}{K:Vl->Prop}{f:Nat->Option Addr}{xs:List Value}{v r0 r1 u v0 v1 v2:V9}{E S:Nat->Nat}{M:Nat->Prop}{k:Vl}{hf:Vl->Nat}
theorem Ma(w:Y)(t ty e:TypeId)(i:TypeInfo)(b:P.underlying t=some (.slice e))(hi:P.info? e=some i)(a:T9)(c:Nat):
  (Builtin.append_ #[t,t] ty #[N9,.slice a 0 c]).run P w=.ok (N9) w:=by
 cases a<;>simp[Builtin.append_,run_underlying b,sizeOf,typeInfo,hi,Builtin.lenOf,Builtin.firstCells,loadCells,loadCellsFrom]
theorem TZ(w:Y):w.grownBy w none:=⟨rfl,rfl,rfl,Be _,fun _ _ _=>rfl⟩
theorem L9(w:Y)(t ty:TypeId)(base:Nat)(e:TypeId)(i:TypeInfo)(Z:V9)(size bytes:Nat)(p:P.underlying t=some (.slice e))(hi:P.info? e=some i)(hz:i.zero=some Z)
  (b:i.size=size) (k:i.bytes=bytes) (l:Z.cells.size=size) (n:0<size)
  (o:T9) (m c:Nat) (news:List Value) (hl:news.length=m*size) (d:m=0\/∃h,o=some h/\∀j u,news[j]?=some u->w.cell? (h.add j)=some u) (h1:∀u∈news,u.oneCell'=true)
  (s:m<=maxLen) (a:m*bytes<=140737488355328) (f:base<=w.heap.size) (H:Nat) (v:w.heap.size=H):
  ∃a' cap w',(Builtin.append_ #[t,t] ty #[N9,.slice o m c]).run P w=.ok (.slice a' m cap) w'/\
   w'.ownsRow base e size (.slice a' m cap) m news/\w.grownBy w' none/\(∀q,(Value.slice a' m cap).ownBlock=some q->q=H):=by
 rcases W0 m with h0|h0
 ·subst h0;have hn:news=[]:=List.eq_nil_of_length_eq_zero (by rw[hl];simp);subst hn;exact⟨none,0,w,Ma w t ty e i p hi o c,IF _ _ _ _,TZ w,fun q e=>by cases e⟩
 ·obtain⟨h,rfl,hn⟩:=d.resolve_left oa;obtain⟨g,cap,w',r,h2,h3,h4,h5⟩:=run_append_lies (P:=P) w t ty base e i Z size bytes p hi hz b k l n (N9) 0 [] (IF _ _ _ _) h m c news hl hn h1 h0 oa (by simpa using a) f H v;simp only[Wx,W9]at r h2;exact⟨some (G g 0),cap,w',r,h2,h3,fun q e=>by cases e;exact h4.resolve_left (by simp[Value.ownBlock])⟩
theorem Iw(w:Y){o:Oper}{a:Act}{K:Act->World->Prop}{Q:Exit->Act->World->Prop}(s x:Operand)(t:TypeId)
  (A:o.op=.call {callee:=.builtin .append,args:=#[s,x],argTypes:=#[t,t]})
  (base:Nat) (e:TypeId) (i:TypeInfo) (Z:V9) (size bytes:Nat) (B:P.underlying t=some (.slice e)) (hi:P.info? e=some i) (hz:i.zero=some Z)
  (d:i.size=size) (k:i.bytes=bytes) (l:Z.cells.size=size) (n:0<size) (hs:a.eval s=N9)
  (p:T9) (m c:Nat) (news:List Value) (hx:a.eval x=.slice p m c) (hl:news.length=m*size) (f:m=0\/∃v,p=some v/\∀j u,news[j]?=some u->w.cell? (v.add j)=some u) (h1:∀u∈news,u.oneCell'=true)
  (r:m<=maxLen) (b:m*bytes<=140737488355328) (g:base<=w.heap.size) (H:Nat) (C:w.heap.size=H)
  (h:∀a' cap w',w'.ownsRow base e size (.slice a' m cap) m news->w.grownBy w' none->(∀q,(Value.slice a' m cap).ownBlock=some q->q=H)->K (a.put o.dst (.slice a' m cap)) w'):o.wp P a w K Q:=by
 obtain⟨a',cap,w',D,h2,h3,h4⟩:=L9 (P:=P) w t o.type base e i Z size bytes B hi hz d k l n p m c news hl f h1 r b g H C;unfold Oper.wp execOp;simp only[A,resolve,invoke,builtin,AaR,Sem.run_pure,Result.andThen_ok,List.map_toArray,List.map_cons,List.map_nil,hs,hx,D];exact h a' cap w' h2 h3 h4
theorem Cz{ops:Array Oper}{rest:List Oper}{a:Act}(k:o.guard=none)(s x:Operand)(t:TypeId)
  (B:o.op=.call {callee:=.builtin .append,args:=#[s,x],argTypes:=#[t,t]})
  (base:Nat) (e:TypeId) (i:TypeInfo) (Z:V9) (size bytes:Nat) (C:P.underlying t=some (.slice e)) (hi:P.info? e=some i) (hz:i.zero=some Z)
  (d:i.size=size) (l:i.bytes=bytes) (n:Z.cells.size=size) (p:0<size) (hs:a.eval s=N9)
  (r:T9) (m c:Nat) (news:List Value) (hx:a.eval x=.slice r m c) (hl:news.length=m*size) (f:m=0\/∃A,r=some A/\∀j u,news[j]?=some u->w.cell? (A.add j)=some u) (h1:∀u∈news,u.oneCell'=true)
  (v:m<=maxLen) (b:m*bytes<=140737488355328) (g:base<=w.heap.size) (H:Nat) (D:w.heap.size=H)
  (h:∀a' cap w',w'.ownsRow base e size (.slice a' m cap) m news->w.grownBy w' none->(∀q,(Value.slice a' m cap).ownBlock=some q->q=H)->wpList P ops Q rest (a.put o.dst (.slice a' m cap)) w'):wpList P ops Q (o::rest) a w:=
 wpList_plain k fun _ hK=>Iw w s x t B base e i Z size bytes C hi hz d l n p hs r m c news hx hl f h1 v b g H D fun a' cap w' h2 h3 h4=>hK _ _ (h a' cap w' h2 h3 h4)
theorem Gx(w:Y){ops:Array Oper}{o:Oper}{a:Act}{K:Act->World->Prop}{Q:Exit->Act->World->Prop}{E:Prop}(k:o.guard=none)(s x:Operand)(t:TypeId)
  (B:o.op=.call {callee:=.builtin .append,args:=#[s,x],argTypes:=#[t,t]})
  (base:Nat) (e:TypeId) (i:TypeInfo) (Z:V9) (size bytes:Nat) (C:P.underlying t=some (.slice e)) (hi:P.info? e=some i) (hz:i.zero=some Z)
  (d:i.size=size) (l:i.bytes=bytes) (n:Z.cells.size=size) (p:0<size) (hs:a.eval s=N9)
  (r:T9) (m c:Nat) (news:List Value) (hx:a.eval x=.slice r m c) (hl:news.length=m*size) (f:m=0\/∃A,r=some A/\∀j u,news[j]?=some u->w.cell? (A.add j)=some u) (h1:∀u∈news,u.oneCell'=true)
  (v:m<=maxLen) (b:m*bytes<=140737488355328) (g:base<=w.heap.size) (H:Nat) (D:w.heap.size=H)
  (h:∀a' cap w',w'.ownsRow base e size (.slice a' m cap) m news->w.grownBy w' none->(∀q,(Value.slice a' m cap).ownBlock=some q->q=H)->K (a.put o.dst (.slice a' m cap)) w'):
  if Region.wanted o (yielded ops a.tmps)=true then Oper.wp P o a w K Q else E:=by
 have F:Region.wanted o (yielded ops a.tmps)=true:=by simp[Region.wanted,k]
 rw[DD F];exact Iw w s x t B base e i Z size bytes C hi hz d l n p hs r m c news hx hl f h1 v b g H D h
abbrev XC(g a:Nat):Ad:=⟨some (G g 0),a,none,0,none,0,none,0⟩
theorem Wr{t:Tb}(hb:bare t.d)(a g b:Nat)(r:Int)(v:Vl):CA a (XC g b) (Ej t r v)=.agg #[S9 g (t.nv+1) b,N9,N9,N9,J 0,J 0,J 0,Q9 a]:=by
 obtain⟨h1,h2,h3,h4,h5,c⟩:=hb;show Value.agg #[S9 g (t.nv+1) b,.slice none t.d.n 0,.slice none t.d.m 0,.slice none t.d.x 0,J t.d.used,J t.d.live,J t.d.turns,Q9 a]=_;rw[h1,h2,h3,h4,h5,c]
theorem Wq(p l:Nat)(A:Ad)(t:Tb)(r:Int)(v:Vl)(w:Y)(hV:I4 w A.va t.nv t.V)(hn:t.nv<=12)(hb:bare t.d):
  C9 260 #[CA p A t,Q9 l,Gf v] w fun e w'=>(∃g cp,w.heap.size<=g/\e=.returned (CA l (XC g cp) (Ej t r v))/\Cp w' w.heap.size (S9 g (t.nv+1) cp) (t.nv+1) (AY t.V t.nv v))/\B9 w w':=by
 obtain⟨i0,P,Q,R,S⟩:=P9 IK;obtain⟨W,M⟩:∃W,W=((w.alloc (.cells #[.slice A.va t.nv A.vc,.slice A.la t.d.n A.lc,.slice A.ia t.d.m A.ic,.slice A.xa t.d.x A.xc,J t.d.used,J t.d.live,J t.d.turns,Q9 p] 236)).alloc (.cells (ow v) 43)).alloc (.cells Cc 236):=⟨_,rfl⟩;have I:B9 w W:=by rw[M];exact((n9).alloc od _).alloc oe _
 have T:W.heap.size=w.heap.size+1+1+1:=by rw[M];simp
 have x0:W.cell? (y w 0)=some (.slice A.va t.nv A.vc):=by rw[M];simp[go_sem]
 have b1:W.heap[w.heap.size+1]?=some (.cells (ow v) 43 (0,0)):=by
  rw[M];refine(DO _ _ _ od).trans ?_;have h1:=BE (w.alloc (.cells #[.slice A.va t.nv A.vc,.slice A.la t.d.n A.lc,.slice A.ia t.d.m A.ic,.slice A.xa t.d.x A.xc,J t.d.used,J t.d.live,J t.d.turns,Q9 p] 236)) (.cells (ow v) 43);simpa using h1
 have b2:W.heap[w.heap.size+1+1]?=some (.cells Cc 236 (0,0)):=by
  rw[M];have h1:=BE ((w.alloc (.cells #[.slice A.va t.nv A.vc,.slice A.la t.d.n A.lc,.slice A.ia t.d.m A.ic,.slice A.xa t.d.x A.xc,J t.d.used,J t.d.live,J t.d.turns,Q9 p] 236)).alloc (.cells (ow v) 43)) (.cells Cc 236);simpa using h1
 have ai:Hid (t.nv=0\/∃ad,A.va=some ad/\∀j u,(Oa t.V t.nv)[j]?=some u->W.cell? (ad.add j)=some u):=O (by
  rcases hV with h|⟨vb,off,aj,ak,ao⟩
  ·exact .inl h
  ·exact .inr ⟨_,aj,I4.news (w:=W) (fun i hi=>(ao i hi).keep (fun q=>I.cell (p:=(G vb q)) ak))⟩)
 have U:=O (And.intro b1 b2);have aq:=O I;have ar:=O hb;clear b1 b2 I hV hb
 go_enter func260,ntmps260
 go_upto_region 2 with(at_builtin;rw[<-M];refine Cz rfl _ _ 89 rfl w.heap.size 43 i0 (V 0 0 0 ⟨#[]⟩ 0) 5 48 underlying89 P Q R S rfl oc rfl A.va t.nv A.vc (Oa t.V t.nv) rfl (G7 _ _) ai (Mu _ _) (by unfold maxLen;omega) oa oa (w.heap.size+1+1+1) T ?_;intro a3 E w3 o a s)
 have hb:=z aq;have c:B9 w w3:=⟨a.os.trans hb.os,a.tape.trans hb.tape,a.output.trans hb.output,GO hb.size a.size,fun k hk=>(a.block k (At hk hb.size) od).trans (hb.block k hk)⟩;have z3:=a.size;have c1:=(a.block (w.heap.size+1) oa od).trans U.1;have c2:=(a.block (w.heap.size+1+1) oa od).trans U.2;have l1:=Ah c1;have l2:=Ah c2;have y0:w3.cell? (Y9 w 0)=some (J v.kind):=by simp[World.cell?,c1]
 have y1:w3.cell? (Y9 w 1)=some (J v.num):=by simp[World.cell?,c1]
 have y2:w3.cell? (Y9 w 2)=some (F9 v.Ag):=by simp[World.cell?,c1]
 have y3:w3.cell? (Y9 w 3)=some (.string v.str):=by simp[World.cell?,c1]
 have y4:w3.cell? (Y9 w 4)=some (J v.ref):=by simp[World.cell?,c1]
 have X:∀q,(Value.slice a3 t.nv E).ownBlock=some q->w.heap.size+1+1<q:=fun q e=>by rw[s q e];omega
 have au:=O c;have av:=O o;have aw:=O c2;have K:=O X;have a6:w.heap.size<=w3.heap.size:=oa;clear a o s hb c c1 c2 X z3 T;have Z:Hid (∀g4 b w4,w4.ownsRow w.heap.size 43 5 (S9 g4 (t.nv+1) b) (t.nv+1) (Oa t.V t.nv++Kx v)->(w3.alloc (.cells (Kx v).toArray 43)).grownBy w4 (Value.ownBlock (.slice a3 t.nv E))->(Value.ownBlock (.slice a3 t.nv E)=some g4\/g4=w3.heap.size+1)->
   (∃L,(Instr.storeAt 236 (Q9 (w.heap.size+1+1)) (.agg #[S9 g4 (t.nv+1) b,N9,N9,N9,J 0,J 0,J 0,Q9 l])).run prog w4=.ok () L/\Bn w4 L (w.heap.size+1+1) #[S9 g4 (t.nv+1) b,N9,N9,N9,J 0,J 0,J 0,Q9 l] 236/\
   w.heap.size<=g4/\Cp L w.heap.size (S9 g4 (t.nv+1) b) (t.nv+1) (AY t.V t.nv v)/\B9 w L)):=O (by
  intro g4 b w4 h1 h2 h3;have ae:w.heap.size+1+1<g4:=h3.elim (fun e=>K g4 e) (fun e=>oa);have c2:w4.heap[w.heap.size+1+1]?=some (.cells Cc 236 (0,0)):=(h2.block _ oe (fun e=>oj (z K _ e.symm))).trans ((DO _ _ _ l2).trans aw);obtain⟨L,k1,k2⟩:=BM (t:=236) (v:=.agg #[S9 g4 (t.nv+1) b,N9,N9,N9,J 0,J 0,J 0,Q9 l]) (vs:=[S9 g4 (t.nv+1) b,N9,N9,N9,J 0,J 0,J 0,Q9 l]) (old:=Cc.toList) Ee c2 rfl rfl (by simp[Value.oneCell']) rfl;refine⟨L,k1,k2,oa,?_,?_⟩
  ·rw[Tk]at h1;exact Ae h1 (fun q e=>k2.other q (by cases e;show g4≠_;omega))
  ·have c:=z au;refine k2.below (B:=w.heap.size) ⟨h2.os.trans c.os,h2.tape.trans c.tape,h2.output.trans c.output,GO c.size (GO od h2.size),fun k hk=>?_⟩ oa;exact(h2.block k oe (fun e=>oj (z K _ e.symm))).trans ((DO _ _ _ oa).trans (c.block k hk)))
 go_wp2_with (first|(at_builtin;refine Aab _ rfl _ _ 89 rfl w.heap.size 43 i0 (V 0 0 0 ⟨#[]⟩ 0) 5 48 underlying89 P Q R S rfl oc (.slice a3 t.nv E) t.nv (Oa t.V t.nv) rfl (On av _) (y w3 0) 1 1 (Kx v) rfl rfl (H8 (BE w3 _)) (by simp[Kx,Value.oneCell']) oc (by unfold maxLen;omega) oa oe (w3.heap.size+1) od ?_;intro g4 b w4 C F D aM;obtain⟨L,H,af,ae,ag,ah⟩:=z Z g4 b w4 C F D;have ax:=O H;have f:=O af;have ay:=O ag;have az:=O ah;clear C F D H af ag ah)|(refine Ai rfl rfl _ ax ?_)|go_in)
 have e0:=Ab f 0 _ rfl;have e1:=Ab f 1 _ rfl;have e2:=Ab f 2 _ rfl;have e3:=Ab f 3 _ rfl;have e4:=Ab f 4 _ rfl;have e5:=Ab f 5 _ rfl;have e6:=Ab f 6 _ rfl;have e7:=Ab f 7 _ rfl;refine E1 (v:=.agg #[S9 g4 (t.nv+1) b,N9,N9,N9,J 0,J 0,J 0,Q9 l]) (by simp[results,results260,go_sem,e0,e1,e2,e3,e4,e5,e6,e7]) rfl ⟨⟨g4,b,ae,by rw[Wr (z ar)],ay⟩,az⟩
theorem AZ.E7{Z:Nat->Prop}{w1 X:Y}{c B0:Nat}{vN vT vS vU:V9}{Bk B':Nat->Nat}{A:Nat->Ad}{s:AK}{F':Nat->A3}{r:Nat}(h:AZ Z w c B0 vN vT vS vU Bk A s)
  (o:P4 B0 w w1) (D:∃W M,Cn w1 F' B0 (s.nf+1) B' W M/\∀i,i<s.nf+1->W i=i) (L:B' s.nf=r) (K:∀i,i<s.nf->B' i=Bk i) (p:B9 w1 X) (d:X.grownBy w3 vN.ownBlock)
  (g:w3.ownsRow B0 163 1 (.slice (some (G g3 0)) (s.nf+1) a) (s.nf+1) (ptrs Bk s.nf++[.pointer (some (G r 0))])) (l:vN.ownBlock=some g3\/w.heap.size<=g3) (E:∀i,i<s.nt->(s.T i).shape=-1\/∃j:Nat,(s.T i).shape=j/\j<s.nf):
  w3.heap[c]?=some (.cells #[vN,vT,vS,vU] 198 (0,0))/\AZ Z (w3.setCell (G c 0) (.slice (some (G g3 0)) (s.nf+1) a)) c B0 (.slice (some (G g3 0)) (s.nf+1) a) vT vS vU B' A {s with nf:=s.nf+1,F:=F'}/\Br (Au B0 c vN vT vS w) w (Au B0 c (.slice (some (G g3 0)) (s.nf+1) a) vT vS (w3.setCell (G c 0) (.slice (some (G g3 0)) (s.nf+1) a))) (w3.setCell (G c 0) (.slice (some (G g3 0)) (s.nf+1) a)):=by
 obtain⟨W,M,hN,hid⟩:=D;have k1:∀q,q<w.heap.size->(q<B0\/¬D7 208 w q)->w1.heap[q]?=w.heap[q]?:=fun q hq hn=>o.block q hq hn;have k3:∀q,q<w1.heap.size->vN.ownBlock≠some q->w3.heap[q]?=w1.heap[q]?:=fun q hq hn=>(d.block q (At hq p.size) (fun e=>hn e.symm)).trans (p.block q hq);have f:∀q,q<w.heap.size->(q<B0\/¬D7 208 w q)->vN.ownBlock≠some q->w3.heap[q]?=w.heap[q]?:=fun q hq hn P=>(k3 q (At hq o.size) P).trans (k1 q hq hn);have v:=(f c h.lt (.inr h.FZ) (h.A9 h.n oc)).trans h.BB;have B:=(k1 c h.lt (.inr h.FZ)).trans h.BB;have C:∀k,k≠c->(w3.setCell (G c 0) (.slice (some (G g3 0)) (s.nf+1) a)).heap[k]?=w3.heap[k]?:=fun k hk=>A0 _ _ _ _ (by exact hk);have H:g3≠c:=fun e=>by
  rcases l with h1|h1
  ·exact h.A9 h.n oc (e▸h1)
  ·have:=h.lt;omega
 refine⟨v,h.next ⟨d.os.trans (p.os.trans o.os),d.tape.trans (p.tape.trans o.tape),d.output.trans (p.output.trans o.output)⟩ (by have:=p.size;have:=d.size;have:=o.size;simp;omega)
  (fun k I hk=>(C k (fun e=>hk (.inl e))).trans (f k I ?_ (fun e=>hk (.inr (.inl e))))) (fun k e=>by cases e;exact l) (fun _ e=>.inl e) (fun _ e=>.inl e) ((Is _ _ _ _ _ _ v).trans od) ?_ ⟨W,M,hN.keep (fun b hn=>?_),hid⟩ ?_
  (Ae h.si (fun q e=>(C q (fun e'=>h.A9 h.si oc (e'▸e))).trans (f q (h.si.lt q e).2 (.inr (DB h.si oc e)) (BV h.si h.n oc e)))) h.u (fun i hi=>.inl (h.rd i hi))⟩
 ·by_cases hb:k<B0
  ·exact .inl hb
  ·exact .inr (fun hn=>hk (.inr (.inr (.inr (.inr ⟨oa,hn⟩)))))
 ·rw[PL K L]at g;exact Ae g (fun q e=>C q (by cases e;exact H))
 ·have hbc:b≠c:=fun e=>by
   subst e;rcases hn with⟨x,hx⟩|⟨es,x,hx⟩
   ·rw[B]at hx;cases hx
   ·rw[B]at hx;cases hx
  refine(C b hbc).trans (k3 b (Ib hn) (fun e=>?_));have m:=DB h.n oc e;have e1:=k1 b (h.n.lt b e).2 (.inr m);unfold D7 at hn m;rw[e1]at hn;exact m hn
 ·have e:kL B' A {s with nf:=s.nf+1,F:=F'} s.nt=kL Bk A s s.nt:=Nh (fun i hi=>by
   show AG B' (A i) (s.T i)=AG Bk (A i) (s.T i);unfold AG;rcases E i hi with e|⟨j,e,hj⟩
   ·rw[DD e,DD e]
   ·rw[C3 oa,C3 oa,e,show((j:Int)).toNat=j by omega,K j hj])
  show World.ownsRow _ _ _ _ _ _ (kL B' A {s with nf:=s.nf+1,F:=F'} s.nt);rw[e];exact Ae h.t (fun q e=>(C q (fun e'=>h.A9 h.t oc (e'▸e))).trans (f q (h.t.lt q e).2 (.inr (DB h.t oc e)) (BV h.t h.n oc e)))
def US(Z:Nat->Prop)(c B0:Nat)(vN vT vS vU:V9)(Bk:Nat->Nat)(A:Nat->Ad)(s:AK)(k:Nat)(key:ByteArray)(w:Y)(e:Ending)(w':Y):Prop:=
 (ER s.nf s.F k key=-1/\e=.returned (.pointer none)/\AZ Z w' c B0 vN vT vS vU Bk A s/\Br (Au B0 c vN vT vS w) w (Au B0 c vN vT vS w') w')\/
 (∃r:Nat,ER s.nf s.F k key=r/\∃a B',e=.returned (Q9 (B' r))/\AZ Z w' c B0 a vT vS vU B' A {s with nf:=E7 s.nf s.F k key,F:=Fz s.nf s.F k key}/\Br (Au B0 c vN vT vS w) w (Au B0 c a vT vS w') w')
theorem XD(Z:Nat->Prop)(c B0:Nat)(vN vT vS vU:V9)(Bk:Nat->Nat)(A:Nat->Ad)(s:AK)(k:Nat)(key:ByteArray)(w:Y)(I:AZ Z w c B0 vN vT vS vU Bk A s)(hf:Ax s.nf s.F=0)(hk:k<s.nf)(V:key.size<=4000)(L:∀i,i<s.nt->(s.T i).shape=-1\/∃j:Nat,(s.T i).shape=j/\j<s.nf):
  C9 259 #[Q9 c,Q9 (Bk k),.string key] w fun e w'=>US Z c B0 vN vT vS vU Bk A s k key w e w':=by
 obtain⟨h1,h2,h3,h4,h5⟩:=AB hf;obtain⟨x,nc,rfl⟩:=Ay I.n;obtain⟨X,M,hN,hid⟩:=I.nd;have W:=I.lt;have c0:=I.cells.1;have aq:s.nf<=200:=h1.2;have S:=O (QU w s.F B0 s.nf Bk X M hN hid h1 h2 h3 h4 k hk key V);have U:=O I;have ad:=O L;have B:=O h4;clear I hN hid h1 h2 h3 h4 h5 hf L
 go_enter func259,ntmps259
 go_wp2_with fail
 refine S.mono ?_;rintro e w1 (⟨j,hj,rfl,hb⟩|⟨f,h,rfl,hb⟩|⟨f,l,E,r,B',N',M',rfl,H,m,C,P,K⟩)
 ·have HE:Hid (∀q,US Z c B0 (.slice x s.nf nc) vT vS vU Bk A s k key w (.returned (Q9 (Bk j))) (w1.drewN q)):=O (fun q=>by
   obtain⟨e1,e2,e3⟩:=JY B (.inl ⟨j,hj,rfl,rfl,rfl⟩);obtain⟨m1,d1⟩:=U.below (w':=w1.drewN q) ⟨hb.os,hb.tape,hb.output,hb.size,hb.block⟩;refine .inr ⟨j,e3.symm,_,Bk,rfl,?_,d1⟩;rw[<-e1,<-e2];exact m1)
  have ae:j<s.nf:=hj.2.1;obtain⟨m1,d1⟩:=U.below hb;obtain⟨l1,n1,_⟩:=I2.cell m1.nd ae;have y0:=m1.cells.1;have lc:=m1.lt;have d0:((j:Int)==(s.nf:Int))=false:=oe;clear m1 d1 hb hj S;go_wp2_with fail
  go_quiet (fail)
  go_wp2;exact E1 (v:=Q9 (Bk j)) (by simp[results,results259,go_sem]) rfl (HE _)
 ·have HE:Hid (∀q,US Z c B0 (.slice x s.nf nc) vT vS vU Bk A s k key w (.returned (.pointer none)) (w1.drewN q)):=O (fun q=>by
   obtain⟨e1,e2,e3⟩:=JY B (.inr (.inl ⟨f,h,rfl,rfl,rfl⟩));obtain⟨m1,d1⟩:=U.below (w':=w1.drewN q) ⟨hb.os,hb.tape,hb.output,hb.size,hb.block⟩;exact .inl ⟨e3.symm,rfl,m1,d1⟩)
  clear hb f h S;go_wp2_with fail
  go_quiet (fail)
  go_wp2;exact E1 (v:=.pointer none) (by simp[results,results259,go_sem]) rfl (HE _)
 ·obtain⟨i0,af,ag,ah,ai⟩:=P9 Vk;have b:=z U;have Q:w1.heap[c]?=w.heap[c]?:=K.block c W (.inr b.FZ);have d:=Q.trans b.BB;have y0:w1.cell? (G c 0)=some (.slice x s.nf nc):=by simp[World.cell?,d]
  have yf:w1.frozen? (G c 0)=false:=by simp[World.frozen?,d]
  have lc:=Ah d;obtain⟨l1,n1,_,_⟩:=Du H m (show s.nf<s.nf+1 by omega);rw[C]at l1 n1;have ar:r<w1.heap.size:=ID _ _ l1;have d0:((s.nf:Int)==(s.nf:Int))=true:=od;have au:B0<=w1.heap.size:=GO b.base K.size;have aj:Hid (∀q o,((w1.drewN q).alloc o).ownsRow B0 163 1 (.slice x s.nf nc) s.nf (ptrs Bk s.nf)):=O (fun q o=>by
   have h1:w1.ownsRow B0 163 1 (.slice x s.nf nc) s.nf (ptrs Bk s.nf):=Ae b.n (fun g e=>K.block g (b.n.lt g e).2 (.inr (DB b.n oc e)));exact On (Ae h1 (w':=w1.drewN q) (fun _ _=>rfl)) o)
  have HF:Hid (∀q g3 p w3,w3.ownsRow B0 163 1 (S9 g3 (s.nf+1) p) (s.nf+1) (ptrs Bk s.nf++[Q9 r])->((w1.drewN q).alloc (.cells #[Q9 r] 163)).grownBy w3 (Value.ownBlock (.slice x s.nf nc))->(Value.ownBlock (.slice x s.nf nc)=some g3\/g3=w1.heap.size+1)->
    w3.cell? (G c 0)=some (.slice x s.nf nc)/\w3.frozen? (G c 0)=false/\c<w3.heap.size/\US Z c B0 (.slice x s.nf nc) vT vS vU Bk A s k key w (.returned (Q9 r)) (w3.setCell (G c 0) (S9 g3 (s.nf+1) p))):=O (by
   intro q g3 p w3 a1 a2 a3;have hX:B9 w1 ((w1.drewN q).alloc (.cells #[Q9 r] 163)):=Below.alloc (a:=w1) (w:=w1.drewN q) ⟨rfl,rfl,rfl,Be _,fun _ _=>rfl⟩ (Be _) _;obtain⟨b1,b2,b3⟩:=b.E7 K ⟨N',M',H,m⟩ C P hX a2 a1 (a3.imp id (fun e=>oj K.size)) ad;refine⟨by simp[World.cell?,b1],by simp[World.frozen?,b1],Ah b1,.inr ⟨s.nf,?_,_,B',by rw[C],?_,b3⟩⟩
   ·obtain⟨e1,e2,e3⟩:=JY B (.inr (.inr ⟨f,l,E,rfl,rfl,rfl⟩));exact e3.symm
   ·obtain⟨e1,e2,e3⟩:=JY B (.inr (.inr ⟨f,l,E,rfl,rfl,rfl⟩));rw[<-e1,<-e2];exact b2)
  clear f l E H m C P K b Q d S n1;go_wp2_with fail
  go_quiet (fail)
  go_wp2_with (at_builtin;refine Aab _ rfl _ _ 115 rfl B0 163 i0 (.pointer none) 1 8 underlying115 af ag ah ai rfl oc (.slice x s.nf nc) s.nf (ptrs Bk s.nf) rfl (aj _ _) (y w1 0) 1 1 [Q9 r] rfl rfl (H8 (BE _ _)) (by simp[Value.oneCell']) oc (by unfold maxLen;omega) oa oe (w1.heap.size+1) od ?_;intro g3 p w3 t D u ao;obtain⟨x3,f3,l3,R⟩:=z HF _ g3 p w3 t D u;have ak:=O R;clear t D u R)
  exact E1 (v:=Q9 r) (by simp[results,results259,go_sem]) rfl ak
section
open Go.RowKit Go.Shelf
section
variable {P:Program} {ops:Array Oper} {md:Region.Mode}
theorem Tp{a:Act}{K i:Act->World->Prop}(k:∀c,o.op≠.defer c)(h:∀a w,K a w->i a w)(b:o.wp P a w K (QN Q)):o.wpIn (Fence.wide.inRound l) n P a w i Q:=by
 unfold Oper.wp at b;refine⟨fun _ _=>trivial,?_⟩;show o.uponIn (Fence.wide.inRound l) n P a i Q ((o.semAt (some l) a.eval).run P w);rw[Oper.semAt_some l _ _ k];generalize (execOp a.eval o).run P w=r at*;cases r with
 |ok x w'=>
  cases x<;>simp only[Oper.upon]at b<;>simp only[Oper.uponIn]
  case value u=>exact h _ _ b
  case skip=>exact h _ _ b
  case defer d=>exact h _ _ b
  case enter f args=>
   refine⟨fun b=>(by cases b),CallsIn.inRound l (Aac.2 (b.mono fun e g j=>?_))⟩;cases e with
   |returned v=>exact h _ _ j
   |panicked c=>exact False.elim j
   |outgrown=>exact absurd j QN.no
  case row row args=>
   refine⟨fun b=>(by cases b),fun c cs m=>?_⟩;obtain⟨v,g,r,s⟩:=b c cs;exact⟨v,g,h _ _ r,stepsIn_wide.2 s⟩
 |halt x w'=>cases x<;>simp only[Oper.upon]at b<;>exact False.elim b
theorem Mf{a:Act}{K d:Act->World->Prop}(e:FY ops=true)(h:∀a w,K a w->d a w)(hh:wpOp P ops (QN Q) i K a w):wpOpIn (Fence.wide.inRound l) n P ops Q i d a w:=by
 unfold wpOp at hh;unfold wpOpIn
 split
 ·rename_i b;simp only[b]at hh;exact h _ _ hh
 ·rename_i o b
  simp only[b]at hh
  split
  ·rename_i c
   simp only[c,Aaw]at hh;rcases hh with hh|hh
   ·exact Tp (Ka e b) h hh
   ·exact absurd hh.2 QN.no
  ·rename_i c;simp only[c]at hh;exact⟨fun _ _=>trivial,h _ _ hh⟩
theorem Hj(b:FY ops=true):∀(fuel:Nat) (listed:Array Bool) (a:Act) (w:Y),wpAny P md ops (QN Q) fuel listed a w->wpAnyIn (Fence.wide.inRound l) n P md ops Q fuel listed a w
 |0,_,_,_,h=>h
 |fuel+1,_,_,_,h=>⟨h.1,fun i hi=>Mf b (fun a' w' h'=>Hj b fuel _ a' w' h') (h.2 i hi)⟩
theorem Od{a:Act}(S:World->Prop)(b:P.follows .mixedOrders=true)(c:FY ops=true)(h:wpAnyH P .any ops (QN Q) S ops.size (Array.replicate ops.size false) a {w with drawn:=w.drawn+1}):(Code.region id ops true).wpIn (Fence.wide.inRound l) n P Q a w:=
 wpIn_region_any b (Hj c _ _ _ _ (wpAny_of_held _ _ _ _ h))
theorem Oe{a:Act}(S:World->Prop)(b:P.follows .mixedOrders=true)(h:wpAnyH P .any ops (QN Q) S ops.size (Array.replicate ops.size false) a {w with drawn:=w.drawn+1}):(Code.region id ops true).wpIn Fence.wide n P Q a w:=
 wpIn_wide.2 (Dh S b h)
end
end
def Gd(f:Nat->Option Addr):Nat->List Value
 |0=>[]
 |k+1=>Gd f k++[.pointer (f k)]
theorem CM(f:Nat->Option Addr)(n:Nat):(Gd f n).length=n:=by
 induction n with
 |zero=>rfl
 |succ n ih=>simp[Gd,ih]
theorem Kd(hi:i<n):(Gd f n)[i]?=some (.pointer (f i)):=by
 induction n with
 |zero=>omega
 |succ n ih=>
  show(Gd f n++[.pointer (f n)])[i]?=_;by_cases h:i<n
  ·rw[Aaf (by rw[CM];omega),ih h]
  ·have:i=n:=oa;subst this;rw[Aaj (by rw[CM];omega),CM];simp
theorem Mo(hl:xs.length=n)(h:∀i,i<n->xs[i]?=some (.pointer (f i))):xs=Gd f n:=by
 apply AaQ;intro q;by_cases hq:q<n
 ·rw[h q hq,Kd hq]
 ·rw[NB oa,NB (by rw[CM];omega)]
theorem K9{g:Nat->Option Addr}(h:∀i,i<n->f i=g i):Gd f n=Gd g n:=Mo (CM f n) (fun i hi=>by rw[Kd hi,h i hi])
theorem cS(f:Nat->Option Addr)(n i:Nat)(a:T9)(hi:i<n):(Gd f n).set i (.pointer a)=Gd (AP f i a) n:=by
 refine Mo (by rw[List.length_set,CM]) (fun q hq=>?_);rw[List.getElem?_set];by_cases e:i=q
 ·subst e;rw[DD rfl,DD (by rw[CM];omega),Ao]
 ·rw[C3 e,Kd hq,Af _ _ (fun e'=>e e'.symm)]
theorem SL(f:Nat->Option Addr)(n:Nat)(a:T9):Gd f n++[.pointer a]=Gd (AP f n a) (n+1):=by
 show _=Gd (AP f n a) n++[.pointer (AP f n a n)];rw[Ao,K9 (f:=AP f n a) (g:=f) (fun i hi=>Af _ _ oa)]
theorem Zi(f:Nat->Option Addr)(n j:Nat)(h:j<=n):(Gd f n).take j=Gd f j:=by
 refine Mo (by rw[List.length_take,CM];omega) (fun q hq=>?_);rw[AaG,DD hq,Kd oa]
abbrev C1:TypeId:=292
abbrev Te:TypeId:=331
abbrev Rw(w:Y)(B:Nat)(t:TypeId)(v:V9)(n:Nat)(f:Nat->Option Addr):Prop:=w.ownsRow B t 1 v n (Gd f n)
theorem Rw.form(h:Rw w B t v n f)(hn:0<n):∃g a,v=S9 g n a/\B<=g/\g<w.heap.size/\n<=a/\(∀i,i<n->w.cell? (G g i)=some (.pointer (f i)))/\∀q,w.frozen? (G g q)=false:=by
 have h':=h;obtain⟨hl,⟨b,d⟩|⟨g,cap,cur,b,hb,c,h1,h2,h3,h4⟩⟩:=h'
 ·omega
 ·subst b;exact⟨g,cap,rfl,hb,(h.lt g rfl).2,h1,fun i hi=>by rw[IH h _ oa,Kd hi],fun q=>World.ownsRow.frozenAt h q⟩
theorem Rw.slice(h:Rw w B t v n f):∃a c,v=.slice a n c:=by
 obtain⟨hl,⟨b,d⟩|⟨g,cap,cur,b,_⟩⟩:=h
 ·subst d;exact⟨none,0,b⟩
 ·exact⟨_,_,b⟩
theorem Rw.set(h:Rw w B t (S9 g n b) n f){i:Nat}(hi:i<n)(a:T9):Rw (w.setCell (G g i) (.pointer a)) B t (S9 g n b) n (AP f i a):=by
 have h1:=(X9 h i (.pointer a)).1;rw[cS f n i a hi]at h1;exact h1
theorem Rw.cut(h:Rw w B t (S9 g n b) n f){j:Nat}(hj:j<=n):Rw w B t (S9 g j b) j f:=by
 obtain⟨hl,⟨c,d⟩|⟨g',cap,cur,c,hb,a,h1,h2,h3,h4⟩⟩:=h
 ·cases c
 ·cases c;refine⟨by rw[CM];omega,.inr ⟨g,b,cur,rfl,hb,a,oa,h2,h3,?_⟩⟩;have:cur.toList.take (j*1)=(cur.toList.take (n*1)).take j:=by rw[List.take_take];congr 1;omega
  rw[this,h4,Zi f n j hj]
theorem Rw.congr{g:Nat->Option Addr}(h:Rw w B t v n f)(e:∀i,i<n->g i=f i):Rw w B t v n g:=by
 show w.ownsRow _ _ _ _ _ (Gd g n);rw[K9 e];exact h
theorem CL.own{R:Nat}(h:CL w R n t f)(a:B<=R)(hn:n<=4194304):Rw w B t (S9 R n n) n f:=by
 obtain⟨g,⟨c,hb,hs,hc⟩,b⟩:=h;refine⟨by rw[CM];omega,.inr ⟨R,n,c,rfl,a,hb,Be _,by unfold maxLen;omega,oa,?_⟩⟩;refine Mo (by rw[List.length_take,Array.length_toList];omega) (fun i hi=>?_);rw[AaG,DD oa,Array.getElem?_toList,hc i hi,b i hi]
theorem A8{c e:Array Value}{t':TypeId}{fr a:Nat×Nat}(h:w.heap[b]?=some (.cells c t fr))(h':w.heap[b]?=some (.cells e t' a))(d:t≠t'):False:=by
 rw[h]at h';cases h';exact d rfl
theorem Rw.block(h:Rw w B t v n f)(e:v.ownBlock=some b):∃c,w.heap[b]?=some (.cells c t (0,0)):=by
 obtain⟨hl,⟨d,i⟩|⟨g,cap,cur,d,hb,a,_⟩⟩:=h
 ·subst d;cases e
 ·subst d;have e':g=b:=by simpa[Value.ownBlock]using e
  subst e';exact⟨cur,a⟩
structure AD (w:Y) (bk:Nat) (r0 r1:V9) (R2:Nat) (E S:Nat->Nat) (d:Dc):Prop where
 lt:bk<w.heap.size
 c0:w.cell? (G bk 0)=some r0
 c1:w.cell? (G bk 1)=some r1
 c2:w.cell? (G bk 2)=some LA
 c3:w.cell? (G bk 3)=some (S9 R2 d.x d.x)
 c4:w.cell? (G bk 4)=some (J d.used)
 c5:w.cell? (G bk 5)=some (J d.live)
 c6:w.cell? (G bk 6)=some (J d.turns)
 fz:∀q,w.frozen? (G bk q)=false
 log:Rw w (bk+1) C1 r0 d.n (fun i=>some (G (E i) 0))
 ints:Rw w (bk+1) C1 r1 d.m (fun i=>B8 E (d.I i))
 rf:∃a k1,r1=S9 a d.m k1
 slots:Rw w (bk+1) Te (S9 R2 d.x d.x) d.x (fun j=>Dj S j (d.X j))
 ap:∀q,r0.ownBlock=some q->r1.ownBlock≠some q
 Cr:∀i,i<d.n->Bl w (E i) (d.L i) i
 eb:∀i,i<d.n->bk<E i
 inj:∀i j,i<d.n->j<d.n->E i=E j->i=j
 sl:∀j,j<d.x->Dp w E S d j
 sg:∀j,j<d.x->d.X j≠0->bk<S j
theorem AD.Vv(h:Jk w bk a b R2 E S d)(s:TB w B bk a b R2 E S d)(c:Small d):AD w bk (S9 a d.n d.n) (S9 b d.m d.m) R2 E S d:=
 ⟨h.lt,s.e0,s.e1,h.c2,h.c3,h.c4,h.c5,h.c6,s.fz,s.o0.own s.g0 c.n,s.o1.own s.g1 c.m,⟨_,_,rfl⟩,s.o2.own s.g2 c.x,fun q e e'=>by
  have e1:a=q:=by simpa[Value.ownBlock]using e
  have e2:b=q:=by simpa[Value.ownBlock]using e'
  exact s.oM (e1.trans e2.symm),h.Cr,s.gE,h.inj,h.sl,fun j hj f=>Nat.lt_trans s.g2 (s.gS j hj f)⟩
theorem AD.Kh(h:AD w bk r0 r1 R2 E S d):bk<R2/\R2<w.heap.size:=h.slots.lt R2 rfl
theorem AD.book(h:AD w bk r0 r1 R2 E S d):∃k b,Jk w bk k b R2 E S d:=by
 obtain⟨b,k1,e1⟩:=h.rf;have c:=h.ints.lt b (by rw[e1];rfl);have hi:∀i,i<d.m->w.cell? (G b i)=some (.pointer (B8 E (d.I i))):=fun i hi=>by
  obtain⟨g,f,e,_,_,_,hc,_⟩:=h.ints.form oa;rw[e1]at e;cases e;exact hc i hi
 have hx:∀j,j<d.x->w.cell? (G R2 j)=some (.pointer (Dj S j (d.X j))):=fun j hj=>by
  obtain⟨g,f,e,_,_,_,hc,_⟩:=h.slots.form oa;cases e;exact hc j hj
 by_cases hn:0<d.n
 ·obtain⟨g,f,e,l,hl,_,hc,_⟩:=h.log.form hn;refine⟨g,b,h.lt,⟨_,_,by rw[h.c0,e],fun _=>rfl⟩,⟨k1,by rw[h.c1,e1]⟩,h.c2,h.c3,h.c4,h.c5,h.c6,hc,h.Cr,h.inj,hi,hx,h.sl,hl,c.2,h.Kh.2⟩
 ·obtain⟨a,f,e⟩:=h.log.slice;exact⟨bk,b,h.lt,⟨_,_,by rw[h.c0,e],fun h'=>absurd h' hn⟩,⟨k1,by rw[h.c1,e1]⟩,h.c2,h.c3,h.c4,h.c5,h.c6,fun i hi=>oa,h.Cr,h.inj,hi,hx,h.sl,h.lt,c.2,h.Kh.2⟩
theorem Dp.keep{j:Nat}(h:Dp w E S d j)(hs:w.heap.size<=w'.heap.size)(e:∀c,w.heap[S j]?=some (.cells c 333 (0,0))->w'.heap[S j]?=w.heap[S j]?):Dp w' E S d j:=
 ⟨fun a=>(h.1 a).keep hs (e _ (h.1 a).ob),fun a=>(h.2 a).keep hs (e _ (h.2 a).ob)⟩
theorem AD.below(h:AD w bk r0 r1 R2 E S d)(hb:B9 w w'):AD w' bk r0 r1 R2 E S d:=by
 have e:∀q,w'.cell? (G bk q)=w.cell? (G bk q):=fun q=>hb.cell (p:=(G bk q)) h.lt;exact⟨At h.lt hb.size,(e _).trans h.c0,(e _).trans h.c1,(e _).trans h.c2,(e _).trans h.c3,(e _).trans h.c4,(e _).trans h.c5,(e _).trans h.c6,fun q=>om hb h.lt (h.fz q),Ed h.log hb.size (fun q _ hq=>hb.block q hq),Ed h.ints hb.size (fun q _ hq=>hb.block q hq),h.rf,Ed h.slots hb.size (fun q _ hq=>hb.block q hq),h.ap,fun i hi=>(h.Cr i hi).keep hb.size (hb.block _ (h.Cr i hi).lt),h.eb,h.inj,fun j hj=>(h.sl j hj).keep hb.size (fun c hc=>hb.block _ (GC.1 hc).1),h.sg⟩
theorem AD.of_same{E':Nat->Nat}{e:Dc}(h:AD w bk r0 r1 R2 E S d)(n:e.n=d.n)(m:e.m=d.m)(x:e.x=d.x)(u:e.used=d.used)(l:e.live=d.live)(t:e.turns=d.turns)(I:∀i,i<d.m->e.I i=d.I i)(X:∀j,j<d.x->e.X j=d.X j)
  (L:∀i,i<d.n->e.L i=d.L i) (a:∀i,i<d.n->E' i=E i) (f:∀i,i<d.m->d.I i<=d.n) (g:∀j,j<d.x->d.X j<=d.n):AD w bk r0 r1 R2 E' S e:=by
 have eP:∀p:Int,p<=d.n->B8 E' p=B8 E p:=fun p c=>by
  unfold B8;by_cases b:0<p
  ·rw[DD b,DD b,a _ oa]
  ·rw[C3 b,C3 b]
 refine⟨h.lt,h.c0,h.c1,h.c2,by rw[x];exact h.c3,by rw[u];exact h.c4,by rw[l];exact h.c5,by rw[t];exact h.c6,h.fz,?_,?_,by rw[m];exact h.rf,?_,h.ap,fun i hi=>?_,fun i hi=>?_,fun i j hi hj=>?_,fun j hj=>?_,fun j hj b=>h.sg j oa (by rw[<-X j oa];exact b)⟩
 ·show w.ownsRow _ _ _ _ e.n (Gd _ e.n);rw[n];exact h.log.congr (fun i hi=>by rw[a i hi])
 ·show w.ownsRow _ _ _ _ e.m (Gd _ e.m);rw[m];exact h.ints.congr (fun i hi=>by rw[I i hi,eP _ (f i hi)])
 ·rw[x];exact h.slots.congr (fun j hj=>by rw[X j hj])
 ·rw[n]at hi;rw[a i hi,L i hi];exact h.Cr i hi
 ·rw[n]at hi;rw[a i hi];exact h.eb i hi
 ·rw[n]at hi hj;rw[a i hi,a j hj];exact h.inj i j hi hj
 ·rw[x]at hj;have hs:=h.sl j hj;unfold Dp at hs ⊢;rw[X j hj];refine⟨fun c=>?_,hs.2⟩;have hl:=g j hj;have:e.at (d.X j)=d.at (d.X j):=L _ oa;rw[this,a _ oa];exact hs.1 c
section
variable {w:Y} {bk:Nat} {r0 r1:V9} {R2:Nat} {E S:Nat->Nat} {d:Dc}
theorem AD.Dr(h:AD w bk r0 r1 R2 E S d){q:Nat}{u:V9}{g s1:V9}{Q2:Nat}{S':Nat->Nat}{e:Dc}
  (g0:(w.setCell (G bk q) u).cell? (G bk 0)=some g) (g1:(w.setCell (G bk q) u).cell? (G bk 1)=some s1) (g2:(w.setCell (G bk q) u).cell? (G bk 2)=some LA) (g3:(w.setCell (G bk q) u).cell? (G bk 3)=some (S9 Q2 e.x e.x))
  (g4:(w.setCell (G bk q) u).cell? (G bk 4)=some (J e.used)) (g5:(w.setCell (G bk q) u).cell? (G bk 5)=some (J e.live)) (g6:(w.setCell (G bk q) u).cell? (G bk 6)=some (J e.turns))
  (l:Rw w (bk+1) C1 g e.n (fun i=>some (G (E i) 0))) (i:Rw w (bk+1) C1 s1 e.m (fun i=>B8 E (e.I i))) (rf:∃o k1,s1=S9 o e.m k1) (x:Rw w (bk+1) Te (S9 Q2 e.x e.x) e.x (fun j=>Dj S' j (e.X j))) (ap:∀q,g.ownBlock=some q->s1.ownBlock≠some q)
  (en:∀i,i<e.n->Bl w (E i) (e.L i) i) (eb:∀i,i<e.n->bk<E i) (inj:∀i j,i<e.n->j<e.n->E i=E j->i=j) (sl:∀j,j<e.x->Dp w E S' e j) (k:∀j,j<e.x->e.X j≠0->bk<S' j):AD (w.setCell (G bk q) u) bk g s1 Q2 E S' e:=by
 have ob:∀b,b≠bk->(w.setCell (G bk q) u).heap[b]?=w.heap[b]?:=fun b hb=>A0 _ _ _ _ (by exact hb);have nb:∀{v:V9} {n:Nat} {f:Nat->Option Addr} {t:TypeId},Rw w (bk+1) t v n f->v.ownBlock≠some bk:=fun r e=>oj (r.lt bk e).1;have a:w.heap.size<=(w.setCell (G bk q) u).heap.size:=od;refine⟨by simpa using h.lt,g0,g1,g2,g3,g4,g5,g6,fun p=>by rw[TC];exact h.fz p,World.ownsRow.kept l (DN w _ _) (.inr (nb l)),World.ownsRow.kept i (DN w _ _) (.inr (nb i)),rf,World.ownsRow.kept x (DN w _ _) (.inr (nb x)),ap,fun i hi=>(en i hi).keep a (ob _ (oj (eb i hi))),eb,inj,fun j hj=>?_,k⟩;by_cases s:e.X j=0
 ·exact⟨fun A=>oa,fun A=>oa⟩
 ·exact(sl j hj).keep a (fun c _=>ob _ (oj (k j hj s)))
theorem AD.Km(h:AD w bk r0 r1 R2 E S d)(u:Int):AD (w.setCell (G bk 4) (J u)) bk r0 r1 R2 E S {d with used:=u}:=
 h.Dr ((Aa oc).trans h.c0) ((Aa oc).trans h.c1) ((Aa oc).trans h.c2) ((Aa oc).trans h.c3) (NX _ _ _ (by rw[h.c4];rfl)) ((Aa oc).trans h.c5) ((Aa oc).trans h.c6) h.log h.ints h.rf h.slots h.ap h.Cr h.eb h.inj h.sl h.sg
theorem AD.G3(h:AD w bk r0 r1 R2 E S d)(u:Int):AD (w.setCell (G bk 5) (J u)) bk r0 r1 R2 E S {d with live:=u}:=
 h.Dr ((Aa oc).trans h.c0) ((Aa oc).trans h.c1) ((Aa oc).trans h.c2) ((Aa oc).trans h.c3) ((Aa oc).trans h.c4) (NX _ _ _ (by rw[h.c5];rfl)) ((Aa oc).trans h.c6) h.log h.ints h.rf h.slots h.ap h.Cr h.eb h.inj h.sl h.sg
theorem AD.NV(h:AD w bk r0 r1 R2 E S d)(u:Int):AD (w.setCell (G bk 6) (J u)) bk r0 r1 R2 E S {d with turns:=u}:=
 h.Dr ((Aa oc).trans h.c0) ((Aa oc).trans h.c1) ((Aa oc).trans h.c2) ((Aa oc).trans h.c3) ((Aa oc).trans h.c4) ((Aa oc).trans h.c5) (NX _ _ _ (by rw[h.c6];rfl)) h.log h.ints h.rf h.slots h.ap h.Cr h.eb h.inj h.sl h.sg
theorem AD.Q4(h:AD w bk r0 r1 R2 E S d){u:V9}{m:Nat}{I:Nat->Int}(i:Rw w (bk+1) C1 u m (fun i=>B8 E (I i)))(rf:∃a k1,u=S9 a m k1)(ap:∀q,r0.ownBlock=some q->u.ownBlock≠some q):AD (w.setCell (G bk 1) u) bk r0 u R2 E S {d with m:=m,I:=I}:=
 h.Dr ((Aa oc).trans h.c0) (NX _ _ _ (by rw[h.c1];rfl)) ((Aa oc).trans h.c2) ((Aa oc).trans h.c3) ((Aa oc).trans h.c4) ((Aa oc).trans h.c5) ((Aa oc).trans h.c6) h.log i rf h.slots ap h.Cr h.eb h.inj h.sl h.sg
theorem AD.Zu(h:AD w bk r0 r1 R2 E S d){Q2 x:Nat}{X:Nat->Int}(i:Rw w (bk+1) Te (S9 Q2 x x) x (fun j=>Dj S j (X j)))(sl:∀j,j<x->Dp w E S {d with x:=x,X:=X} j)(sg:∀j,j<x->X j≠0->bk<S j):AD (w.setCell (G bk 3) (S9 Q2 x x)) bk r0 r1 Q2 E S {d with x:=x,X:=X}:=
 h.Dr ((Aa oc).trans h.c0) ((Aa oc).trans h.c1) ((Aa oc).trans h.c2) (NX _ _ _ (by rw[h.c3];rfl)) ((Aa oc).trans h.c4) ((Aa oc).trans h.c5) ((Aa oc).trans h.c6) h.log h.ints h.rf i h.ap h.Cr h.eb h.inj sl sg
theorem AD.row(h:AD w bk r0 r1 R2 E S d){g q:Nat}{u:V9}(c:bk<g){e:Dc}(hx:e.x=d.x)(hu:e.used=d.used)(hl:e.live=d.live)(a:e.turns=d.turns)(b:e.m=d.m)
  (l:Rw (w.setCell (G g q) u) (bk+1) C1 r0 e.n (fun i=>some (G (E i) 0))) (i:Rw (w.setCell (G g q) u) (bk+1) C1 r1 e.m (fun i=>B8 E (e.I i))) (x:Rw (w.setCell (G g q) u) (bk+1) Te (S9 R2 e.x e.x) e.x (fun j=>Dj S j (e.X j)))
  (en:∀i,i<e.n->Bl (w.setCell (G g q) u) (E i) (e.L i) i) (eb:∀i,i<e.n->bk<E i) (inj:∀i j,i<e.n->j<e.n->E i=E j->i=j) (sl:∀j,j<e.x->Dp (w.setCell (G g q) u) E S e j) (sg:∀j,j<e.x->e.X j≠0->bk<S j):AD (w.setCell (G g q) u) bk r0 r1 R2 E S e:=by
 have hc:∀p,(w.setCell (G g q) u).cell? (G bk p)=w.cell? (G bk p):=fun p=>Aq oa;exact⟨by simpa using h.lt,(hc _).trans h.c0,(hc _).trans h.c1,(hc _).trans h.c2,by rw[hx];exact(hc _).trans h.c3,by rw[hu];exact(hc _).trans h.c4,by rw[hl];exact(hc _).trans h.c5,by rw[a];exact(hc _).trans h.c6,fun p=>by rw[TC];exact h.fz p,l,i,by rw[b];exact h.rf,x,h.ap,en,eb,inj,sl,sg⟩
theorem Sj(h:Rw w B t v n f)(a:v.ownBlock≠some g):Rw (w.setCell (G g q) u) B t v n f:=World.ownsRow.kept h (DN w _ _) (.inr a)
theorem AD.Xb{k1:Nat}(h:AD w bk r0 (.slice (some (G a 0)) d.m k1) R2 E S d){i:Nat}(hi:i<d.m)(x:Int):AD (w.setCell (G a i) (.pointer (B8 E x))) bk r0 (.slice (some (G a 0)) d.m k1) R2 E S {d with I:=AP d.I i x}:=by
 have k:=h.ints.lt a rfl;obtain⟨c1,f⟩:=h.ints.block (b:=a) rfl;obtain⟨c2,g⟩:=h.slots.block (b:=R2) rfl;have l:∀i,i<d.n->E i≠a:=fun j hj e=>A8 ((e▸(h.Cr j hj).ob)) f oc;have ob:∀b,b≠a->(w.setCell (G a i) (.pointer (B8 E x))).heap[b]?=w.heap[b]?:=fun b hb=>A0 _ _ _ _ (by exact hb);refine h.row k.1 rfl rfl rfl rfl rfl (Sj h.log (fun e=>h.ap a e rfl)) ?_ (Sj h.slots (fun e=>?_)) (fun j hj=>(h.Cr j hj).keep od (ob _ (l j hj))) h.eb h.inj (fun j hj=>?_) h.sg
 ·refine(h.ints.set hi (B8 E x)).congr (fun j hj=>?_);show B8 E (AP d.I i x j)=AP (fun i=>B8 E (d.I i)) i (B8 E x) j;by_cases e:j=i
  ·subst e;rw[Ao,Ao]
  ·rw[Af _ _ e,Af _ _ e]
 ·have e':R2=a:=by simpa[Value.ownBlock]using e
  subst e';exact A8 g f oc
 ·refine(h.sl j hj).keep od (fun c hc=>ob _ (fun e=>?_));rw[e]at hc;exact A8 hc f oc
theorem AD.SN(h:AD w bk r0 r1 R2 E S d){j:Nat}(hj:j<d.x){x:Int}(hx:x≠0){A:Array Value}(u:(0<x->A=UD (d.L (x-1).toNat).key (E (x-1).toNat))/\(x<0->A=RU)):
  AD ((w.setCell (G R2 j) (.pointer (some (G w.heap.size 0)))).alloc (.cells A 333)) bk r0 r1 R2 E (AP S j w.heap.size) {d with X:=AP d.X j x}:=by
 have K:=h.Kh;obtain⟨c2,l⟩:=h.slots.block (b:=R2) rfl;have m:=h.lt;obtain⟨W,g⟩:∃W,W=(w.setCell (G R2 j) (.pointer (some (G w.heap.size 0)))).alloc (.cells A 333):=⟨_,rfl⟩;rw[<-g];have D:W.heap.size=w.heap.size+1:=by rw[g];simp
 have ob:∀b,b<w.heap.size->b≠R2->W.heap[b]?=w.heap[b]?:=fun b hb o=>by rw[g];exact(DO _ _ _ (by simpa using hb)).trans (A0 _ _ _ _ (by exact o))
 have a:W.heap[w.heap.size]?=some (.cells A 333 (0,0)):=by
  rw[g];have F:=BE (w.setCell (G R2 j) (.pointer (some (G w.heap.size 0)))) (.cells A 333);simpa using F
 have gr:w.grownBy W (some R2):=⟨by rw[g];rfl,by rw[g];rfl,by rw[g];rfl,oa,fun k hk r=>ob k hk (fun e=>r (by rw[e]))⟩;have hc:∀p,W.cell? (G bk p)=w.cell? (G bk p):=fun p=>As (ob bk m oa);have B:∀{v:V9} {n:Nat} {f:Nat->Option Addr},Rw w (bk+1) C1 v n f->Rw W (bk+1) C1 v n f:=fun{v n f} C=>IM C gr (fun b e e'=>by
  cases e;obtain⟨c,hb⟩:=C.block e';exact A8 l hb oc)
 have H:∀i,i<d.n->E i≠R2:=fun i hi e=>A8 (e▸(h.Cr i hi).ob) l oc;refine⟨oa,(hc _).trans h.c0,(hc _).trans h.c1,(hc _).trans h.c2,(hc _).trans h.c3,(hc _).trans h.c4,(hc _).trans h.c5,(hc _).trans h.c6,fun q=>(GW (ob bk m oa)).trans (h.fz q),B h.log,B h.ints,h.rf,?_,h.ap,fun i hi=>(h.Cr i hi).keep oa (ob _ (h.Cr i hi).lt (H i hi)),h.eb,h.inj,fun i hi=>?_,fun i hi I=>?_⟩
 ·have hs:=(h.slots.set hj (some (G w.heap.size 0))).alloc (.cells A 333);rw[<-g]at hs;refine Rw.congr hs (fun i hi=>?_);show Dj (AP S j w.heap.size) i (AP d.X j x i)=AP (fun j=>Dj S j (d.X j)) j (some (G w.heap.size 0)) i;by_cases e:i=j
  ·subst e;rw[Ao,Ao];unfold Dj;rw[C3 hx,Ao]
  ·rw[Af _ _ e,Af _ _ e];unfold Dj;rw[Af _ _ e]
 ·unfold Dp;show(0<AP d.X j x i->Gj W (AP S j w.heap.size i) (d.L (AP d.X j x i-1).toNat).key (E (AP d.X j x i-1).toNat))/\(AP d.X j x i<0->O5 W (AP S j w.heap.size i));by_cases e:i=j
  ·subst e;rw[Ao,Ao];refine⟨fun s=>?_,fun s=>?_⟩
   ·have hA:=u.1 s;subst hA;exact⟨oa,by simp[World.cell?,a],by simp[World.cell?,a],by simp[World.cell?,a],by simp[World.cell?,a],by simp[World.cell?,a],by simp[World.cell?,a],by simp[World.cell?,a],a⟩
   ·have hA:=u.2 s;subst hA;exact⟨oa,by simp[World.cell?,a],a⟩
  ·rw[Af _ _ e,Af _ _ e];have hk:=(h.sl i hi).keep (w':=W) oa (fun c hc=>ob _ (GC.1 hc).1 (fun e'=>by rw[e']at hc;exact A8 hc l oc));exact hk
 ·by_cases e:i=j
  ·subst e;rw[Ao];exact m
  ·rw[Af _ _ e];exact h.sg i hi (by have t:AP d.X j x i≠0:=I;rwa [Af _ _ e]at t)
end
def DH(d:Dc):Prop:=8<=d.n/\2*d.live<(d.n:Int)
theorem LC(bk:Nat)(r0 r1:V9)(R2:Nat)(E S:Nat->Nat)(d:Dc)(w:Y)(b:AD w bk r0 r1 R2 E S d)(g:Small d)(hl:0<=d.live)(i:d.live<=500):
  C9 293 #[Q9 bk] w (R9 (.bool (tells (DH d))) w):=by
 obtain⟨a,l,rfl⟩:=b.log.slice;have c0:=b.c0;have c5:=b.c5;have j:=b.lt;have hn:=g.n;clear b g;by_cases k:(8:Int)<=d.n
 case neg=>
  have c:=O (Bq (p:=DH d) (fun h=>k (oj h.1)));have e:decide ((8:Int)<=d.n)=false:=oe
  go_enter func293,ntmps293
  go_wp2
  go_region
  go_wp2;go_ret;exact⟨by rw[z c];rfl,(Cs _ _).drew⟩
 have e:decide ((8:Int)<=d.n)=true:=oe;by_cases h2:2*d.live<(d.n:Int)
 focus
  have c:=O (Bw (p:=DH d) ⟨oa,h2⟩);have f:decide (2*d.live<(d.n:Int))=true:=oe
 rotate_left
 focus
  have c:=O (Bq (p:=DH d) (fun h=>h2 h.2));have f:decide (2*d.live<(d.n:Int))=false:=oe
 rotate_left;all_goals
  go_enter func293,ntmps293
  go_wp2
  go_region
  go_wp2;go_ret;exact⟨by rw[z c];rfl,(Cs _ _).drew⟩
theorem OI(n:Nat)(w:Y)(hn:n<=500):
  C9 315 #[J (n:Int)] w (R9 (J ((if n=0 then 0 else BC n:Nat):Int)) w):=by
 by_cases e:n=0
 ·subst e
  go_enter func315,ntmps315
  go_wp2;go_ret;exact⟨rfl,Cs _ _⟩
 have j:Hid ((if n=0 then 0 else BC n:Nat)=Cy 9 8 (4*n)):=O (C3 e);have f:((n:Int)==0)=false:=oe
 go_enter func315,ntmps315
 go_wp2;go_loopw [3] (fun i wr=>∃(k s:Nat),k<=9/\i=J (s:Int)/\s<=4000/\8<=s/\2000<=s*2^k/\Cy 9 8 (4*n)=Cy k s (4*n)/\B9 w wr) (fun i _=>4000-(intOf i).toNat)
 case atStart=>exact⟨9,8,oa,rfl,oa,oa,oc,rfl,Cs _ _⟩
 case round=>
  obtain⟨k,s,hk,rfl,hs,g,h2,b,hb⟩:=hrel;by_cases a:s<4*n
  ·obtain⟨k',rfl⟩:∃k',k=k'+1:=⟨k-1,by
    cases k with
    |zero=>simp at h2;omega
    |succ k=>omega⟩
   have c:Hid (Cy 9 8 (4*n)=Cy k' (2*s) (4*n)):=O (b.trans (DD a));have h:Hid (2000<=2*s*2^k'):=O (by rw[AaF]at h2;calc 2000<=s*(2^k'*2):=h2
    _=2*s*2^k':=by rw[Aan (2^k') 2,<-OK,Aan s 2])
   have d:=O hb;clear b h2 hb;go_wp2;go_roundw
   case rel=>exact⟨k',2*s,oa,oh,oa,oa,h,c,d⟩
   case measure=>simp[intOf];omega
  ·have c:Hid (Cy 9 8 (4*n)=s):=O (b.trans (by cases k with
    |zero=>rfl
    |succ k=>exact C3 a))
   have d:=O hb;clear b h2 hb;go_wp2;go_ret;exact⟨by rw[show BC n=s from z c];rfl,d⟩
def Nr(w:Y)(b q:Nat):Nat:=match w.cell? (G b q)with
 |some (.slice _ n _)=>n
 |_=>0
theorem Mk{c:Nat}{a:Option Addr}(h:w.cell? (G b q)=some (.slice a n c)):Nr w b q=n:=by unfold Nr;rw[h]
theorem OY(bk:Nat)(r0 r1:V9)(R2:Nat)(E S:Nat->Nat)(d:Dc)(q:Nat)(w:Y)(a:AD w bk r0 r1 R2 E S d)(v:Small d)(hq:q<d.m)(x:∀j,j<d.m->0<=d.I j):
  C9 291 #[Q9 bk,J ((q:Int)+1)] w fun e w'=>((∃u,e=.returned u)/\∃r,AD w' bk r0 r R2 E S {d with m:=shrink (AP d.I q 0) d.m,I:=AP d.I q 0})/\Below bk w w':=by
 obtain⟨c,k1,rfl⟩:=a.rf;have F:=v.m;have H:=a.lt;have c1:=a.c1;have A:=a.ints.lt c rfl;have K:=A.2;obtain⟨g,R,e,_,_,L,hc,hf⟩:=a.ints.form oa;cases e;have d0:=hc q hq;have f0:=hf q;have l:∀j,j<d.m->0<=AP d.I q 0 j:=fun j hj=>by
  by_cases e:j=q
  ·subst e;rw[Ao];exact AaI _
  ·rw[Af _ _ e];exact x j hj
 have f:=a.Xb hq 0;have fL:B8 E 0=none:=C3 oc;rw[fL]at f;have s:=O f;have t:Hid (Below bk w (w.setCell (G c q) (.pointer none))):=O ((Cs _ _).setCell (by show bk<=c;omega) _);have M:=O l;clear a v hc hf A f x l fL
 go_enter func291,ntmps291
 go_wp2;clear c1 d0 f0;go_loopw [11] (fun _ wr=>∃k:Nat,k<=d.m/\AD wr bk r0 (S9 c k k1) R2 E S {d with m:=k,I:=AP d.I q 0}/\Below bk w wr/\shrink (AP d.I q 0) d.m=shrink (AP d.I q 0) k) (fun _ wr=>Nr wr bk 1)
 case atStart=>exact⟨d.m,Be _,s,t,rfl⟩
 case round=>
  obtain⟨k,hk,a,h,b⟩:=hrel;have c1:=a.c1;have f1:=a.fz 1;have B:=a.lt;have n:=Mk c1;cases k with
  |zero=>
   have o:Hid (shrink (AP d.I q 0) d.m=0):=O b;have i:=O a;have p:=O h;clear a h b;go_wp2
   go_region
   go_wp2;go_end0;exact⟨⟨⟨_,rfl⟩,_,by rw[z o];exact i.below (Cs _ _).drew⟩,p.drew⟩
  |succ k=>
   obtain⟨g',P,e',_,Q,C,hc,_⟩:=a.ints.form (by show 0<k+1;omega);cases e';have e0:wr.cell? (G c k)=some (.pointer (B8 E (AP d.I q 0 k))):=hc k (by show k<k+1;omega);by_cases hz:AP d.I q 0 k=0
   ·rw[hz,show B8 E 0=none from C3 oc]at e0;have o:Hid (shrink (AP d.I q 0) d.m=shrink (AP d.I q 0) k):=O (b.trans (Ir hz));have i:=O (AD.Q4 (u:=S9 c k k1) (I:=AP d.I q 0) (m:=k) a (Rw.cut a.ints (j:=k) (by show k<=k+1;omega)) ⟨_,_,rfl⟩ a.ap);have p:=O h;clear a h b hz hc;go_wp2
    go_region
    go_wp2
    go_region
    go_wp2;go_roundw
    case rel=>exact⟨k,oa,i.below (Cs _ _).drew.drew,(p.setCell (by exact Be _) _).drew.drew,o⟩
    case measure=>
     rw[show Nr (wr.setCell (G bk 1) (S9 c k k1)).drew.drew bk 1=k from Mk (z i).c1,n];omega
   ·have D:B8 E (AP d.I q 0 k)=some (G (E (AP d.I q 0 k-1).toNat) 0):=DD (oj (z M k oa));rw[D]at e0;have o:Hid (shrink (AP d.I q 0) d.m=k+1):=O (b.trans (Iq hz));have i:=O a;have p:=O h;clear a h b hz hc D;go_wp2
    go_region
    go_wp2;go_end0;exact⟨⟨⟨_,rfl⟩,_,by rw[z o];exact i.below (Cs _ _).drew⟩,p.drew⟩
section
open Go.RowKit Go.Shelf
attribute [local go_sem] Oper.semAt_some
theorem AD.grown{row:Option Nat}(h:AD w bk r0 r1 R2 E S d)(g:w.grownBy w' row)(k:∀r,row=some r->∃o:Obj,w.heap[r]?=some o/\o.isCells=false):AD w' bk r0 r1 R2 E S d:=by
 have ne:∀{b:Nat} {c:Array Value} {t:TypeId} {fr:Nat×Nat},w.heap[b]?=some (.cells c t fr)->w'.heap[b]?=w.heap[b]?:=fun{b c t fr} hb=>g.block b (GC.1 hb).1 (fun e=>by
  obtain⟨o,l,hc⟩:=k b e.symm;rw[hb]at l;cases l;cases hc)
 have m:∀{t:TypeId} {v:V9} {n:Nat} {f:Nat->Option Addr},Rw w (bk+1) t v n f->Rw w' (bk+1) t v n f:=fun{t v n f} p=>IM p g (fun b e e'=>by
  obtain⟨c,hb⟩:=p.block e';obtain⟨o,l,hc⟩:=k b e;rw[hb]at l;cases l;cases hc)
 exact⟨At h.lt g.size,Lo h.c0 g k,Lo h.c1 g k,Lo h.c2 g k,Lo h.c3 g k,Lo h.c4 g k,Lo h.c5 g k,Lo h.c6 g k,fun q=>(GW (a:=(G bk q)) (by
  have hc:=h.c0;unfold World.cell? at hc;cases hb:w.heap[bk]? with
  |none=>simp[hb]at hc
  |some o=>
   cases o with
   |cells c t fr=>rw[<-hb];exact ne hb
   |_=>simp[hb]at hc)).trans (h.fz q),m h.log,m h.ints,h.rf,m h.slots,h.ap,fun i hi=>(h.Cr i hi).keep g.size (ne (h.Cr i hi).ob),h.eb,h.inj,fun j hj=>(h.sl j hj).keep g.size (fun c hc=>ne hc),h.sg⟩
structure KX (M:Nat->Prop) (n:Nat) (A B:Y):Prop where
 CN:Below n A B
 BB:∀b,b<A.heap.size->¬M b->B.heap[b]?=A.heap[b]?
theorem KX.refl(M:Nat->Prop)(n:Nat)(A:Y):KX M n A A:=⟨Cs _ _,fun _ _ _=>rfl⟩
theorem KX.trans{B:Y}(h:KX M n A B)(k:KX M n B C):KX M n A C:=⟨h.CN.trans k.CN,fun b hb a=>(k.BB b (At hb h.CN.size) a).trans (h.BB b hb a)⟩
theorem KX.mono{a:Nat->Prop}{B:Y}(h:KX M n A B)(e:∀b,b<A.heap.size->M b->a b):KX a n A B:=⟨h.CN,fun b hb c=>h.BB b hb (fun d=>c (e b hb d))⟩
theorem KX.Ar{B:Y}(h:B9 A B)(hn:n<=A.heap.size):KX M n A B:=⟨h.mono hn,fun b hb _=>h.block b hb⟩
theorem KX.setCell{B:Y}(h:KX M n A B){g q:Nat}(c:n<=g)(d:g<A.heap.size->M g)(u:V9):KX M n A (B.setCell (G g q) u):=
 ⟨h.CN.setCell (by exact c) _,fun b hb a=>(A0 _ _ _ _ (by intro e;have e:b=g:=e;subst e;exact a (d hb))).trans (h.BB b hb a)⟩
theorem KX.alloc{B:Y}(h:KX M n A B)(hn:n<=A.heap.size)(o:Obj):KX M n A (B.alloc o):=
 ⟨h.CN.alloc (GO hn h.CN.size) _,fun b hb a=>(DO _ _ _ (At hb h.CN.size)).trans (h.BB b hb a)⟩
theorem KX.drew{B:Y}(h:KX M n A B):KX M n A B.drew:=⟨h.CN.drew,h.BB⟩
theorem KX.grown{B:Y}{row:Option Nat}(h:KX M n A B)(a:B.grownBy C row)(hn:n<=A.heap.size)(c:∀r,row=some r->A.heap.size<=r\/(n<=r/\M r)):KX M n A C:=
 ⟨h.CN.grown a (GO hn h.CN.size) (fun k e=>by rcases c k e with h'|h'<;>omega),fun b hb d=>(a.block b (At hb h.CN.size) (fun e=>by
  rcases c b e.symm with h'|h'
  ·omega
  ·exact d h'.2)).trans (h.BB b hb d)⟩
def Mx(n0 bk R2 x:Nat)(k:Vl)(e:Nat)(W:Y):Prop:=
 W.cell? (G n0 0)=some (.pointer (some (G bk 2)))/\W.cell? (G bk 3)=some (S9 R2 x x)/\W.cell? (G (n0+1) 0)=some (J k.kind)/\W.cell? (G (n0+1) 1)=some (J k.num)/\W.cell? (G (n0+1) 2)=some (F9 k.Ag)/\W.cell? (G (n0+1) 3)=some (.string k.str)/\W.cell? (G (n0+1) 4)=some (J k.ref)/\W.cell? (G (n0+1+1) 0)=some (Q9 e)
theorem Mx.block(h:Mx n0 bk R2 x k e W)(hb:∀b,b<n0+3->b=n0\/b=n0+1\/b=n0+1+1\/b=bk->W'.heap[b]?=W.heap[b]?)(hl:bk<n0):Mx n0 bk R2 x k e W':=by
 obtain⟨a,s1,s2,c,d,f,g,i⟩:=h;have k0:=hb n0 oa oa;have k1:=hb (n0+1) oa oa;have k2:=hb (n0+1+1) oa oa;have k3:=hb bk oa oa;exact⟨(As k0).trans a,(As k3).trans s1,(As k1).trans s2,(As k1).trans c,(As k1).trans d,(As k1).trans f,(As k1).trans g,(As k2).trans i⟩
theorem J1(T:World->Prop)(U:EM T)(bk:Nat)(r0 r1:V9)(R2:Nat)(E S:Nat->Nat)(d:Dc)(k:Vl)(p h:Nat)(hh:O7 T k h)(w:Y)(hT:T w)(hM:AD w bk r0 r1 R2 E S d)(hS:Small d)(hX:∀j,j<d.x->d.X j=0\/d.X j=-1\/0<d.X j)(hk:(d.L p).key=k)(hu:B5 d.X d.x<d.x)(ax:0<=d.used)(ay:d.used<=4194304):
  C9 307 #[.pointer (some (G bk 2)),V k.kind k.num k.Ag k.str k.ref,Q9 (E p)] w fun e w'=>((∃u,e=.returned u)/\∃a S',CS d.x d.X (h%d.x)=some a/\AD w' bk r0 r1 R2 E S' {d with X:=AP d.X a ((p:Int)+1),used:=if d.X a=0 then d.used+1 else d.used})/\KX (fun b=>b=bk\/b=R2) bk w w':=by
 have hx:=hS.x;refine(Aac (n:=10)).1 ?_;refine callsIn_of_wp_marks func307 rfl trivial ?_ rfl;simp only[ntmps307,Aau,Aae,XN,Nat.reduceAdd,Nat.reduceSub,Aam,Aal,Aav,Aas,W9,Aar]
 gi_wp2_with (refine⟨trivial,?_⟩;gi_at_call 297;refine(Aac.2 (RQ (some (G bk 2)) k _)).mono ?_;rintro e w' ⟨rfl,rfl⟩)
 obtain⟨u,g⟩:∃u,u=((((w.alloc (.cells #[.pointer (some (G bk 2))] 377)).alloc (.cells (ow k) 43)).alloc (.cells #[Q9 (E p)] 292)).alloc (.cells #[.pointer (some (G bk 2))] 377)).alloc (.cells (ow k) 43):=⟨_,rfl⟩;rw[<-g];have zu:u.heap.size=w.heap.size+5:=by rw[g];simp
 have bu:B9 w u:=by rw[g];exact((((n9).alloc od _).alloc oe _).alloc oe _).alloc oe _
 obtain⟨n0,i0,i1,i2,i3,i4,af,m0,j0,j1,j2,j3,j4⟩:u.cell? (y w 0)=some (.pointer (some (G bk 2)))/\u.cell? (Y9 w 0)=some (J k.kind)/\u.cell? (Y9 w 1)=some (J k.num)/\u.cell? (Y9 w 2)=some (F9 k.Ag)/\u.cell? (Y9 w 3)=some (.string k.str)/\u.cell? (Y9 w 4)=some (J k.ref)/\u.cell? (Z9 w 0)=some (Q9 (E p))/\u.cell? (G (w.heap.size+1+1+1) 0)=some (.pointer (some (G bk 2)))/\u.cell? (G (w.heap.size+1+1+1+1) 0)=some (J k.kind)/\u.cell? (G (w.heap.size+1+1+1+1) 1)=some (J k.num)/\u.cell? (G (w.heap.size+1+1+1+1) 2)=some (F9 k.Ag)/\u.cell? (G (w.heap.size+1+1+1+1) 3)=some (.string k.str)/\u.cell? (G (w.heap.size+1+1+1+1) 4)=some (J k.ref):=by rw[g];simp[go_sem]
 have P:=hM.below bu;have ag:=U _ _ hT bu;have m:=hM.lt;have av:=hM.Kh;have az:∀(W:Y),B9 w W->bk<W.heap.size:=fun W h=>At m h.size;clear g;refine wpIn_rangeFunc_ownF rfl oc (gf:=308) (lb:=#[Q9 (w.heap.size+1+1+1),Q9 (w.heap.size+1+1+1+1)]) rfl trivial (enters_of func308 og rfl)
  (M9 9 oc T U bk R2 (w.heap.size+1+1+1) (w.heap.size+1+1+1+1) d k h w.heap.size hh u ag hx m0 P.c2 P.c3 j0 j1 j2 j3 j4) belowK_t (belowK_b oa) (Cs _ _) (fun _=>rfl)
  (fun pre W=>((∀Z∈pre,0<d.X Z.1)/\W.cell? (y w 0)=some (.pointer (some (G bk 2)))/\W.cell? (Y9 w 0)=some (J k.kind)/\W.cell? (Y9 w 1)=some (J k.num)/\W.cell? (Y9 w 2)=some (F9 k.Ag)/\W.cell? (Y9 w 3)=some (.string k.str)/\W.cell? (Y9 w 4)=some (J k.ref)/\W.cell? (Z9 w 0)=some (Q9 (E p)))/\B9 w W)
  (fun c pre W=>(c=.ret/\(∃f a,pre=f++[a]/\(∀Z∈f,0<d.X Z.1)/\d.X a.1<=0/\∃S',AD W bk r0 r1 R2 E S' {d with X:=AP d.X a.1 ((p:Int)+1),used:=if d.X a.1=0 then d.used+1 else d.used}))/\KX (fun b=>b=bk\/b=R2) bk w W)
  (OwnFrom.and (Own.from (fun s A B row hs o v=>⟨hs.1,Lo hs.2.1 o v,Lo hs.2.2.1 o v,Lo hs.2.2.2.1 o v,Lo hs.2.2.2.2.1 o v,Lo hs.2.2.2.2.2.1 o v,Lo hs.2.2.2.2.2.2.1 o v,Lo hs.2.2.2.2.2.2.2 o v⟩) _) (ownFrom_below (Be _) oa))
  (fun c=>OwnFrom.and (Own.from (fun s A B row hs o v=>⟨hs.1,by obtain⟨f,a,h1,h2,h3,S',h4⟩:=hs.2;exact⟨f,a,h1,h2,h3,S',h4.grown o v⟩⟩) _) (fun s W W' row hs o v=>hs.grown o oa (fun k e=>.inl (oj (v k e).1))))
  ⟨⟨od,n0,i0,i1,i2,i3,i4,af⟩,bu⟩
  ?a1 ?assign ?body ?done ?stop
 case assign=>
  intro l x W K hK
  gi_wp2
  exact hK
 case body=>
  rintro l pre ⟨a,C⟩ W ⟨⟨hp,g0,e0,e1,e2,e3,e4,s0⟩,F⟩ _;have i:=hM.below F;have c3:=i.c3;have c4:=i.c4;have f4:=i.fz 4;obtain⟨g',aM,e',_,lR,_,ah,ai⟩:=i.slots.form oa;cases e';have p0:=ah a C;have q0:=ai a;have H:=i.sl a C;have lW:bk<W.heap.size:=i.lt;have nR:R2≠bk:=oj i.Kh.1;have a6:bk≠R2:=fun e=>nR e.symm;have z0:=ID _ _ g0;have z1:=ID _ _ e0;have z2:=ID _ _ s0;dsimp only at z0 z1 z2;have HP:=O hp;have ad:=O F;have aj:=O i;have HK:=O hk;have a7:=i.Kh.1;clear hp F n0 i0 i1 i2 i3 i4 af m0 j0 j1 j2 j3 j4 P ag bu zu hM hT hh U ah ai i;have ak:=hX a C;clear hX;rcases ak with hs|hs|hs
  ·rw[show Dj S a (d.X a)=none from DD hs]at p0;have ae:=((aj.Km (d.used+1)).SN (x:=(p:Int)+1) C oa (A:=UD k (E p)) ⟨fun _=>by show _=UD (d.L ((p:Int)+1-1).toNat).key _;rw[show((p:Int)+1-1).toNat=p by omega,z HK],fun h=>oa⟩);rw[show(W.setCell (G bk 4) (J (d.used+1))).heap.size=W.heap.size by simp]at ae;have HN:=O ae;clear ae;have HX:Hid (d.X a=0):=O hs;clear H hs
   gi_wp2
   refine Od (Mx w.heap.size bk R2 d.x k (E p)) og og ?_;change wpAnyH _ _ _ _ _ _ _ _ (World.drew _);have hz:∀b q,bk≠b->(W.setCell (G bk 4) (J (d.used+1))).cell? (G b q)=W.cell? (G b q):=fun b q h=>Aq h;have I:Mx w.heap.size bk R2 d.x k (E p) (W.setCell (G bk 4) (J (d.used+1))).drew:=⟨(hz _ _ oa).trans g0,(Aa oc).trans c3,(hz _ _ oa).trans e0,(hz _ _ oa).trans e1,(hz _ _ oa).trans e2,(hz _ _ oa).trans e3,(hz _ _ oa).trans e4,(hz _ _ oa).trans s0⟩;clear hz;refine tz 0 (h:=tz 1 (h:=tz 2 (h:=tz 3 (h:=tz 4 (h:=tz 5 (h:=tz 6 (h:=tz 7 (h:=?_))))))));refine ry 8 (fun K hK=>?_);go_simp;refine hK.out _ _ ?_ (fun ao=>?_)
   ·exact I.block (fun b hb _=>DO _ _ _ (by show b<(W.setCell _ _).heap.size;simp;omega)) m
   clear hK K;refine tz 9 (h:=?_);refine ry 10 (fun K hK=>?_);go_simp;refine hK.out _ _ ?_ (fun aq=>?_)
   ·exact I.block (fun b hb h=>(DO _ _ _ oe).trans (A0 _ _ _ _ (by show b≠R2;omega))) m
   clear hK K;refine Fj ?_
   gi_wp2
   exact⟨(((UP _ _ _).trans (UP _ _ _)).trans (KeepsOthers.alloc _ _)).trans (KeepsOthers.drew _),⟨rfl,pre,⟨a,C⟩,rfl,HP,by have:=z HX;show d.X a<=0;omega,_,by rw[DD (z HX)];exact HN.below (Cs _ _).drew⟩,(((((KX.Ar ad oa).setCell (Be _) (fun _=>.inl rfl) _).setCell oa (fun _=>.inr rfl) _).alloc oa _).drew)⟩
  ·rw[show Dj S a (d.X a)=some (G (S a) 0)from C3 oa]at p0;obtain⟨ar,a8⟩:=H.2 oa;have HN:=O (aj.SN (x:=(p:Int)+1) C oa (A:=UD k (E p)) ⟨fun _=>by show _=UD (d.L ((p:Int)+1-1).toNat).key _;rw[show((p:Int)+1-1).toNat=p by omega,z HK],fun h=>oa⟩);have HX:Hid (d.X a≠0/\d.X a<=0):=O oa;clear H hs
   gi_wp2
   refine Od (Mx w.heap.size bk R2 d.x k (E p)) og og ?_;change wpAnyH _ _ _ _ _ _ _ _ (World.drew _);have I:Mx w.heap.size bk R2 d.x k (E p) W.drew:=⟨g0,c3,e0,e1,e2,e3,e4,s0⟩;refine tz 0 (h:=tz 1 (h:=tz 2 (h:=tz 3 (h:=tz 4 (h:=tz 5 (h:=tz 6 (h:=tz 7 (h:=?_))))))));refine ry 8 (fun K hK=>?_);go_simp;refine hK.out _ _ ?_ (fun ao=>?_)
   ·exact I.block (fun b hb _=>DO _ _ _ (by show b<W.heap.size;omega)) m
   clear hK K;refine tz 9 (h:=?_);refine ry 10 (fun K hK=>?_);go_simp;refine hK.out _ _ ?_ (fun aq=>?_)
   ·exact I.block (fun b hb h=>(DO _ _ _ oe).trans (A0 _ _ _ _ (by show b≠R2;omega))) m
   clear hK K;refine Fj ?_
   gi_wp2
   exact⟨((UP _ _ _).trans (KeepsOthers.alloc _ _)).trans (KeepsOthers.drew _),⟨rfl,pre,⟨a,C⟩,rfl,HP,by have:=z HX;show d.X a<=0;omega,_,by rw[C3 (z HX).1];exact HN.below (Cs _ _).drew⟩,((((KX.Ar ad oa).setCell oa (fun _=>.inr rfl) _).alloc oa _).drew)⟩
  ·rw[show Dj S a (d.X a)=some (G (S a) 0)from C3 oa]at p0;obtain⟨ar,f0,f1,f2,f3,bb,f5,f6⟩:=H.1 hs;have HX:=O hs;clear H hs
   gi_wp2
   exact⟨KeepsOthers.refl _,Cs _ _,⟨fun Z hy=>(List.mem_append.1 hy).elim (HP Z) (fun e=>by simp at e;subst e;exact HX),g0,e0,e1,e2,e3,e4,s0⟩,ad⟩
 case done=>
  rintro D ys W hD au ⟨⟨hp,_⟩,F⟩ hK;exfalso;obtain⟨t,ht,hf,bc,aw⟩:=EI (x:=d.x) (a:=h%d.x) (X:=d.X) (TO _ oa) hu;have hm:(h%d.x+t)%d.x∈ys.map (·.1):=by
   rw[show ys.map (·.1)=Et d.x (h%d.x) d.x from au];unfold Et;exact List.mem_map.2 ⟨t,List.mem_range.2 ht,rfl⟩
  obtain⟨Z,hy,e⟩:=List.mem_map.1 hm;have:=hp Z hy;rw[e]at this;omega
 case stop=>
  rintro D c pre W hD Q ⟨⟨rfl,f,a,rfl,h1,h2,S',hN⟩,F⟩ hK;have HF:Hid (CS d.x d.X (h%d.x)=some a.1):=O (by
   have hp:(f++[a]).map (·.1)<+:Et d.x (h%d.x) d.x:=Q;have M:=hp.length_le;rw[AaP,ON,LM]at M;have M:f.length+1<=d.x:=M;have R:∀j,j<f.length+1->((f++[a]).map (·.1))[j]?=some ((h%d.x+j)%d.x):=fun j hj=>by
    obtain⟨r,v⟩:=hp;have e:(Et d.x (h%d.x) d.x)[j]?=((f++[a]).map (·.1))[j]?:=by rw[<-v,Aaf oe]
    rw[<-e];unfold Et;rw[List.getElem?_map,List.getElem?_range (show j<d.x by omega)];rfl
   have C:=R f.length oa;rw[List.getElem?_map,Aaj (Be _)]at C;have C:a.1=(h%d.x+f.length)%d.x:=by simpa using C
   rw[C];refine Ly oa (fun j hj=>?_) (by rw[<-C];exact h2);have hb:=R j oa;rw[List.getElem?_map,Aaf hj]at hb;obtain⟨Z,hy,e⟩:=Option.map_eq_some_iff.1 hb;rw[<-e];exact h1 Z (List.mem_of_getElem? hy))
  clear Q h1 h2 hh hM P
  gi_wp2
  refine⟨od,.inl ⟨_,_,rfl,AaU hK,?_⟩⟩;have o:=I9 W D (.deferred none);refine⟨_,Aay rfl _ _ _,⟨⟨_,rfl⟩,a.1,S',HF,hN.grown o (fun r e=>by cases e;exact⟨_,hK,rfl⟩)⟩,F.grown o oa (fun k e=>by cases e;exact .inl oa)⟩
end
def DM(hf:Vl->Nat)(d:Dc)(x:Nat)(l:List Nat):Dc:=l.foldl (fun c p=>AL hf c (d.L p).key p) {d with x:=x,X:=fun _=>0,used:=0}
theorem Js(hf:Vl->Nat)(d:Dc)(x:Nat)(l:List Nat)(p:Nat):DM hf d x (l++[p])=AL hf (DM hf d x l) (d.L p).key p:=by
 unfold DM;rw[List.foldl_append];rfl
structure Hm (d:Dc) (a N:Nat) (c:Dc):Prop where
 x:c.x=a
 n:c.n=d.n
 L:c.L=d.L
 m:c.m=d.m
 I:c.I=d.I
 live:c.live=d.live
 turns:c.turns=d.turns
 use:B5 c.X a<=N
 used:(B5 c.X a:Int)=c.used
 pos:∀j,j<a->0<=c.X j
 up:∀j,j<a->c.X j<=d.n
theorem Hm.step{Z:Nat}(h:Hm d x Z c)(hN:Z<x)(l:p<d.n):Hm d x (Z+1) (AL hf c k p):=by
 obtain⟨t,o,f,i,_⟩:=EI (x:=x) (a:=hf k%x) (X:=c.X) (TO _ oa) (oj h.use);have hs:(hf k%x+t)%x<x:=TO _ oa;have g:c.X ((hf k%x+t)%x)=0:=oj (h.pos _ hs);generalize (hf k%x+t)%x=a at*;have e:=EO (hf:=hf) (d:=c) (k:=k) (p:=p) (a:=a) (by rw[h.x];exact f);rw[e];have hu:=N8 (v:=(p:Int)+1) oa g x;rw[DD hs]at hu;refine⟨h.x,h.n,h.L,h.m,h.I,h.live,h.turns,?_,?_,fun j hj=>?_,fun j hj=>?_⟩
 ·show B5 (AP c.X a ((p:Int)+1)) x<=Z+1;rw[hu];have:=h.use;omega
 ·show((B5 (AP c.X a ((p:Int)+1)) x:Nat):Int)=if c.X a=0 then c.used+1 else c.used
  rw[hu,DD g];have:=h.used;omega
 ·show 0<=AP c.X a ((p:Int)+1) j;by_cases b:j=a
  ·subst b;rw[Ao];omega
  ·rw[Af _ _ b];exact h.pos j hj
 ·show AP c.X a ((p:Int)+1) j<=d.n;by_cases b:j=a
  ·subst b;rw[Ao];omega
  ·rw[Af _ _ b];exact h.up j hj
theorem Hm.start(d:Dc)(x:Nat):Hm d x 0 {d with x:=x,X:=fun _=>0,used:=0}:=
 ⟨rfl,rfl,rfl,rfl,rfl,rfl,rfl,by show B5 (fun _=>0) x<=0;rw[I1];exact Be _,by show((B5 (fun _=>0) x:Nat):Int)=0;rw[I1];rfl,fun j hj=>AaI _,fun j hj=>by show(0:Int)<=d.n;omega⟩
theorem M3{l:List Nat}(hl:l.length<=x)(hn:∀p∈l,p<d.n):Hm d x l.length (DM hf d x l):=by
 suffices h:∀(k:Nat),k<=l.length->Hm d x k (DM hf d x (l.take k)) by
  have:=h l.length (Be _)
  rwa [List.take_length]at this
 intro k
 induction k with
 |zero=>intro _;exact Hm.start d x
 |succ k ih=>
  intro hk;have e:l.take (k+1)=l.take k++[l[k]]:=(List.take_append_getElem oa).symm;rw[e,Js];exact(ih oa).step oa (hn _ (List.getElem_mem _))
noncomputable def Ct(d:Dc)(k:Nat):List Nat:=(AM d k).filter (fun i=>!tells (AA d.m (d.L i).key))
theorem bO{k:Nat}(h:(d.L k).turn=0\/AA d.m (d.L k).key):Ct d (k+1)=Ct d k:=by
 unfold Ct;by_cases a:(d.L k).turn=0
 ·rw[Ce a]
 ·rw[Bf a,List.filter_append];simp[Bw (h.resolve_left a)]
theorem YA{k:Nat}(a:(d.L k).turn≠0)(h:¬AA d.m (d.L k).key):Ct d (k+1)=Ct d k++[k]:=by
 unfold Ct;rw[Bf a,List.filter_append];simp[Bq h]
theorem Vd(d:Dc)(k:Nat):(Ct d k).length<=(AM d k).length:=List.length_filter_le _ _
theorem NC{k:Nat}(h:i∈Ct d k):i<k/\(d.L i).turn≠0/\¬AA d.m (d.L i).key:=by
 unfold Ct at h;obtain⟨h1,h2⟩:=List.mem_filter.1 h;obtain⟨h3,h4⟩:=Sy.1 h1;refine⟨h3,h4,fun hs=>?_⟩;rw[Bw hs]at h2;exact absurd h2 oc
theorem LK(b:∀i,i<d.n->(d.L i).turn≠0->0<(d.L i).turn):∀k,k<=d.n->AF hf d x k=DM hf d x (Ct d k)/\BI d k=(Ct d k).length:=by
 intro k
 induction k with
 |zero=>intro _;exact⟨rfl,rfl⟩
 |succ k ih=>
  intro hk;obtain⟨h1,h2⟩:=ih oa;by_cases h:AO d k
  ·have a:(d.L k).turn≠0:=oj h.1;rw[EF h,El h,YA a h.2,Js,h1,h2,ON];exact⟨rfl,rfl⟩
  ·rw[EE h,FU h,bO (by
    by_cases a:(d.L k).turn=0
    ·exact .inl a
    ·refine .inr (AaJ fun hs=>h ⟨b k oa a,hs⟩))]
   exact⟨h1,h2⟩
section
open Go.RowKit Go.Shelf
attribute [local go_sem] Oper.semAt_some
theorem Cu{s:Nat}(h:w.ownsRow B e s v n xs)(hb:∀q,v.ownBlock=some q->w'.heap[q]?=w.heap[q]?):w'.ownsRow B e s v n xs:=by
 obtain⟨hl,h|⟨g,cap,cur,h1,h2,h3,h4⟩⟩:=h
 ·exact⟨hl,.inl h⟩
 ·exact⟨hl,.inr ⟨g,cap,cur,h1,h2,(hb g (by rw[h1];rfl)).trans h3,h4⟩⟩
noncomputable def Gy(d:Dc)(pre:List (JL d)):List Nat:=(pre.map (·.1)).filter (fun i=>!tells (AA d.m (d.L i).key))
theorem fN{pre:List (JL d)}{x:JL d}(h:AA d.m (d.L x.1).key):Gy d (pre++[x])=Gy d pre:=by
 unfold Gy;rw[Aaq,List.filter_append];simp[Bw h]
theorem bN{pre:List (JL d)}{x:JL d}(h:¬AA d.m (d.L x.1).key):Gy d (pre++[x])=Gy d pre++[x.1]:=by
 unfold Gy;rw[Aaq,List.filter_append];simp[Bq h]
theorem bM{pre:List (JL d)}(h:pre.map (·.1)=AM d d.n):Gy d pre=Ct d d.n:=by
 unfold Gy Ct;rw[h]
theorem fM(pre:List (JL d)):(Gy d pre).length<=pre.length:=by
 have:=List.length_filter_le (fun i=>!tells (AA d.m (d.L i).key)) (pre.map (·.1))
 rwa [AaP]at this
def eP(E:Nat->Nat)(l:List Nat)(j:Nat):Option Addr:=some (G (E (l.getD j 0)) 0)
theorem U4(E:Nat->Nat)(l:List Nat)(i:Nat):Gd (eP E l) l.length++[Q9 (E i)]=Gd (eP E (l++[i])) (l.length+1):=by
 rw[SL];refine K9 (fun j hj=>?_);unfold eP;by_cases e:j=l.length
 ·subst e;rw[Ao];simp[List.getD]
 ·rw[Af _ _ e];rw[List.getD_eq_getElem?_getD,List.getD_eq_getElem?_getD,Aaf oa]
def XJ(w u:Y)(p n0:Nat)(E:Nat->Nat)(d:Dc)(pre:List (JL d))(W:Y):Prop:=
 ∃v,W.rowIs p 324 1 (fun _=>v)/\Rw W n0 C1 v (Gy d pre).length (eP E (Gy d pre))/\Oo p n0 u W/\B9 w W
theorem XJ.own(w u:Y)(p n0 D:Nat)(E:Nat->Nat)(d:Dc)(hn:n0<=D)(hu:n0<=u.heap.size)(g:w.heap.size<=D):OwnFrom D (XJ w u p n0 E d):=by
 rintro pre A B row ⟨v,h1,h2,h3,h4⟩ a f;refine⟨v,?_,PI h2 a f,⟨GO h3.size a.size,fun b hb h=>?_⟩,h4.grown a h4.size (fun k e=>GO g (f k e).1)⟩
 ·obtain⟨c,hb,hc⟩:=h1;exact RC ⟨c,hb,hc⟩ (Ju hb a f)
 ·have hl:b<A.heap.size:=At hb (GO hu h3.size);exact(a.block b hl (fun e=>oj (f b e.symm).1)).trans (h3.block b hb h)
theorem XJ.below{u c:Y}{pre a:List (JL d)}(h:XJ w u p n0 E d pre W)(h2:B9 W c)(e:Gy d a=Gy d pre)(m:p<n0)(j:n0<=u.heap.size):KeepsOthers W c/\Oo p n0 W c/\XJ w u p n0 E d a c:=by
 obtain⟨v,l,f,g,i⟩:=h;have DI:Oo p n0 W c:=⟨h2.size,fun b hb _=>h2.block b (At hb (GO j g.size))⟩;refine⟨⟨h2.size,fun k o hk _=>(h2.block k (GC.1 hk).1).trans hk⟩,DI,v,l.of_block (h2.block p l.lt),?_,g.trans DI,oo i h2⟩;rw[e];exact Ed f h2.size (fun q _ hq=>h2.block q hq)
theorem XJ.add{u:Y}{pre:List (JL d)}{x:JL d}{o:Obj}(D:W.rowIs p 324 1 (fun _=>v))(f:Rw W n0 C1 v (Gy d pre).length (eP E (Gy d pre)))(n:Oo p n0 u W)(g:B9 w W)(h2:B9 W C)
  (h1:w3.ownsRow n0 C1 1 (S9 g3 ((Gy d pre).length+1) a) ((Gy d pre).length+1) (Gd (eP E (Gy d pre)) (Gy d pre).length++[Q9 (E x.1)])) (r:(C.alloc o).grownBy w3 v.ownBlock) (s:p<n0) (F:n0<=u.heap.size) (H:w.heap.size<=p) (hs:¬AA d.m (d.L x.1).key):
  (w3.cell? (G p 0)=some v/\w3.frozen? (G p 0)=false)/\KeepsOthers W (w3.setCell (G p 0) (S9 g3 ((Gy d pre).length+1) a))/\Oo p n0 W (w3.setCell (G p 0) (S9 g3 ((Gy d pre).length+1) a))/\XJ w u p n0 E d (pre++[x]) (w3.setCell (G p 0) (S9 g3 ((Gy d pre).length+1) a)):=by
 have M:=n.size;have z2:=h2.size;have z3:W.heap.size<=w3.heap.size:=by have:=r.size;simp at this;omega
 have t:∀b,b<W.heap.size->v.ownBlock≠some b->w3.heap[b]?=W.heap[b]?:=fun b hb I=>(r.block b oe (fun e=>I e.symm)).trans ((DO _ _ _ oa).trans (h2.block b hb));have j:∀b,b<n0->v.ownBlock≠some b:=fun b hb e=>oj (f.lt b e).1;have l:w3.rowIs p 324 1 (fun _=>v):=D.of_block (t p D.lt (j p s));have K:=(World.ownsRow.lt h1 g3 rfl).1;have os:∀b,b≠p->(w3.setCell (G p 0) (S9 g3 ((Gy d pre).length+1) a)).heap[b]?=w3.heap[b]?:=fun b hb=>A0 _ _ _ _ (by exact hb);have hk:Oo p n0 W (w3.setCell (G p 0) (S9 g3 ((Gy d pre).length+1) a)):=⟨by simpa using z3,fun b h1 A=>(os b A).trans (t b oa (j b h1))⟩;refine⟨⟨l.cell (i:=0) oa,l.frozen 0⟩,?_,hk,S9 g3 ((Gy d pre).length+1) a,(l.set 0 _).congr (fun q hq=>by simp[show q=0 by omega]),?_,n.trans hk,?_⟩
 ·have B:KeepsOthers W w3:=⟨z3,fun k o' h hc=>(t k (GC.1 h).1 (fun e=>by
   obtain⟨c,hb⟩:=Rw.block f e;rw[hb]at h;cases h;cases hc)).trans h⟩
  exact B.trans (UP _ _ _)
 ·rw[bN hs];have hl:(Gy d pre++[x.1]).length=(Gy d pre).length+1:=od;rw[hl];refine Cu ?_ (fun q e=>os q (by
   have e':g3=q:=by simpa[Value.ownBlock]using e
   omega))
  rw[U4]at h1;exact h1
 ·exact(((oo g h2).alloc (oj g.size) _).grown r (by have:=g.size;simp;omega) (fun k e=>oj (f.lt k e).1)).setCell (by show w.heap.size<=p;omega) _
def Ex(n:Nat):Nat:=if n=0 then 0 else BC n
theorem S7(h:n<=500):Ex n<=4000:=by
 unfold Ex
 split
 ·omega
 ·exact(Da h).2.2.1
theorem N1(h:n<=500):4*n<=Ex n:=by
 unfold Ex
 split
 ·omega
 ·exact(Da h).1
def dR(n0 bk p:Nat)(v:V9)(W:Y):Prop:=W.cell? (G n0 0)=some (Q9 bk)/\W.cell? (G p 0)=some v
def XP(n0 bk e:Nat)(k:Vl)(W:Y):Prop:=W.cell? (G n0 0)=some (Q9 bk)/\W.cell? (G e 0)=some (J k.kind)/\W.cell? (G e 1)=some (J k.num)/\W.cell? (G e 2)=some (F9 k.Ag)/\W.cell? (G e 3)=some (.string k.str)/\W.cell? (G e 4)=some (J k.ref)
theorem OH(bk:Nat)(r0 r1:V9)(R2:Nat)(E S:Nat->Nat)(d:Dc)(x:Nat)(w:Y)(a:AD w bk r0 r1 R2 E S d)(hx:x<=4194304):
  C9 314 #[.pointer (some (G bk 2)),J (x:Int)] w fun e w'=>((∃u,e=.returned u)/\AD w' bk r0 r1 w.heap.size E S {d with x:=x,X:=fun _=>0,used:=0})/\KX (fun b=>b=bk) bk w w':=by
 have c:=a.lt;have c3:=a.c3;have c4:=a.c4;have f3:=a.fz 3;have f4:=a.fz 4;have mk:=IQ underlying326 Sa x hx;have f:CL (w.alloc (.cells (madeCells (Value.pointer none).cells x) Te)) w.heap.size x Te (fun _=>none):=CL.fresh w x Te;have hN:=((a.below ((Cs _ _).alloc (Be _) (.cells (madeCells (Value.pointer none).cells x) Te))).Zu (Q2:=w.heap.size) (x:=x) (X:=fun _=>0) ((f.own (B:=bk+1) oa hx).congr (fun j hj=>by simp[Dj])) (fun j hj=>⟨fun h=>absurd h (Int.lt_irrefl 0),fun h=>absurd h (Int.lt_irrefl 0)⟩) (fun j hj h=>absurd rfl h)).Km 0;rw[World.setCell_alloc_past _ _ _ _ c,World.setCell_alloc_past _ _ _ _ (by simpa using c)]at hN;have g:=O hN;have i:Hid (∀o,KX (fun b=>b=bk) bk w (((w.setCell (G bk 3) (S9 w.heap.size x x)).setCell (G bk 4) (J 0)).alloc o)):=O (fun o=>KX.alloc (n:=bk) (A:=w) (((KX.refl (fun b=>b=bk) _ _).setCell (Be _) (fun _=>rfl) _).setCell (Be _) (fun _=>rfl) _) oa _);clear a f hN
 go_enter func314,ntmps314
 go_wp2;go_end0;exact⟨⟨⟨_,rfl⟩,g⟩,i _⟩
theorem Hg(T:World->Prop)(cg:EM T)(hf:Vl->Nat)(bk:Nat)(ch:∀w w',T w->Below bk w w'->T w')(r0 r1:V9)(R2:Nat)(E S:Nat->Nat)(d:Dc)(g:Nat)(w:Y)(hT:T w)(hM:AD w bk r0 r1 R2 E S d)(hS:Small d)
  (hH:∀i,i<d.n->(d.L i).turn≠0->O7 T (d.L i).key (hf (d.L i).key)) (ae:(Ct d d.n).length+g<=500):
  C9 306 #[.pointer (some (G bk 0)),J (g:Int)] w fun e w'=>((∃u,e=.returned u)/\∃bt S',AD w' bk r0 r1 bt E S' (DM hf d (Ex ((Ct d d.n).length+g)) (Ct d d.n))/\w.heap.size<=bt)/\KX (fun b=>b=bk) bk w w':=by
 obtain⟨i0,cj,ck,cl,cm⟩:=P9 IJ;have bw:=hS.m;have dj:=hS.n;have dd:=hM.lt;refine(Aac (n:=20)).1 ?_;refine callsIn_of_wp_marks func306 rfl trivial ?_ rfl;simp only[ntmps306,Aau,Aae,XN,Nat.reduceAdd,Nat.reduceSub,Aam,Aal,Aav,Aas,W9,Aar];have HM:=O hM;have HS:=O hS;have HH:=O hH;have HL:=O ae;have HT:=O hT;clear hM hS hH ae hT
 gi_wp2_with fail
 refine⟨trivial,?_⟩;refine(Aac.2 (GL bk _)).mono ?_;rintro e w4 ⟨rfl,rfl⟩
 gi_wp2_with fail
 obtain⟨u,hu⟩:∃u,u=((w.alloc (.cells #[.pointer (some (G bk 0))] 289)).alloc (.cells #[N9] 324)).alloc (.cells #[.pointer (some (G bk 0))] 289):=⟨_,rfl⟩;try simp only[World.size_alloc]
 rw[<-hu];have zu:u.heap.size=w.heap.size+1+1+1:=by rw[hu];simp
 have bu:B9 w u:=by rw[hu];exact((n9).alloc od _).alloc oe _
 obtain⟨bb,b0⟩:u.cell? (Z9 w 0)=some (.pointer (some (G bk 0)))/\u.cell? (y w 0)=some (.pointer (some (G bk 0))):=by rw[hu];simp[go_sem]
 have bc:u.rowIs (w.heap.size+1) 324 1 (fun _=>N9):=by
  have h1:=Aaz (w.alloc (.cells #[.pointer (some (G bk 0))] 289)) #[N9] 324 (fun _=>N9) (fun i hi=>by
   have:i=0:=by simpa using hi
   subst this;rfl)
  rw[World.size_alloc]at h1;refine RC h1 ?_;rw[hu];exact DO _ _ _ od
 clear hu;have ay:=HM.below bu;obtain⟨R0,R1,R⟩:=ay.book;have bd:u.cell? (Y9 w 0)=some (N9):=bc.cell (i:=0) oa;have bx:0<d.n->R0<u.heap.size/\R0≠w.heap.size+1:=fun h0=>⟨R.l0,fun e=>by
  have:=R.r0 0 h0;rw[e,bd]at this;cases this⟩
 have az:∀i,i<d.n->E i<u.heap.size/\E i≠w.heap.size+1:=fun i hi=>⟨(R.Cr i hi).lt,fun e=>by
  have:=(R.Cr i hi).k0;rw[e,bd]at this;cases this⟩
 obtain⟨Q1,k1,e1⟩:=ay.rf;have bz:u.cell? (G bk 1)=some (.slice (some (G Q1 0)) d.m k1):=by rw[ay.c1,e1]
 clear bd;refine wpIn_rangeFunc_ownF rfl oc (gf:=248) (lb:=#[.pointer (some (G (w.heap.size+1+1) 0))]) rfl trivial (enters_of func248 og rfl)
  (OM 19 oc bk R0 R1 R2 (w.heap.size+1+1) (w.heap.size+1) u.heap.size E S d u R HS bx az bb) Oo.trans (Oo.put (Be _)) (Cs _ _) (fun _=>rfl)
  (XJ w u (w.heap.size+1) u.heap.size E d)
  (fun c pre W=>False)
  (XJ.own w u (w.heap.size+1) u.heap.size u.heap.size E d (Be _) (Be _) oa)
  (fun c _ _ _ _ h=>h.elim)
  ⟨N9,bc,IF _ _ _ _,Oo.refl _ _ _,bu⟩
  ?a1 ?assign ?body ?done ?stop
 case assign=>
  intro l x W K hK
  gi_wp2
  exact hK
 case stop=>
  rintro D c pre W hD df h hK;exact h.elim
 case body=>
  rintro l pre ⟨i,hi,ht⟩ W ⟨v,U,s,t,Z⟩ ae;have ao:=t.block (E i) (az i hi).1 (az i hi).2;obtain⟨dk,q0,q1,q2,q3,q4,_⟩:=(R.Cr i hi).keep t.size ao;have cb:W.cell? (y w 0)=some (.pointer (some (G bk 0))):=(As (a:=(y w 0)) (t.block w.heap.size oa oa)).trans b0;have c1:W.cell? (G bk 1)=some (.slice (some (G Q1 0)) d.m k1):=(As (a:=(G bk 1)) (t.block bk oa oa)).trans bz;have zW:=t.size;have lW:w.heap.size<W.heap.size:=oa;have lb:bk<W.heap.size:=oa;have ai:=O s;have b1:=O t;have aM:=O Z;have HP:=O U;have cn:=U.lt;have cp:=O (fM pre);clear ao s t Z U bb;by_cases hs:AA d.m (d.L i).key
  ·have bf:=O (Bw hs);have cr:=O (fN (pre:=pre) (x:=⟨i,hi,ht⟩) hs);clear hs
   gi_wp2_with fail
   refine wpIn_region_quiet (C:=fun w'=>B9 W w') og og og ((Cs _ _).drew) ?_;show wpQuiet _ _ _ _ [_,_,_,_,_,_,_,_,_,_,_,_] _;refine N (h:=N (h:=N (h:=N (h:=N (h:=N (h:=N (h:=N (h:=N (h:=N (h:=?_))))))))));refine GS (fun K hK=>?_);go_simp;apply Exists.intro;refine And.intro (fun w' aj=>?_) (hK _ ?_)
   ·refine(((z bf)▸Co (d.L i).key d.m _ bw)).mono ?_;rintro e ct ⟨rfl,hb⟩;exact⟨rfl,oo aj hb⟩
   clear hK K;refine N (h:=?_);refine H7 ?_;intro w2 P
   gi_wp2
   exact XJ.below ⟨v,HP,ai,b1,aM⟩ P cr oa (Be _)
  ·have bf:=O (Bq hs);have cu:=O hs;clear hs
   gi_wp2_with fail
   refine wpIn_region_quiet (C:=fun w'=>B9 W w') og og og ((Cs _ _).drew) ?_;show wpQuiet _ _ _ _ [_,_,_,_,_,_,_,_,_,_,_,_] _;refine N (h:=N (h:=N (h:=N (h:=N (h:=N (h:=N (h:=N (h:=N (h:=N (h:=?_))))))))));refine GS (fun K hK=>?_);go_simp;apply Exists.intro;refine And.intro (fun w' aj=>?_) (hK _ ?_)
   ·refine(((z bf)▸Co (d.L i).key d.m _ bw)).mono ?_;rintro e ct ⟨rfl,hb⟩;exact⟨rfl,oo aj hb⟩
   clear hK K;refine N (h:=?_);refine H7 ?_;intro w2 P;have x2:w2.cell? (Y9 w 0)=some v:=ol P cn (HP.cell (i:=0) oa);have ad:Rw w2 u.heap.size C1 v (Gy d pre).length (eP E (Gy d pre)):=Ed ai P.size (fun q _ hq=>P.block q hq);have z2:=P.size;have dh:w.heap.size+1<w2.heap.size:=oa;have dm:=z cp;have bp:Hid (∀(o:Obj) (v3:V9) (w3:Y),w3.ownsRow u.heap.size C1 1 v3 ((Gy d pre).length+1) (Gd (eP E (Gy d pre)) (Gy d pre).length++[.pointer (some (G (E i) 0))])->(w2.alloc o).grownBy w3 v.ownBlock->∃g3 I,v3=.slice (some (G g3 0)) ((Gy d pre).length+1) I/\(w3.cell? (Y9 w 0)=some v/\w3.frozen? (Y9 w 0)=false)/\KeepsOthers W (w3.setCell (Y9 w 0) (.slice (some (G g3 0)) ((Gy d pre).length+1) I))/\Oo (w.heap.size+1) u.heap.size W (w3.setCell (Y9 w 0) (.slice (some (G g3 0)) ((Gy d pre).length+1) I))/\XJ w u (w.heap.size+1) u.heap.size E d (pre++[⟨i,hi,ht⟩]) (w3.setCell (Y9 w 0) (.slice (some (G g3 0)) ((Gy d pre).length+1) I))):=O (fun o v3 w3 A X=>by
    obtain⟨g3,I,rfl⟩:∃g3 I,v3=.slice (some (G g3 0)) ((Gy d pre).length+1) I:=by
     obtain⟨_,⟨_,h0⟩|⟨g,cap,cur,hv,_⟩⟩:=A
     ·omega
     ·exact⟨g,cap,hv⟩
    exact⟨g3,I,rfl,XJ.add (x:=⟨i,hi,ht⟩) HP ai b1 aM P A X oa (Be _) oa cu⟩)
   have bq:=O ad;clear ad P
   gi_wp2_with (gi_at_builtin;refine wpListIn_append_own _ rfl _ _ 324 rfl u.heap.size C1 i0 (.pointer none) 1 8 underlying324 cj ck cl cm rfl oc v (Gy d pre).length (Gd (eP E (Gy d pre)) (Gy d pre).length) rfl (On bq _) (y w2 0) 1 1 [.pointer (some (G (E i) 0))] rfl rfl (H8 (BE _ _)) (by simp[Value.oneCell']) (by unfold maxLen;omega) oa oe ?_;intro v3 w3 A X _;obtain⟨g3,I,rfl,⟨x3,f3⟩,cv⟩:=z bp _ v3 w3 A X;clear A X)
   exact cv
 case done=>
  rintro D ys W hD b2 ⟨v,U,s,t,Z⟩ hK;have aq:ys.map (·.1)=AM d d.n:=b2;rw[bM aq]at s;obtain⟨va,vc,rfl⟩:=s.slice;have x0:=U.cell (i:=0) oa;have zW:=t.size;have cb:W.cell? (y w 0)=some (.pointer (some (G bk 0))):=(As (a:=(y w 0)) (t.block w.heap.size oa oa)).trans b0;have bg:=z HL;have ar:∀q∈Ct d d.n,q<d.n/\(d.L q).turn≠0/\¬AA d.m (d.L q).key:=fun q hq=>NC hq;have af:=O ar;have cw:=O (HM.below Z);have aM:=O Z;have ai:=O s;have dn:=S7 bg;have dp:=N1 bg;have lW:w.heap.size<W.heap.size:=oa;have cx:w.heap.size+1<W.heap.size:=oa;have lb:bk<W.heap.size:=oa;have au:∀q,(Value.slice va (Ct d d.n).length vc).ownBlock=some q->u.heap.size<=q/\q<W.heap.size:=fun q e=>s.lt q e;have di:=O au;generalize b3:Ct d d.n=H at*;have cy:=O b3;clear b3;have dq:IntKind.i64.wrap ((H.length:Int)+(g:Int))=(H.length:Int)+(g:Int):=by rw[Hi];omega
  clear b2 aq U s t Z ar au bb b0 bz ay R bc bx az bu;have cz:Hid (∀W',C9 315 #[J ((H.length:Int)+(g:Int))] W' (R9 (J (Ex (H.length+g):Nat)) W')):=O (fun W'=>by
   have h1:=OI (H.length+g) W' bg;rw[Int.natCast_add]at h1;exact h1)
  gi_wp2_with fail
  refine Oe (dR w.heap.size bk (w.heap.size+1) (.slice va H.length vc)) og ?_;change wpAnyH _ _ _ _ _ _ _ _ (World.drew _);have bh:dR w.heap.size bk (w.heap.size+1) (.slice va H.length vc) W.drew:=⟨cb,x0⟩;refine tz 0 (h:=tz 1 (h:=tz 2 (h:=tz 3 (h:=tz 4 (h:=tz 5 (h:=tz 6 (h:=?_)))))));refine ry 7 (fun K hK=>?_);go_simp;refine(cz _).mono ?_;rintro e w1 ⟨rfl,M⟩;have M:B9 W w1:=(Cs W.heap.size W).drew.trans M;have bj:=ol M lW cb;have x1:=ol M cx x0;refine hK.out _ _ ⟨bj,x1⟩ (fun cD=>?_);clear hK K bh;have z1:=M.size;generalize b4:Ex (H.length+g)=sx at*;have cN:=O b4;clear b4;refine ry 8 (fun K hK=>?_);go_simp;refine(OH bk r0 r1 R2 E S d sx w1 (cw.below M) oa).mono ?_;rintro e w2 ⟨⟨⟨uu,rfl⟩,b5⟩,ag⟩;have z2:=ag.CN.size;have bm:=(As (a:=(y w 0)) (ag.BB w.heap.size oa oa)).trans bj;have x2:=(As (a:=(Y9 w 0)) (ag.BB (w.heap.size+1) oa oa)).trans x1;refine hK.out _ _ ⟨bm,x2⟩ (fun c0=>?_);clear hK K cD bj x1 cb x0;refine Fj ?_;have a6:Hid (KX (fun b=>b=bk) bk w w2):=O (((KX.Ar aM oa).trans (KX.Ar M oa)).trans ag);have av:Hid (∀b,b<W.heap.size->b≠bk->w2.heap[b]?=W.heap[b]?):=O (fun b hb c3=>(ag.BB b oa c3).trans (M.block b hb));have dr:D<W.heap.size:=(GC.1 hK).1;have c4:w2.heap[D]?=some (.deferred (some [])):=(av D (GC.1 hK).1 oa).trans hK;have c5:=O b5;clear M b5 ag c0 hK
  gi_wp2
  gi_loopw [38] (fun i wr=>∃(j:Nat) (S':Nat->Nat),j<=H.length/\i=J (j:Int)/\AD wr bk r0 r1 w1.heap.size E S' (DM hf d sx (H.take j))/\KX (fun b=>b=bk\/b=w1.heap.size) bk w2 wr) (fun i _=>H.length-(intOf i).toNat)
  case atStart=>exact⟨0,S,oa,rfl,c5,KX.refl _ _ _⟩
  case round=>
   obtain⟨j,S',hj,rfl,ah,B⟩:=hrel;by_cases a7:j<H.length
   ·obtain⟨p,U⟩:∃p,p=H[j]:=⟨_,rfl⟩;obtain⟨a8,b6,dt⟩:=z af H[j] (List.getElem_mem a7);rw[<-U]at a8 b6;have f:=M3 (hf:=hf) (d:=d) (x:=sx) (l:=H.take j) oe (fun p U=>(af p (List.mem_of_mem_take U)).1);rw[List.length_take,Nat.min_eq_left oa]at f;have b7:DM hf d sx (H.take (j+1))=AL hf (DM hf d sx (H.take j)) (d.L p).key p:=by rw[<-List.take_append_getElem a7,Js,<-U]
    obtain⟨gq,cq,eq,g1,g2,_,b8,_⟩:=ai.form oa;cases eq;have hb:=fun b (h:b<W.heap.size) (h':b≠bk)=>(B.BB b oa (by rintro(e|e)<;>omega)).trans (av b h h');have rc:wr.cell? (G gq j)=some (.pointer (some (G (E p) 0))):=(As (a:=(G gq j)) (hb gq g2 oa)).trans (by rw[b8 j a7,U];simp[eP,List.getD,a7]);have b9:wr.cell? (y w 0)=some (.pointer (some (G bk 0))):=(As (a:=(y w 0)) (B.BB w.heap.size oa (by rintro(e|e)<;>omega))).trans bm;have Q:=ah.Cr p (by rw[f.n];exact a8);rw[f.L]at Q;have du:=B.CN.size;have dv:=Q.lt;have dw:gq<wr.heap.size:=oa;have dx:w.heap.size<wr.heap.size:=oa;have dy:bk<wr.heap.size:=oa;have aw:Hid (C9 307 #[.pointer (some (G bk 2)),V (d.L p).key.kind (d.L p).key.num (d.L p).key.Ag (d.L p).key.str (d.L p).key.ref,.pointer (some (G (E p) 0))] wr.drew fun e w5=>(∃u,e=.returned u)/\(∃S5,AD w5 bk r0 r1 w1.heap.size E S5 (DM hf d sx (H.take (j+1))))/\KX (fun b=>b=bk\/b=w1.heap.size) bk w2 w5/\XP w.heap.size bk (E p) (d.L p).key w5):=O (by
     have dz:=f.use;have dC:=f.used;refine(J1 T cg bk r0 r1 w1.heap.size E S' _ (d.L p).key p (hf (d.L p).key) (HH p a8 b6) wr.drew (ch _ _ HT ((a6.CN.trans B.CN).drew)) (ah.below (Cs _ _).drew) ⟨by rw[f.n];omega,by rw[f.m];omega,by rw[f.x];omega⟩ (fun q hq=>by rw[f.x]at hq;have:=f.pos q hq;omega) (by rw[f.L]) (by rw[f.x];omega) oa oa).mono ?_;rintro e w5 ⟨⟨hu,a5,S5,c6,bn⟩,br⟩;rw[<-EO c6,<-b7]at bn;have ak:KX (fun b=>b=bk\/b=w1.heap.size) bk w2 w5:=B.trans (KX.trans ((KX.refl _ _ _).drew) br);have ax:=M3 (hf:=hf) (d:=d) (x:=sx) (l:=H.take (j+1)) oe (fun p U=>(af p (List.mem_of_mem_take U)).1);have F:=bn.Cr p (by rw[ax.n];exact a8);rw[ax.L]at F;exact⟨hu,⟨S5,bn⟩,ak,(As (a:=(y w 0)) (ak.BB w.heap.size oa (by rintro(e|e)<;>omega))).trans bm,F.k0,F.k1,F.k2,F.k3,F.k4⟩)
    have bh:XP w.heap.size bk (E p) (d.L p).key wr.drew:=⟨b9,Q.k0,Q.k1,Q.k2,Q.k3,Q.k4⟩;clear f b7 b8 hb Q ah B b9 U
    gi_wp2_with fail
    refine Oe (XP w.heap.size bk (E p) (d.L p).key) og ?_;change wpAnyH _ _ _ _ _ _ _ _ (World.drew _);refine tz 0 (h:=tz 1 (h:=tz 2 (h:=tz 3 (h:=tz 4 (h:=tz 5 (h:=tz 6 (h:=tz 7 (h:=tz 8 (h:=?_)))))))));refine ry 9 (fun K hK=>?_);go_simp;refine aw.mono ?_;rintro e w5 ⟨⟨dU,rfl⟩,⟨S5,ca⟩,ak,cc⟩;refine hK.out _ _ cc (fun _=>?_);clear hK K bh aw cc;refine Fj ?_;have c7:=O ca;have c8:=O ak;clear ca ak
    gi_wp2
    go_roundw
    case rel=>exact⟨j+1,S5,oa,oh,c7,c8⟩
    case measure=>simp[intOf];omega
   ·have c9:j=H.length:=oa;subst c9;rw[List.take_length]at ah;have cd:wr.heap[D]?=some (.deferred (some [])):=(B.BB D oa (by rintro(e|e)<;>omega)).trans c4;have da:=O ah;have dc:Hid (KX (fun b=>b=bk) bk w wr):=O ⟨a6.CN.trans B.CN,fun b hb hm=>(B.BB b (oj a6.CN.size) (by rintro(e|e);exact hm e;omega)).trans (a6.BB b hb hm)⟩;clear ah B
    gi_wp2
    refine⟨od,.inl ⟨_,_,rfl,AaU cd,?_⟩⟩;have hg:=I9 wr D (.deferred none);exact⟨_,Aay rfl _ _ _,⟨⟨_,rfl⟩,w1.heap.size,S',by rw[z cy,z cN];exact da.grown hg (fun r e=>by cases e;exact⟨_,cd,rfl⟩),oa⟩,dc.grown hg oa (fun k e=>by cases e;exact .inl oa)⟩
theorem Bl.Vu{p:Pr}(h:w.heap[b]?=some (.cells (Fx p i) 294 (0,0))):Bl w b p i:=
 ⟨(GC.1 h).1,by simp[World.cell?,h,Fx],by simp[World.cell?,h,Fx],by simp[World.cell?,h,Fx],by simp[World.cell?,h,Fx],by simp[World.cell?,h,Fx],by simp[World.cell?,h,Fx],by simp[World.cell?,h,Fx],by simp[World.cell?,h,Fx],by simp[World.cell?,h,Fx],by simp[World.cell?,h,Fx],by simp[World.cell?,h,Fx],by simp[World.cell?,h,Fx],h⟩
theorem Bl.Zs{p:Pr}(h:Bl w b p i)(j:Nat):Bl (w.setCell (G b 11) (J (j:Int))) b p j:=
 Bl.Vu ((Is w b 11 _ _ _ h.ob).trans (by simp[Fx]))
structure O8 (p n0:Nat) (E:Nat->Nat) (n:Nat) (A B:Y):Prop where
 size:A.heap.size<=B.heap.size
 block:∀b,b<n0->b≠p->(∀i,i<n->E i≠b)->B.heap[b]?=A.heap[b]?
 Cr:∀i q,i<n->q≠11->B.cell? (G (E i) q)=A.cell? (G (E i) q)
theorem O8.refl(p n0:Nat)(E:Nat->Nat)(n:Nat)(A:Y):O8 p n0 E n A A:=⟨Be _,fun _ _ _ _=>rfl,fun _ _ _ _=>rfl⟩
theorem O8.trans{B:Y}(h:O8 p n0 E n A B)(k:O8 p n0 E n B C):O8 p n0 E n A C:=⟨GO h.size k.size,fun b h1 h2 h3=>(k.block b h1 h2 h3).trans (h.block b h1 h2 h3),fun i q h1 h2=>(k.Cr i q h1 h2).trans (h.Cr i q h1 h2)⟩
theorem O8.Ar{B:Y}(h:Below n0 A B)(a:∀i,i<n->E i<n0):O8 p n0 E n A B:=⟨h.size,fun b h1 _ _=>h.block b h1,fun i q h1 _=>h.cell (p:=(G (E i) q)) (a i h1)⟩
theorem O8.put(hn:n0<=w.heap.size)(a:∀i,i<n->E i<n0)(W:Y)(l:Nat)(o o':Obj)(hl:w.heap.size<=l)(h:W.heap[l]?=some o)(_:o.isCells=false)(_:o.isWalk=false):O8 p n0 E n W (W.putObj l o'):=
 O8.Ar ((Cs n0 W).grown (I9 W l o') (oj (GC.1 h).1) (fun k e=>by cases e;omega)) a
theorem OL(n:Nat)(hn:1<=n)(bk r U R2 C p n0:Nat)(E S:Nat->Nat)(d:Dc)(w:Y)(P:Jk w bk r U R2 E S d)(Q:Small d)(V:0<d.n->r<n0/\r≠p/\∀i,i<d.n->E i≠r)
  (m0:w.cell? (G C 0)=some (Q9 bk)):
  SeqStopsK Fence.wide n prog 248 #[Q9 C] (fun a:JL d=>#[Q9 (E a.1)]) (O8 p n0 E d.n)
   (XU d) (Rl d) d.n w:=fun l Z Jx W D X F R T=>by
 have lm:=ID _ _ m0;have m0:=ol D lm m0;have c:=P.below D;obtain⟨a0,k0,c0,s⟩:=c.c0;have H:=O s;clear s;have lb:=c.lt;have ad:=Q.n;have HY:=O R;have H0:=O T;have t:=O c;clear F X R D T c P Q;refine callsIn_of_wp func248 rfl trivial ?_ rfl;simp only[ntmps248,Aau,Aae,XN,Nat.reduceAdd,Nat.reduceSub,Aam,Aal,Aav,Aas,W9,Aar]
 gi_wp2
 gi_loopw [10] (fun i wr=>∃(k:Nat) (pre:List (JL d)),k<=d.n/\i=J (k:Int)/\Hk d k pre/\Z pre wr/\O8 p n0 E d.n W wr) (fun i _=>d.n-(intOf i).toNat)
 case atStart=>exact⟨0,[],oa,rfl,rfl,H0,O8.refl _ _ _ _ _⟩
 case round=>
  obtain⟨k,pre,hk,rfl,f,g,j⟩:=hrel;by_cases b:k<d.n
  ·obtain rfl:=z H oa;have m:=V oa;have p0:=(As (a:=(G r k)) (j.block _ m.1 m.2.1 m.2.2)).trans (t.r0 k b);have t0:=(j.Cr k 10 b oc).trans (t.Cr k b).tn;have o:=O f;have u:=O j;clear f j m;by_cases q:(d.L k).turn=0
   ·have B:Hid (Hk d (k+1) pre):=O (by unfold Hk;rw[Ce q];exact o);rw[q]at t0;clear q
    gi_wp2
    refine⟨fun _ h=>(by cases h),?_⟩
    gi_wp2
    go_roundw
    case rel=>exact⟨k+1,pre,oa,oh,B,g,u⟩
    case measure=>simp[intOf];omega
   ·have ae:((d.L k).turn !=0)=true:=by simp[q]
    obtain⟨fn,tmps,assign,body,hy,v⟩:=z HY pre ⟨k,b,q⟩ wr g (by
     have h1:(pre.map (·.1)).length=(AM d k).length:=congrArg List.length o;rw[AaP]at h1;have:=Ff d k;omega)
    have B:Hid (Hk d (k+1) (pre++[⟨k,b,q⟩])):=O (by
     unfold Hk;rw[Bf q,Aaq,show pre.map (·.1)=AM d k from z o];rfl)
    have I:=O v;clear v g;dsimp only at hy
    gi_wp2
    refine I.mono ?_;rintro e W3 (⟨rfl,K,M⟩|⟨rfl,x⟩)
    ·clear I hy
     gi_wp2
     go_roundw
     case rel=>exact⟨k+1,_,oa,oh,B,K,u.trans M⟩
     case measure=>simp[intOf];omega
    ·clear I hy
     gi_wp2
     refine E1 (Aay rfl _ _ _) rfl ?_;exact⟨⟨_,rfl⟩,.inr ⟨_,B.pre oa,x⟩⟩
  ·have A:k=d.n:=oa;subst A;have HS:=O f;clear f
   gi_wp2
   go_end0;exact⟨⟨_,rfl⟩,.inl ⟨pre,HS,g⟩⟩
end
noncomputable def PN(hf:Vl->Nat)(d:Dc):Dc:=if(d.x:Int)<2*(d.used+1)then DM hf d (Ex ((Ct d d.n).length+1)) (Ct d d.n)else d
def JK(e:Nat)(k:Vl)(W:Y):Prop:=W.cell? (G e 0)=some (J k.kind)/\W.cell? (G e 1)=some (J k.num)/\W.cell? (G e 2)=some (F9 k.Ag)/\W.cell? (G e 3)=some (.string k.str)/\W.cell? (G e 4)=some (J k.ref)
theorem MP(T:World->Prop)(H:EM T)(hf:Vl->Nat)(bk:Nat)(I:∀w w',T w->Below bk w w'->T w')(r0 r1:V9)(R2:Nat)(E S:Nat->Nat)(d:Dc)(w:Y)(hT:T w)(A:AD w bk r0 r1 R2 E S d)(Z:Small d)
  (hH:∀i,i<d.n->(d.L i).turn≠0->O7 T (d.L i).key (hf (d.L i).key)) (s:(Ct d d.n).length+1<=500) (r:Bl w (E d.n) (d.L d.n) d.n) (au:bk<E d.n) (hk:O7 T (d.L d.n).key (hf (d.L d.n).key))
  (hX:∀j,j<d.x->d.X j=0\/d.X j=-1\/0<d.X j) (hu:(B5 d.X d.x:Int)=d.used):
  C9 296 #[.pointer (some (G bk 0)),.pointer (some (G (E d.n) 0))] w fun e w'=>((∃u,e=.returned u)/\∃B S',AD w' bk r0 r1 B E S' (AL hf (PN hf d) (d.L d.n).key d.n))/\KX (fun b=>b=bk\/b=R2) bk w w':=by
 have av:=A.lt;have c3:=A.c3;have c4:=A.c4;have hx:=Z.x;have ae:B5 d.X d.x<=d.x:=VL _ _;have aw:IntKind.i64.wrap (d.used+1)=d.used+1:=by rw[Hi];omega
 have ax:IntKind.i64.wrap (2*(d.used+1))=2*(d.used+1):=by rw[Hi];omega
 obtain⟨c2,M⟩:=A.slots.block (b:=R2) rfl;have ay:E d.n≠R2:=fun e=>A8 (e▸r.ob) M oc;have az:=A.Kh;have C:∀(W:Y) (Q2:Nat) (P:Nat->Nat) (c:Dc),AD W bk r0 r1 Q2 E P c->Small c->T W->Bl W (E d.n) (d.L d.n) d.n->c.n=d.n->c.L=d.L->(∀j,j<c.x->c.X j=0\/c.X j=-1\/0<c.X j)->B5 c.X c.x<c.x->0<=c.used->c.used<=4194304->
   C9 307 #[.pointer (some (G bk 2)),V (d.L d.n).key.kind (d.L d.n).key.num (d.L d.n).key.Ag (d.L d.n).key.str (d.L d.n).key.ref,.pointer (some (G (E d.n) 0))] W fun e w'=>((∃u,e=.returned u)/\∃S',AD w' bk r0 r1 Q2 E S' (AL hf c (d.L d.n).key d.n))/\KX (fun b=>b=bk\/b=Q2) bk W w':=fun W Q2 P c h1 h2 h3 h4 h5 h6 h7 h8 h9 aj=>by
  refine(J1 T H bk r0 r1 Q2 E P c (d.L d.n).key d.n (hf (d.L d.n).key) hk W h3 h1 h2 h7 (by rw[h6]) h8 h9 aj).mono ?_;rintro e w' ⟨⟨D,a,S',ak,hN⟩,ao⟩;refine⟨⟨D,S',?_⟩,ao⟩;rw[EO ak];exact hN
 by_cases D:(d.x:Int)<2*(d.used+1)
 ·have hd:decide ((d.x:Int)<2*(d.used+1))=true:=by simpa using D
  have HR:Hid (PN hf d=DM hf d (Ex ((Ct d d.n).length+1)) (Ct d d.n)):=O (DD D);have aM:=S7 s;have a6:=N1 s;have af:=M3 (hf:=hf) (d:=d) (x:=Ex ((Ct d d.n).length+1)) (l:=Ct d d.n) oa (fun p hp=>(NC hp).1);have F:Hid (∀W,B9 w W->C9 306 #[.pointer (some (G bk 0)),J 1] W fun e w'=>((∃u,e=.returned u)/\∃B S',AD w' bk r0 r1 B E S' (DM hf d (Ex ((Ct d d.n).length+1)) (Ct d d.n))/\W.heap.size<=B)/\KX (fun b=>b=bk) bk W w'):=O (fun W hW=>Hg T H hf bk I r0 r1 R2 E S d 1 W (H _ _ hT hW) (A.below hW) Z hH s);generalize DM hf d (Ex ((Ct d d.n).length+1)) (Ct d d.n)=c at*;have ad:=O C;have HE:=O r;have HT:=O hT;have aq:=O af;have HS:=O Z;have HH:=O hH;have Q:=r.lt;clear C r A hT af Z hH hX hu ae M D
  go_enter func296,ntmps296
  go_wp2_with fail
  go_region
  go_wp2_with fail
  refine(F _ (Cs _ _).drew).mono ?_;rintro e w1 ⟨⟨⟨uu,rfl⟩,Q2,S1,ag,ah⟩,f⟩;have f:KX (fun b=>b=bk) bk w w1:=(KX.refl _ _ _).drew.trans f;have ah:w.heap.size<=Q2:=ah;have z1:=f.CN.size;have q:Bl w1 (E d.n) (d.L d.n) d.n:=HE.keep z1 (f.BB _ Q oa);have R:JK (E d.n) (d.L d.n).key w1.drew:=⟨q.k0,q.k1,q.k2,q.k3,q.k4⟩;have g:Hid (C9 307 #[.pointer (some (G bk 2)),V (d.L d.n).key.kind (d.L d.n).key.num (d.L d.n).key.Ag (d.L d.n).key.str (d.L d.n).key.ref,.pointer (some (G (E d.n) 0))] w1.drew fun e w'=>((∃u,e=.returned u)/\∃S',AD w' bk r0 r1 Q2 E S' (AL hf c (d.L d.n).key d.n))/\JK (E d.n) (d.L d.n).key w'/\KX (fun b=>b=bk\/b=R2) bk w w'):=O (by
   have o:=z aq;have a7:=o.use;have a8:=o.used;have ai:=z HS;refine(ad w1.drew Q2 S1 c (ag.below (Cs _ _).drew) ⟨by rw[o.n];exact ai.n,by rw[o.m];exact ai.m,by rw[o.x];omega⟩ (I _ _ HT f.CN.drew) (q.keep (Be _) rfl) o.n o.L (fun j hj=>by rw[o.x]at hj;have:=o.pos j hj;omega) (by rw[o.x];omega) oa oa).mono ?_;rintro e w' ⟨h1,h2⟩;have h3:=h2.BB (E d.n) q.lt (by rintro(e|e)<;>omega);have k:=q.keep h2.CN.size h3;exact⟨h1,⟨k.k0,k.k1,k.k2,k.k3,k.k4⟩,f.CN.trans (AaK (Cs _ _).drew h2.CN),fun b hb hm=>(h2.BB b (by show b<w1.heap.size;omega) (by rintro(e|e);exact hm (.inl e);omega)).trans (f.BB b hb (fun e=>hm (.inl e)))⟩)
  clear ag f q F;go_wp2_with fail;refine Hl (JK (E d.n) (d.L d.n).key) ?_;refine tz 0 (h:=tz 1 (h:=tz 2 (h:=tz 3 (h:=tz 4 (h:=tz 5 (h:=tz 6 (h:=tz 7 (h:=tz 8 (h:=?_)))))))));refine ry 9 (fun K hK=>?_);go_simp;refine g.mono ?_;rintro e w2 ⟨⟨⟨ar,rfl⟩,P,U⟩,t,v⟩;refine hK.out _ _ t (fun _=>?_);clear hK K R g t;refine Fj ?_;go_wp2;go_end0;exact⟨⟨⟨_,rfl⟩,Q2,P,by rw[z HR];exact U⟩,v⟩
 ·have hd:decide ((d.x:Int)<2*(d.used+1))=false:=by simpa using D
  have HR:Hid (PN hf d=d):=O (C3 D);have Q:=r.lt;have R:JK (E d.n) (d.L d.n).key w.drew.drew:=⟨r.k0,r.k1,r.k2,r.k3,r.k4⟩;have g:Hid (C9 307 #[.pointer (some (G bk 2)),V (d.L d.n).key.kind (d.L d.n).key.num (d.L d.n).key.Ag (d.L d.n).key.str (d.L d.n).key.ref,.pointer (some (G (E d.n) 0))] w.drew.drew fun e w'=>((∃u,e=.returned u)/\∃S',AD w' bk r0 r1 R2 E S' (AL hf d (d.L d.n).key d.n))/\JK (E d.n) (d.L d.n).key w'/\KX (fun b=>b=bk\/b=R2) bk w w'):=O (by
   refine(C w.drew.drew R2 S d (A.below (Cs _ _).drew.drew) Z (I _ _ hT (Cs _ _).drew.drew) (r.keep (Be _) rfl) rfl rfl hX oa oa oa).mono ?_;rintro e w' ⟨h1,h2⟩;have h3:=h2.BB (E d.n) Q (by rintro(e|e)<;>omega);have k:=r.keep h2.CN.size h3;exact⟨h1,⟨k.k0,k.k1,k.k2,k.k3,k.k4⟩,KX.trans ((KX.refl _ _ _).drew.drew) h2⟩)
  clear A Z hT hH r C hk hX hu ae M D
  go_enter func296,ntmps296
  go_wp2_with fail
  go_region
  go_wp2_with fail
  refine Hl (JK (E d.n) (d.L d.n).key) ?_;refine tz 0 (h:=tz 1 (h:=tz 2 (h:=tz 3 (h:=tz 4 (h:=tz 5 (h:=tz 6 (h:=tz 7 (h:=tz 8 (h:=?_)))))))));refine ry 9 (fun K hK=>?_);go_simp;refine g.mono ?_;rintro e w2 ⟨⟨⟨ar,rfl⟩,P,U⟩,t,v⟩;refine hK.out _ _ t (fun _=>?_);clear hK K R g t;refine Fj ?_;go_wp2;go_end0;exact⟨⟨⟨_,rfl⟩,R2,P,by rw[z HR];exact U⟩,v⟩
section
variable {w w3:Y} {bk:Nat} {r0 r1:V9} {R2:Nat} {E S:Nat->Nat} {d:Dc}
theorem AD.eH(h:AD w bk r0 r1 R2 E S d){W:Y}(r:B9 w W){o:Obj}{g3 f:Nat}{x:Int}{a:Option Addr}(C:a=B8 E x)(h1:w3.ownsRow (bk+1) C1 1 (S9 g3 (d.m+1) f) (d.m+1) (Gd (fun i=>B8 E (d.I i)) d.m++[.pointer a]))(s:W.grownBy w3 r1.ownBlock)(hl:r1.ownBlock=some g3\/w.heap.size<=g3):
  AD (w3.setCell (G bk 1) (S9 g3 (d.m+1) f)) bk r0 (S9 g3 (d.m+1) f) R2 E S {d with m:=d.m+1,I:=AP d.I d.m x}/\KX (fun b=>b=bk\/r1.ownBlock=some b) bk w (w3.setCell (G bk 1) (S9 g3 (d.m+1) f)):=by
 have g:=h.lt;have u:=r.size;have hz:w.heap.size<=w3.heap.size:=GO u s.size;have l:∀b,b<w.heap.size->r1.ownBlock≠some b->w3.heap[b]?=w.heap[b]?:=fun b hb D=>(s.block b oa (fun e=>D e.symm)).trans (r.block b hb);have p:r1.ownBlock≠some bk:=fun e=>oj (h.ints.lt bk e).1;have os:∀b,b≠bk->(w3.setCell (G bk 1) (S9 g3 (d.m+1) f)).heap[b]?=w3.heap[b]?:=fun b hb=>A0 _ _ _ _ (by exact hb);have hc:∀q,w3.cell? (G bk q)=w.cell? (G bk q):=fun q=>As (a:=(G bk q)) (l bk g p);have n:∀q,q≠1->(w3.setCell (G bk 1) (S9 g3 (d.m+1) f)).cell? (G bk q)=w.cell? (G bk q):=fun q hq=>(Aa (fun e=>hq e.symm)).trans (hc q);have ty:∀{t:TypeId} {c:Array Value} {b:Nat},w.heap[b]?=some (.cells c t (0,0))->t≠C1->r1.ownBlock≠some b:=fun{t c b} hb F e=>by
  obtain⟨L,v⟩:=h.ints.block e;exact A8 hb v F
 have H:=(World.ownsRow.lt h1 g3 rfl).1;refine⟨⟨by simpa using At g hz,(n 0 oc).trans h.c0,NX _ _ _ (by rw[hc,h.c1];rfl),(n 2 oc).trans h.c2,(n 3 oc).trans h.c3,(n 4 oc).trans h.c4,(n 5 oc).trans h.c5,(n 6 oc).trans h.c6,fun q=>by rw[TC];exact(GW (a:=(G bk q)) (l bk g p)).trans (h.fz q),?_,?_,⟨_,_,rfl⟩,?_,?_,fun i hi=>?_,h.eb,h.inj,fun j hj=>?_,h.sg⟩,?_⟩
 ·exact Cu h.log (fun q e=>(os q (oj (h.log.lt q e).1)).trans (l q (h.log.lt q e).2 (fun e'=>h.ap q e e')))
 ·have h2:(w3.setCell (G bk 1) (S9 g3 (d.m+1) f)).ownsRow (bk+1) C1 1 (S9 g3 (d.m+1) f) (d.m+1) (Gd (fun i=>B8 E (d.I i)) d.m++[.pointer a]):=Cu h1 (fun q e=>os q (by
   have e':g3=q:=by simpa[Value.ownBlock]using e
   omega))
  rw[SL]at h2;refine Rw.congr h2 (fun j hj=>?_);show B8 E (AP d.I d.m x j)=AP (fun i=>B8 E (d.I i)) d.m a j;by_cases e:j=d.m
  ·subst e;rw[Ao,Ao,C]
  ·rw[Af _ _ e,Af _ _ e]
 ·exact Cu h.slots (fun q e=>by
   obtain⟨c,hb⟩:=h.slots.block e;exact(os q (oj (h.slots.lt q e).1)).trans (l q (h.slots.lt q e).2 (ty hb oc)))
 ·intro q e e';have e2:g3=q:=by simpa[Value.ownBlock]using e'
  subst e2;rcases hl with hl|hl
  ·exact h.ap g3 e hl
  ·have:=(h.log.lt g3 e).2;omega
 ·exact(h.Cr i hi).keep (by simpa using hz) ((os _ (oj (h.eb i hi))).trans (l _ (h.Cr i hi).lt (ty (h.Cr i hi).ob oc)))
 ·by_cases K:d.X j=0
  ·exact⟨fun A=>absurd A (by show¬0<d.X j;omega),fun A=>absurd A (by show¬d.X j<0;omega)⟩
  ·exact Dp.keep (d:={d with m:=d.m+1,I:=AP d.I d.m x}) (w:=w) (h.sl j hj) (by simpa using hz) (fun c hc=>(os _ (oj (h.sg j hj K))).trans (l _ (GC.1 hc).1 (ty hc oc)))
 ·refine⟨((r.mono oa).grown s oa (fun k e=>oj (h.ints.lt k e).1)).setCell (by exact Be _) _,fun b hb B=>(os b (fun e=>B (.inl e))).trans (l b hb (fun e=>B (.inr e)))⟩
end
theorem cR{v:Vl}:∀(f a:Nat),probe {c with n:=n} v a f=probe c v a f:=by
 intro f
 induction f with
 |zero=>intro a;rfl
 |succ f ih=>intro a;unfold probe;rw[ih]
theorem ZA(c:Dc)(n:Nat)(v:Vl)(a:Nat):AQ {c with n:=n} v a=AQ c v a:=by
 unfold AQ;show _=_;simp only[cR]
theorem D4.cut(h:Cj K hf c)(hn:c.n=n+1)(hs:AA c.m (c.L n).key):D4 {c with n:=n}:=by
 obtain⟨h1,h2,h3,h4⟩:=h.d4;refine⟨h1,fun j hj=>?_,?_,?_⟩
 ·rcases h.idx.range j hj with e|e|⟨e1,e2,e3,a⟩
  ·exact .inl e
  ·exact .inr (.inl e)
  ·have b:(c.X j-1).toNat≠n:=fun e=>a (by rw[e];exact hs);exact .inr (.inr ⟨e1,by show c.X j<=(n:Int);omega,e3,a⟩)
 ·rw[Ef];rw[Ef]at h3;exact h3
 ·rw[Ef];rw[Ef]at h4;exact h4
def XQ(bk R2 x s b e:Nat)(W:Y):Prop:=W.cell? (G bk 3)=some (S9 R2 x x)/\W.cell? (G R2 s)=some (Q9 b)/\W.cell? (G b 5)=some (Q9 e)
theorem Hz(bk:Nat)(r0 r1:V9)(R2:Nat)(E S:Nat->Nat)(d:Dc)(s:Nat)(w:Y)(a:AD w bk r0 r1 R2 E S d)(c:Small d)(hs:s<d.x):
  C9 292 #[.pointer (some (G bk 2)),J (s:Int)] w fun e w'=>((∃u,e=.returned u)/\∃S',AD w' bk r0 r1 R2 E S' {d with X:=AP d.X s (-1)})/\KX (fun b=>b=R2) bk w w':=by
 have hx:=c.x;have i:=a.lt;have c3:=a.c3;have f:=a.Kh;have j:=f.2;obtain⟨g,m,e,_,_,_,hc,hf⟩:=a.slots.form oa;cases e;have d0:=hc s hs;have f0:=hf s;have k:=O (a.SN hs (x:=-1) oc (A:=RU) ⟨fun h=>oa,fun _=>rfl⟩);have l:Hid (KX (fun b=>b=R2) bk w ((w.setCell (G R2 s) (Q9 w.heap.size)).alloc (.cells RU 333))):=O (KX.alloc (n:=bk) (A:=w) ((KX.refl (fun b=>b=R2) _ _).setCell oa (fun _=>rfl) _) oa _);clear a c hc hf f
 go_enter func292,ntmps292
 go_wp2;go_end0;exact⟨⟨⟨_,rfl⟩,_,k⟩,l⟩
structure Z3 (K:Vl->Prop) (hf:Vl->Nat) (w:Y) (bk:Nat) (r0 r1:V9) (R2:Nat) (E:Nat->Nat) (d D1:Dc) (c:Dc) (f:Nat) (a:V9) (S:Nat->Nat) (W:Y):Prop where
 inv:Cj K hf c
 n:c.n=d.n+1
 L:c.L=d.L
 x:c.x=d.x
 m:d.m+1<=c.m
 pos:Fg c.X c.x<f
 mv:CG hf f c=CG hf (d.x+1) D1
 sum:c.m+Fg c.X c.x<=d.m+1+d.x
 bm:AD W bk r0 a R2 E S {c with n:=d.n}
 kx:KX (fun b=>b=bk\/r1.ownBlock=some b\/b=R2) bk w W
 row:∀b,a.ownBlock=some b->r1.ownBlock=some b\/w.heap.size<=b
theorem Z3.below{D1:Dc}{f:Nat}{a:V9}(h:Z3 K hf w bk r0 r1 R2 E d D1 c f a S W)(hb:B9 W W')(b:bk<w.heap.size):Z3 K hf w bk r0 r1 R2 E d D1 c f a S W':=
 ⟨h.inv,h.n,h.L,h.x,h.m,h.pos,h.mv,h.sum,h.bm.below hb,h.kx.trans (KX.Ar hb (oj h.bm.lt)),h.row⟩
theorem Z3.step(p:KeyLaw K hf){w:Y}{bk:Nat}{r0 r1:V9}{R2:Nat}{E:Nat->Nat}{d D1 c:Dc}{f:Nat}{g i:V9}{S S':Nat->Nat}{W k j:Y}{s:Nat}(h:Z3 K hf w bk r0 r1 R2 E d D1 c f g S W)(e:AQ c (Dm ((c.m:Int)+1)) (hf (Dm ((c.m:Int)+1)))=some s)
  (k1:KX (fun b=>b=bk\/g.ownBlock=some b) bk W k) (q:∀b,i.ownBlock=some b->g.ownBlock=some b\/W.heap.size<=b) (k2:KX (fun b=>b=R2) bk k j) (r:AD j bk r0 i R2 E S' {c with m:=c.m+1,I:=AP c.I c.m (c.X s),X:=AP c.X s (-1),n:=d.n}) (t:bk<w.heap.size):∃f',Z3 K hf w bk r0 r1 R2 E d D1 (Eb c s) f' i S' j:=by
 obtain⟨s1,s2,A,B⟩:=h.inv.slot e;obtain⟨f',rfl⟩:∃f',f=f'+1:=⟨f-1,oj h.pos⟩;have u:=JD s2 c.x;rw[DD s1]at u;have l:=h.pos;have o:=h.sum;have C:=h.m;have hz:=h.kx.CN.size;have v:=k1.CN.size;refine⟨f',K6 p h.inv e,h.n,h.L,h.x,by show d.m+1<=c.m+1;omega,by show Fg (AP c.X s (-1)) c.x<f';omega,by rw[<-h.mv,FF e],by show c.m+1+Fg (AP c.X s (-1)) c.x<=_;omega,r,⟨h.kx.CN.trans (k1.CN.trans k2.CN),fun b hb a=>?_⟩,fun b hb=>?_⟩
 ·refine(k2.BB b oa (fun e=>a (.inr (.inr e)))).trans ((k1.BB b oa (fun e=>?_)).trans (h.kx.BB b hb a));rcases e with e|e
  ·exact a (.inl e)
  ·rcases h.row b e with e'|e'
   ·exact a (.inr (.inl e'))
   ·omega
 ·rcases q b hb with e'|e'
  ·exact h.row b e'
  ·exact .inr oa
theorem MO(T:World->Prop)(b2:EM T)(hf:Vl->Nat)(K:Vl->Prop)(KL:KeyLaw K hf)(b3:∀v,K v->O7 T v (hf v))(bk:Nat)(b4:∀w w',T w->Below bk w w'->T w')(r0 r1:V9)(R2:Nat)(E S:Nat->Nat)(d:Dc)(w:Y)(hT:T w)(hM:AD w bk r0 r1 R2 E S d)(hS:Small d)(ck:d.m<=4000000)
  (b5:(d.L d.n).key.kind=2) (DI:(d.L d.n).key.num=(d.m:Int)+1) (hI:Cj K hf {d with n:=d.n+1,m:=d.m+1,I:=AP d.I d.m ((d.n:Int)+1)}):
  C9 295 #[.pointer (some (G bk 0)),.pointer (some (G (E d.n) 0))] w fun e w'=>((∃u,e=.returned u)/\∃b6 S',AD w' bk r0 b6 R2 E S' {CG hf (d.x+1) {d with n:=d.n+1,m:=d.m+1,I:=AP d.I d.m ((d.n:Int)+1)}with n:=d.n})/\KX (fun b=>b=bk\/r1.ownBlock=some b\/b=R2) bk w w':=by
 obtain⟨i0,a6,a7,a8,bb⟩:=P9 IJ;obtain⟨D1,B⟩:∃D1:Dc,D1={d with n:=d.n+1,m:=d.m+1,I:=AP d.I d.m ((d.n:Int)+1)}:=⟨_,rfl⟩;rw[<-B]at hI ⊢;have cl:d.x<=4000:=by
  have:=hI.sz;rw[B]at this;rcases this with h|h
  ·have h:d.x=0:=h;omega
  ·exact h.2.1
 obtain⟨Q1,q1,rfl⟩:=hM.rf;have au:=hM.lt;have c1:=hM.c1;have f1:=hM.fz 1;have bj:=O hM.ints;have cm:=(hM.ints.lt Q1 rfl).1;have ax:∀(W:Y) (c:Dc) (f:Nat) (R:V9) (S':Nat->Nat),Z3 K hf w bk r0 (.slice (some (G Q1 0)) d.m q1) R2 E d D1 c f R S' W->(∀w',B9 W w'->C9 270 #[.pointer (some (G bk 0))] w' fun e bc=>e=.returned (V 2 ((c.m:Int)+1) 0 ⟨#[]⟩ 0)/\B9 w' bc)/\
   (∀w',B9 W w'->C9 280 #[.pointer (some (G bk 2)),V 2 ((c.m:Int)+1) 0 ⟨#[]⟩ 0] w' fun e bc=>e=.returned (J (Fb (AQ c (Dm ((c.m:Int)+1)) (hf (Dm ((c.m:Int)+1))))))/\B9 w' bc):=fun W c f R S' h=>by
  have bn:Small {c with n:=d.n}:=⟨hS.n,by show c.m<=_;have:=h.sum;omega,by show c.x<=_;rw[h.x];omega⟩;refine⟨fun w' j=>?_,fun w' j=>?_⟩
  ·obtain⟨R0,F,hB⟩:=(h.bm.below j).book;exact Ia bk R0 F R2 E S' {c with n:=d.n} w' hB bn
  ·obtain⟨R0,F,hB⟩:=(h.bm.below j).book;have h4:D4 {c with n:=d.n}:=D4.cut h.inv h.n ⟨by rw[h.L];exact b5,by rw[h.L,DI];omega,by rw[h.L,DI];have:=h.m;omega⟩;have:=M4 T b2 bk R0 F R2 E S' {c with n:=d.n} (Dm ((c.m:Int)+1)) (hf (Dm ((c.m:Int)+1))) (b3 _ (KL.own _)) w' (b4 _ _ hT (h.kx.CN.trans (j.mono (oj h.bm.lt)))) hB bn h4;rw[ZA]at this;exact this
 have t:=O ax;have START:∀(o:Obj) (g3 g:Nat) (w3:Y),w3.ownsRow (bk+1) C1 1 (.slice (some (G g3 0)) (d.m+1) g) (d.m+1) (Gd (fun i=>B8 E (d.I i)) d.m++[.pointer (some (G (E d.n) 0))])->(w.alloc o).grownBy w3 (Value.slice (some (G Q1 0)) d.m q1).ownBlock->((Value.slice (some (G Q1 0)) d.m q1).ownBlock=some g3\/g3=w.heap.size+1)->
   w3.cell? (G bk 1)=some (.slice (some (G Q1 0)) d.m q1)/\w3.frozen? (G bk 1)=false/\bk<w3.heap.size/\Z3 K hf w bk r0 (.slice (some (G Q1 0)) d.m q1) R2 E d D1 D1 (d.x+1) (.slice (some (G g3 0)) (d.m+1) g) S (w3.setCell (G bk 1) (.slice (some (G g3 0)) (d.m+1) g)):=fun o g3 g w3 h1 h2 h3=>by
  have hn:(Value.slice (some (G Q1 0)) d.m q1).ownBlock≠some bk:=fun e=>by
   have e':Q1=bk:=by simpa[Value.ownBlock]using e
   omega
  have hb:w3.heap[bk]?=w.heap[bk]?:=(h2.block bk oe (fun e=>hn e.symm)).trans (DO _ _ _ au);obtain⟨p1,p2⟩:=hM.eH ((Cs _ _).alloc (Be _) o) (o:=o) (x:=(d.n:Int)+1) (a:=some (G (E d.n) 0)) (by unfold B8;rw[DD oa,show((d.n:Int)+1-1).toNat=d.n by omega]) h1 h2 (by rcases h3 with h3|h3;exact .inl h3;exact .inr oa);have hz:w.heap.size+1<=w3.heap.size:=by have:=h2.size;simpa using this
  refine⟨(As (a:=(G bk 1)) hb).trans c1,(GW (a:=(G bk 1)) hb).trans f1,oa,hI,by rw[B],by rw[B],by rw[B],by rw[B];exact Be _,?_,rfl,?_,?_,p2.mono (fun b _ e=>e.elim .inl (fun e=>.inr (.inl e))),fun b e=>?_⟩
  ·rw[B];have:=Mn d.X d.x;show Fg d.X d.x<d.x+1;omega
  ·rw[B];have:=Mn d.X d.x;show d.m+1+Fg d.X d.x<=d.m+1+d.x;omega
  ·rw[B];exact p1
  ·rcases h3 with h3|h3
   ·have e':g3=b:=by simpa[Value.ownBlock]using e
    rw[<-e'];exact .inl h3
   ·have e':g3=b:=by simpa[Value.ownBlock]using e
    exact .inr oa
 have ar:=O START;have HT:=O hT;have HS:=O hS;have cn:=O B;clear hM hT hS START ax hI B
 go_enter func295,ntmps295
 go_wp2_with (at_builtin;refine Aab _ rfl _ _ 324 rfl (bk+1) C1 i0 (.pointer none) 1 8 underlying324 a6 a7 a8 bb rfl oc (.slice (some (G Q1 0)) d.m q1) d.m (Gd (fun i=>B8 E (d.I i)) d.m) rfl (On bj _) (y w 0) 1 1 [.pointer (some (G (E d.n) 0))] rfl rfl (H8 (BE _ _)) (by simp[Value.oneCell']) oc (by unfold maxLen;omega) oa oe (w.heap.size+1) od ?_;intro g3 g w3 k A l aj;obtain⟨x3,f3,l3,bp⟩:=z ar _ g3 g w3 k A l;have H:=O bp;clear k A l bp)
 generalize hW:w3.setCell (G bk 1) (.slice (some (G g3 0)) (d.m+1) g)=W at*;have b7:bk<W.heap.size:=by rw[<-hW];simpa using l3
 have P:=O ((t _ _ _ _ _ H).1);have Q:=O ((t _ _ _ _ _ H).2);clear hW x3 f3 l3 c1 f1 aj;refine qr W ?_;refine N (h:=N (h:=N (h:=N (h:=?_))));refine GS (fun K hK=>?_);go_simp;refine⟨_,fun w' j=>qk j ((P _ j)),hK _ ?_⟩;clear hK K;refine GS (fun K hK=>?_);go_simp;refine⟨_,fun w' j=>qk j ((Q _ j)),hK _ ?_⟩;clear hK K;refine N (h:=?_);refine H7 ?_;intro w4 bq;have br:=O (H.below bq au);clear bq P Q H b7;go_wp2_with fail;go_loopw [4] (fun i wr=>∃(c:Dc) (f:Nat) (R:V9) (S':Nat->Nat),i=J (Fb (AQ c (Dm ((c.m:Int)+1)) (hf (Dm ((c.m:Int)+1)))))/\Z3 K hf w bk r0 (.slice (some (G Q1 0)) d.m q1) R2 E d D1 c f R S' wr) (fun _ wr=>d.m+2+d.x-Nr wr bk 1)
 case atStart=>exact⟨D1,d.x+1,_,S,rfl,br⟩
 case round=>
  clear br;obtain⟨c,f,R,S',rfl,hN⟩:=hrel;cases av:AQ c (Dm ((c.m:Int)+1)) (hf (Dm ((c.m:Int)+1)))with
  |none=>
   have HR:Hid ({CG hf (d.x+1) D1 with n:=d.n}={c with n:=d.n}):=O (by rw[<-hN.mv,FE av]);have bt:=O hN;clear hN av;rw[show Fb none=-1 from rfl];go_wp2;go_end0;exact⟨⟨⟨_,rfl⟩,R,S',by rw[z HR];exact bt.bm⟩,bt.kx⟩
  |some s=>
   obtain⟨s1,s2,s3,s4⟩:=hN.inv.slot av;obtain⟨F,k1,e1⟩:=hN.bm.rf;have e1:R=.slice (some (G F 0)) c.m k1:=e1;subst e1;have r:=hN.bm;have bu:wr.cell? (G bk 1)=some (.slice (some (G F 0)) c.m k1):=r.c1;have b8:=r.fz 1;have bd:wr.cell? (G bk 3)=some (.slice (some (G R2 0)) c.x c.x):=r.c3;have aw:=r.lt;have af:Nr wr bk 1=c.m:=Mk bu;have bw:=r.ints.lt F rfl;have bf:=r.Kh;obtain⟨_,_,es,_,_,_,bx,_⟩:=r.slots.form (by show 0<c.x;omega);cases es;have p0:wr.cell? (G R2 s)=some (.pointer (some (G (S' s) 0))):=(bx s s1).trans (by show some (Value.pointer (Dj S' s (c.X s)))=_;rw[show Dj S' s (c.X s)=some (G (S' s) 0)from C3 oa]);have ay:=(r.sl s s1).1 s2;obtain⟨q,hq⟩:∃q,q=(c.X s-1).toNat:=⟨_,rfl⟩;have ae:Gj wr (S' s) (c.L q).key (E q):=by rw[hq];exact ay
   have p5:=ae.pt;have bg:=ae.lt;have cp:bk<S' s:=r.sg s s1 (by show c.X s≠0;omega);obtain⟨cq,ak⟩:=r.ints.block (b:=F) rfl;obtain⟨cr,az⟩:=r.slots.block (b:=R2) rfl;have n1:F≠R2:=fun e=>A8 (e▸ak) az oc;have n2:F≠S' s:=fun e=>A8 (e▸ak) ae.ob oc;have cg:=bw.1;have ch:=bf.1;have ao:=bf.2;have cj:=hN.sum;have b9:=hN.x;have bz:Hid (Rw wr.drew (bk+1) C1 (.slice (some (G F 0)) c.m k1) c.m (fun i=>B8 E (c.I i))):=O (Cu r.ints (fun _ _=>rfl));have U:XQ bk R2 c.x s (S' s) (E q) wr.drew:=⟨bd,p0,p5⟩;have ag:Hid (∀(o:Obj) (g3 g:Nat) (w3:Y),w3.ownsRow (bk+1) C1 1 (.slice (some (G g3 0)) (c.m+1) g) (c.m+1) (Gd (fun i=>B8 E (c.I i)) c.m++[.pointer (some (G (E q) 0))])->(wr.drew.alloc o).grownBy w3 (Value.slice (some (G F 0)) c.m k1).ownBlock->((Value.slice (some (G F 0)) c.m k1).ownBlock=some g3\/g3=(wr.drew.alloc o).heap.size)->
     XQ bk R2 c.x s (S' s) (E q) w3/\w3.cell? (G bk 1)=some (.slice (some (G F 0)) c.m k1)/\w3.frozen? (G bk 1)=false/\bk<w3.heap.size/\(AD (w3.setCell (G bk 1) (.slice (some (G g3 0)) (c.m+1) g)) bk r0 (.slice (some (G g3 0)) (c.m+1) g) R2 E S' {c with n:=d.n,m:=c.m+1,I:=AP c.I c.m (c.X s)}/\KX (fun b=>b=bk\/(Value.slice (some (G F 0)) c.m k1).ownBlock=some b) bk wr (w3.setCell (G bk 1) (.slice (some (G g3 0)) (c.m+1) g))/\∀b,(Value.slice (some (G g3 0)) (c.m+1) g).ownBlock=some b->(Value.slice (some (G F 0)) c.m k1).ownBlock=some b\/wr.heap.size<=b)):=O (fun o g3 g w3 h1 h2 h3=>by
    have hB:∀b,b<wr.heap.size->F≠b->w3.heap[b]?=wr.heap[b]?:=fun b hb ca=>(h2.block b oe (fun e=>ca (by
     have e':b=F:=by simpa[Value.ownBlock]using e
     exact e'.symm))).trans (DO _ _ _ hb)
    have hz:wr.heap.size+1<=w3.heap.size:=by have:=h2.size;simpa using this
    obtain⟨p1,p2⟩:=r.eH (W:=wr.drew.alloc o) ((Cs _ _).drew.alloc (Be _) o) (o:=o) (x:=c.X s) (a:=some (G (E q) 0)) (by unfold B8;rw[DD s2,hq]) h1 h2 (by rcases h3 with h3|h3;exact .inl h3;exact .inr (by rw[h3];simp));refine⟨⟨(As (a:=(G bk 3)) (hB bk aw oa)).trans bd,(As (a:=(G R2 s)) (hB R2 ao n1)).trans p0,(As (a:=(G (S' s) 5)) (hB _ bg n2)).trans p5⟩,(As (a:=(G bk 1)) (hB bk aw oa)).trans bu,(GW (a:=(G bk 1)) (hB bk aw oa)).trans b8,oa,p1,p2,fun b e=>?_⟩;have e':g3=b:=by simpa[Value.ownBlock]using e
    rcases h3 with h3|h3
    ·rw[<-e'];exact .inl h3
    ·exact .inr (by rw[<-e',h3];simp))
   have ah:Hid (∀(g3 g:Nat) (w3:Y),(AD (w3.setCell (G bk 1) (.slice (some (G g3 0)) (c.m+1) g)) bk r0 (.slice (some (G g3 0)) (c.m+1) g) R2 E S' {c with n:=d.n,m:=c.m+1,I:=AP c.I c.m (c.X s)}/\KX (fun b=>b=bk\/(Value.slice (some (G F 0)) c.m k1).ownBlock=some b) bk wr (w3.setCell (G bk 1) (.slice (some (G g3 0)) (c.m+1) g))/\∀b,(Value.slice (some (G g3 0)) (c.m+1) g).ownBlock=some b->(Value.slice (some (G F 0)) c.m k1).ownBlock=some b\/wr.heap.size<=b)->
     C9 292 #[.pointer (some (G bk 2)),J (s:Int)] (w3.setCell (G bk 1) (.slice (some (G g3 0)) (c.m+1) g)) fun e w6=>(∃u,e=.returned u)/\∃f6 S6,Z3 K hf w bk r0 (.slice (some (G Q1 0)) d.m q1) R2 E d D1 (Eb c s) f6 (.slice (some (G g3 0)) (c.m+1) g) S6 w6/\Nr w6 bk 1=c.m+1):=O (fun g3 g w3 h=>by
    refine(Hz bk r0 _ R2 E S' _ s _ h.1 ⟨HS.n,by show c.m+1<=_;omega,by show c.x<=_;omega⟩ s1).mono ?_;rintro e w6 ⟨⟨hu,S6,b0⟩,cb⟩;obtain⟨f6,cc⟩:=hN.step KL av h.2.1 h.2.2 cb b0 au;exact⟨hu,f6,S6,cc,Mk b0.c1⟩)
   have ct:c.x<=4000:=oa;clear hN r av bx ay ae hq s2 s3 s4 bw bf ak az p0 p5 bd b9;rw[show Fb (some s)=(s:Int)from rfl];go_wp2_with fail;refine Hl (XQ bk R2 c.x s (S' s) (E q)) ?_;refine tz 0 (h:=tz 1 (h:=tz 2 (h:=tz 3 (h:=tz 5 (h:=tz 6 (h:=tz 7 (h:=tz 8 (h:=tz 9 (h:=tz 10 (h:=tz 11 (h:=tz 12 (h:=?_))))))))))));refine tz 13 (h:=tz 14 (h:=tz 15 (h:=?_)));refine AaE (rs:=[4,16]) og od ?_;refine SO rfl (fun K hK=>?_) (SO rfl (fun K hK=>?_) AaH)
   ·go_simp;refine hK.out _ _ U (fun _=>?_);clear hK K;refine ry 16 (fun K hK=>?_);go_simp;refine hK.out _ _ ⟨(Cs wr.heap.size wr).drew.alloc (Be _) _ |>.cell (p:=(G bk 3)) aw |>.trans U.1,(Cs wr.heap.size wr).drew.alloc (Be _) _ |>.cell (p:=(G R2 s)) ao |>.trans U.2.1,(Cs wr.heap.size wr).drew.alloc (Be _) _ |>.cell (p:=(G (S' s) 5)) bg |>.trans U.2.2⟩ (fun b1=>?_);clear hK K;refine ry 17 (fun K hK=>?_);refine Aaa _ rfl (.tmp 33) (.tmp 45) 324 rfl (bk+1) C1 i0 (.pointer none) 1 8 underlying324 a6 a7 a8 bb rfl oc (.slice (some (G F 0)) c.m k1) c.m (Gd (fun i=>B8 E (c.I i)) c.m) (by simp[Act.eval]) (On bz _) (y wr 0) 1 1 [.pointer (some (G (E q) 0))] (by simp[Act.eval]) rfl (H8 (BE _ _)) (by simp[Value.oneCell']) oc (by unfold maxLen;omega) oa oe _ rfl ?_;intro g3 g w3 k A l aj;obtain⟨Z,x3,f3,aM,H⟩:=z ag _ g3 g w3 k A l;clear k A l;refine hK.out _ _ Z (fun aq=>?_);clear hK K;refine tz 18 (h:=tz 19 (h:=?_));refine ry 20 (fun K hK=>?_);go_simp;refine hK.out _ _ ?_ (fun _=>?_)
    ·obtain⟨a1,a2,a3⟩:=Z;exact⟨(Aa oc).trans a1,(Aq oa).trans a2,(Aq oa).trans a3⟩
    clear hK K;refine Fj ?_;go_wp2_with fail;refine(ah g3 g w3 H).mono ?_;rintro e w6 ⟨⟨cd,rfl⟩,f6,S6,M,C⟩;have P:=O ((t _ _ _ _ _ M).1);have Q:=O ((t _ _ _ _ _ M).2);have D:=O M;clear M H x3 f3 Z aq;go_wp2_with fail;refine qr w6 ?_;refine N (h:=N (h:=N (h:=N (h:=?_))));refine GS (fun K hK=>?_);go_simp;refine⟨_,fun w' j=>qk j ((P _ j)),hK _ ?_⟩;clear hK K;refine GS (fun K hK=>?_);go_simp;refine⟨_,fun w' j=>qk j ((Q _ j)),hK _ ?_⟩;clear hK K;refine N (h:=?_);refine H7 ?_;intro w7 ai;have bh:=O (D.below ai au);have ad:Nr w7 bk 1=c.m+1:=by rw[<-C];unfold Nr;rw[ai.cell (p:=(G bk 1)) (z D).bm.lt]
    clear ai P Q D C;go_wp2;go_roundw
    case rel=>exact⟨Eb c s,f6,_,S6,rfl,bh⟩
    case measure=>rw[ad,af];omega
   ·go_simp;refine hK.out _ _ ⟨(Cs wr.heap.size wr).drew.alloc (Be _) _ |>.cell (p:=(G bk 3)) aw |>.trans U.1,(Cs wr.heap.size wr).drew.alloc (Be _) _ |>.cell (p:=(G R2 s)) ao |>.trans U.2.1,(Cs wr.heap.size wr).drew.alloc (Be _) _ |>.cell (p:=(G (S' s) 5)) bg |>.trans U.2.2⟩ (fun b1=>?_);clear hK K;refine ry 4 (fun K hK=>?_);go_simp;refine hK.out _ _ b1 (fun _=>?_);clear hK K;refine ry 17 (fun K hK=>?_);refine Aaa _ rfl (.tmp 33) (.tmp 45) 324 rfl (bk+1) C1 i0 (.pointer none) 1 8 underlying324 a6 a7 a8 bb rfl oc (.slice (some (G F 0)) c.m k1) c.m (Gd (fun i=>B8 E (c.I i)) c.m) (by simp[Act.eval]) (On bz _) (y wr 0) 1 1 [.pointer (some (G (E q) 0))] (by simp[Act.eval]) rfl (H8 (BE _ _)) (by simp[Value.oneCell']) oc (by unfold maxLen;omega) oa oe _ rfl ?_;intro g3 g w3 k A l aj;obtain⟨Z,x3,f3,aM,H⟩:=z ag _ g3 g w3 k A l;clear k A l;refine hK.out _ _ Z (fun aq=>?_);clear hK K;refine tz 18 (h:=tz 19 (h:=?_));refine ry 20 (fun K hK=>?_);go_simp;refine hK.out _ _ ?_ (fun _=>?_)
    ·obtain⟨a1,a2,a3⟩:=Z;exact⟨(Aa oc).trans a1,(Aq oa).trans a2,(Aq oa).trans a3⟩
    clear hK K;refine Fj ?_;go_wp2_with fail;refine(ah g3 g w3 H).mono ?_;rintro e w6 ⟨⟨cd,rfl⟩,f6,S6,M,C⟩;have P:=O ((t _ _ _ _ _ M).1);have Q:=O ((t _ _ _ _ _ M).2);have D:=O M;clear M H x3 f3 Z aq;go_wp2_with fail;refine qr w6 ?_;refine N (h:=N (h:=N (h:=N (h:=?_))));refine GS (fun K hK=>?_);go_simp;refine⟨_,fun w' j=>qk j ((P _ j)),hK _ ?_⟩;clear hK K;refine GS (fun K hK=>?_);go_simp;refine⟨_,fun w' j=>qk j ((Q _ j)),hK _ ?_⟩;clear hK K;refine N (h:=?_);refine H7 ?_;intro w7 ai;have bh:=O (D.below ai au);have ad:Nr w7 bk 1=c.m+1:=by rw[<-C];unfold Nr;rw[ai.cell (p:=(G bk 1)) (z D).bm.lt]
    clear ai P Q D C;go_wp2;go_roundw
    case rel=>exact⟨Eb c s,f6,_,S6,rfl,bh⟩
    case measure=>rw[ad,af];omega
section
open Go.RowKit Go.Shelf
attribute [local go_sem] Oper.semAt_some
theorem Uh(d:Dc)(k:Nat):(AM d k).Nodup:=List.Nodup.sublist List.filter_sublist List.nodup_range
theorem Py(hi:i<d.n)(b:(d.L i).turn≠0):(AM d d.n)[CI d i]?=some i:=by
 obtain⟨r,a⟩:=EV (d:=d) (k:=i+1) (n:=d.n) oa;rw[Bf b]at a;rw[<-a];unfold CI;rw[List.append_assoc,Aaj (Be _)];simp
def Za(d:Dc)(j:Nat):Int:=if 0<d.X j then(CI d (d.X j-1).toNat:Int)+1 else d.X j
def C4(d:Dc):Dc:={BF d with X:=Za d}
def E'(E:Nat->Nat)(d:Dc)(j:Nat):Nat:=E ((AM d d.n).getD j 0)
theorem Iy(hi:i<d.n)(a:(d.L i).turn≠0):E' E d (CI d i)=E i:=by
 unfold E';rw[List.getD_eq_getElem?_getD,Py hi a];rfl
theorem packed{p:Nat}{f:Nat->Nat}(h:AD w bk r0 r1 R2 E S d)(o:w.heap.size<=W.heap.size)(hb:∀b,b<w.heap.size->(∀i,i<d.n->E i≠b)->W.heap[b]?=w.heap[b]?)(ad:bk<n0)
  (hI:∀j,j<d.m->d.I j=0\/(0<d.I j/\d.I j<=d.n/\(d.L (d.I j-1).toNat).turn≠0)) (hX:∀j,j<d.x->0<d.X j->d.X j<=d.n/\(d.L (d.X j-1).toNat).turn≠0)
  (he:∀i,i<d.n->Bl W (E i) (d.L i) (f i)) (hf:∀j (hj:j<(AM d d.n).length),f (AM d d.n)[j]=j) (D:Rw W n0 C1 v (AM d d.n).length (eP E (AM d d.n))) (ae:w.heap.size<=n0):
  AD (W.setCell (G bk 0) v) bk v r1 R2 (E' E d) S (C4 d):=by
 have hE:∀i,i<d.n->E i≠bk:=fun i hi e=>oj (h.eb i hi);have s:W.heap[bk]?=w.heap[bk]?:=hb bk h.lt hE;have hc:∀q,W.cell? (G bk q)=w.cell? (G bk q):=fun q=>As (a:=(G bk q)) s;have ob:∀b,b≠bk->(W.setCell (G bk 0) v).heap[b]?=W.heap[b]?:=fun b hb=>A0 _ _ _ _ (by exact hb);have r:∀q,q≠0->(W.setCell (G bk 0) v).cell? (G bk q)=w.cell? (G bk q):=fun q hq=>(Aa (fun e=>hq e.symm)).trans (hc q);have V:∀{t:TypeId} {c:Array Value} {b:Nat},w.heap[b]?=some (.cells c t (0,0))->t≠294->∀i,i<d.n->E i≠b:=fun{t c b} hb F i hi e=>A8 (e▸(h.Cr i hi).ob) hb (fun e=>F e.symm);have Z:∀{t:TypeId} {u:V9} {n:Nat} {g:Nat->Option Addr},Rw w (bk+1) t u n g->t≠294->Rw (W.setCell (G bk 0) v) (bk+1) t u n g:=fun{t u n g} H F=>Cu H (fun q e=>by
  have:=H.lt q e;obtain⟨c,hq⟩:=H.block e;exact(ob q oa).trans (hb q this.2 (V hq F)))
 have C:∀j,j<IP d->∃i,i<d.n/\(d.L i).turn≠0/\CI d i=j/\(AM d d.n)[j]?=some i:=fun j hj=>by
  obtain⟨i,h1,h2,h3⟩:=Fq d.n hj;exact⟨i,h1,h2,h3,by rw[<-h3];exact Py h1 h2⟩
 have eI:∀x:Int,x=0\/(0<x/\x<=d.n/\(d.L (x-1).toNat).turn≠0)->B8 (E' E d) (if 0<x then(CI d (x-1).toNat:Int)+1 else x)=B8 E x:=fun x hx=>by
  rcases hx with rfl|⟨h1,h2,h3⟩
  ·rfl
  ·rw[DD h1];unfold B8;rw[DD h1,DD oa,show((CI d (x-1).toNat:Int)+1-1).toNat=CI d (x-1).toNat by omega,Iy oa h3]
 refine⟨by simpa using At h.lt o,NX _ _ _ (by rw[hc,h.c0];rfl),(r 1 oc).trans h.c1,(r 2 oc).trans h.c2,(r 3 oc).trans h.c3,(r 4 oc).trans h.c4,(r 5 oc).trans h.c5,(r 6 oc).trans h.c6,fun q=>by rw[TC];exact(GW (a:=(G bk q)) s).trans (h.fz q),?_,?_,h.rf,?_,?_,?_,?_,?_,?_,?_⟩
 ·have h1:Rw (W.setCell (G bk 0) v) n0 C1 v (AM d d.n).length (eP E (AM d d.n)):=Cu D (fun q e=>ob q (oj (D.lt q e).1));exact EW h1 oa
 ·refine(Z h.ints oc).congr (fun j hj=>?_);exact eI (d.I j) (hI j hj)
 ·refine(Z h.slots oc).congr (fun j hj=>?_);show Dj S j (Za d j)=Dj S j (d.X j);unfold Dj Za;by_cases e:0<d.X j
  ·rw[DD e,C3 oa,C3 oa]
  ·rw[C3 e]
 ·intro q e e';have h1:=(D.lt q e).1;have h2:=(h.ints.lt q e').2;omega
 ·intro j hj;obtain⟨i,h1,h2,h3,h4⟩:=C j hj;have K:(C4 d).L j=d.L i:=by
   show Ea d j=_;unfold Ea;rw[List.getD_eq_getElem?_getD,h4];rfl
  have M:E' E d j=E i:=by rw[<-h3];exact Iy h1 h2
  obtain⟨P,Q⟩:=It.1 h4;have R:f i=j:=by have:=hf j P;rwa [Q]at this
  rw[K,M];have h5:=he i h1;rw[R]at h5;exact h5.keep od (ob _ (oj (h.eb i h1)))
 ·intro j hj;obtain⟨i,h1,h2,h3,h4⟩:=C j hj;rw[show E' E d j=E i by rw[<-h3];exact Iy h1 h2];exact h.eb i h1
 ·intro j j' hj k e;obtain⟨i,h1,h2,h3,h4⟩:=C j hj;obtain⟨i',A,T,U,af⟩:=C j' k;rw[show E' E d j=E i by rw[<-h3];exact Iy h1 h2,show E' E d j'=E i' by rw[<-U];exact Iy A T]at e;have:=h.inj i i' h1 A e;subst this;omega
 ·intro j hj;have k:j<d.x:=hj;have hs:=h.sl j k;have hk:∀c,w.heap[S j]?=some (.cells c 333 (0,0))->d.X j≠0->(W.setCell (G bk 0) v).heap[S j]?=w.heap[S j]?:=fun c B l=>(ob _ (oj (h.sg j k l))).trans (hb _ (GC.1 B).1 (V B oc));unfold Dp;show(0<Za d j->Gj _ (S j) ((C4 d).L (Za d j-1).toNat).key (E' E d (Za d j-1).toNat))/\(Za d j<0->O5 _ (S j));by_cases e:0<d.X j
  ·have hx:Za d j=(CI d (d.X j-1).toNat:Int)+1:=DD e;obtain⟨g1,g2⟩:=hX j k e;refine⟨fun _=>?_,fun l=>oa⟩;rw[hx,show((CI d (d.X j-1).toNat:Int)+1-1).toNat=CI d (d.X j-1).toNat by omega,Iy oa g2,show(C4 d).L (CI d (d.X j-1).toNat)=d.L (d.X j-1).toNat from E5 oa g2];have h1:=hs.1 e;exact h1.keep (by simpa using o) (hk _ h1.ob oa)
  ·have hx:Za d j=d.X j:=C3 e;rw[hx];refine⟨fun l=>absurd l e,fun l=>?_⟩;have h1:=hs.2 l;exact h1.keep (by simpa using o) (hk _ h1.ob oa)
 ·intro j hj l;refine h.sg j hj (fun e=>l ?_);show Za d j=0;unfold Za;rw[C3 oa,e]
def jC(w u:Y)(bk p n0:Nat)(E:Nat->Nat)(d:Dc)(pre:List (JL d))(W:Y):Prop:=
 ∃(v:V9) (f:Nat->Nat),W.rowIs p 324 1 (fun _=>v)/\Rw W n0 C1 v pre.length (eP E (pre.map (·.1)))/\(∀i,i<d.n->Bl W (E i) (d.L i) (f i))/\((pre.map (·.1)).Nodup->∀j i,(pre.map (·.1))[j]?=some i->f i=j)/\O8 p n0 E d.n u W/\Below bk w W
theorem jC.own(w u:Y)(bk p n0 D:Nat)(E:Nat->Nat)(d:Dc)(hn:n0<=D)(hu:n0<=u.heap.size)(m:bk<=w.heap.size)(hb:bk<=D)(o:∀i,i<d.n->E i<D):OwnFrom D (jC w u bk p n0 E d):=by
 rintro pre A B row ⟨v,f,h1,h2,h3,h4,h5,l⟩ g h;have j:∀i,i<d.n->B.heap[E i]?=A.heap[E i]?:=fun i hi=>g.block _ (h3 i hi).lt (fun e=>by have:=(h _ e.symm).1;have:=o i hi;omega);refine⟨v,f,?_,PI h2 g h,fun i hi=>(h3 i hi).keep g.size (j i hi),h4,⟨GO h5.size g.size,fun b hb r s=>?_,fun i q hi hq=>(As (a:=(G (E i) q)) (j i hi)).trans (h5.Cr i q hi hq)⟩,l.grown g (GO m l.size) (fun k e=>GO hb (h k e).1)⟩
 ·obtain⟨c,hb,hc⟩:=h1;exact RC ⟨c,hb,hc⟩ (Ju hb g h)
 ·have hl:b<A.heap.size:=At hb (GO hu h5.size);exact(g.block b hl (fun e=>oj (h b e.symm).1)).trans (h5.block b hb r s)
theorem LO(T:World->Prop)(bw:EM T)(hf:Vl->Nat)(bk:Nat)(aM:∀w w',T w->Below bk w w'->T w')(r0 r1:V9)(R2:Nat)(E S:Nat->Nat)(d:Dc)(w:Y)(hT:T w)(hM:AD w bk r0 r1 R2 E S d)(hS:Small d)
  (hH:∀i,i<d.n->(d.L i).turn≠0->O7 T (d.L i).key (hf (d.L i).key)) (Q:IP d<=500)
  (hI:∀j,j<d.m->d.I j=0\/(0<d.I j/\d.I j<=d.n/\(d.L (d.I j-1).toNat).turn≠0)) (hX:∀j,j<d.x->0<d.X j->d.X j<=d.n/\(d.L (d.X j-1).toNat).turn≠0):
  C9 294 #[Q9 bk] w fun e w'=>((∃u,e=.returned u)/\∃bx M E2 S',AD w' bk bx r1 M E2 S' (DM hf (C4 d) (Ex (Ct (C4 d) (C4 d).n).length) (Ct (C4 d) (C4 d).n)))/\KX (fun b=>b=bk\/∃i,i<d.n/\E i=b) bk w w':=by
 obtain⟨i0,bz,b0,b1,b2⟩:=P9 IJ;have cg:=hS.n;have au:=hM.lt;refine(Aac (n:=20)).1 ?_;refine callsIn_of_wp_marks func294 rfl trivial ?_ rfl;simp only[ntmps294,Aau,Aae,XN,Nat.reduceAdd,Nat.reduceSub,Aam,Aal,Aav,Aas,W9,Aar];have HM:=O hM;have HS:=O hS;have HH:=O hH;have HL:=O Q;have HT:=O hT;have HI:=O hI;have HX:=O hX;clear hM hS hH Q hT hI hX
 gi_wp2_with fail
 refine⟨trivial,?_⟩;refine(Aac.2 (GL bk _)).mono ?_;rintro e w4 ⟨rfl,rfl⟩
 gi_wp2_with fail
 obtain⟨u,hu⟩:∃u,u=(w.alloc (.cells #[N9] 324)).alloc (.cells #[Q9 bk] 289):=⟨_,rfl⟩;try simp only[World.size_alloc]
 rw[<-hu];have zu:u.heap.size=w.heap.size+1+1:=by rw[hu];simp
 have bu:B9 w u:=by rw[hu];exact(n9).alloc od _
 have af:u.cell? (Y9 w 0)=some (Q9 bk):=by rw[hu];simp[go_sem]
 have ag:u.rowIs w.heap.size 324 1 (fun _=>N9):=by
  have h1:=Aaz w #[N9] 324 (fun _=>N9) (fun i hi=>by
   have:i=0:=by simpa using hi
   subst this;rfl)
  refine RC h1 ?_;rw[hu];exact DO _ _ _ od
 clear hu;have a6:=HM.below bu;obtain⟨R0,R1,s⟩:=a6.book;have ah:u.cell? (y w 0)=some (N9):=ag.cell (i:=0) oa;have A:∀i,i<d.n->E i<u.heap.size/\E i≠w.heap.size:=fun i hi=>⟨(s.Cr i hi).lt,fun e=>by
  have:=(s.Cr i hi).k0;rw[e,ah]at this;cases this⟩
 have a7:0<d.n->R0<u.heap.size/\R0≠w.heap.size/\∀i,i<d.n->E i≠R0:=fun h0=>by
  refine⟨s.l0,fun e=>?_,fun i hi e=>?_⟩
  ·have:=s.r0 0 h0;rw[e,ah]at this;cases this
  ·have h1:=s.r0 0 h0;have h2:=(s.Cr i hi).k0;rw[<-e,h2]at h1;cases h1
 clear ah;refine wpIn_rangeFunc_ownF rfl oc (gf:=248) (lb:=#[Q9 (w.heap.size+1)]) rfl trivial (enters_of func248 og rfl)
  (OL 19 oc bk R0 R1 R2 (w.heap.size+1) w.heap.size u.heap.size E S d u s HS a7 af) O8.trans (O8.put (Be _) (fun i hi=>(A i hi).1)) (Cs _ _) (fun _=>rfl)
  (jC w u bk w.heap.size u.heap.size E d)
  (fun c pre W=>False)
  (jC.own w u bk w.heap.size u.heap.size u.heap.size E d (Be _) (Be _) oa oa (fun i hi=>(A i hi).1))
  (fun c _ _ _ _ h=>h.elim)
  ⟨N9,id,ag,IF _ _ _ _,s.Cr,fun _ j i h=>by simp at h,O8.refl _ _ _ _ _,bu.mono oa⟩
  ?a1 ?assign ?body ?done ?stop
 case assign=>
  intro l x W K hK
  gi_wp2
  exact hK
 case stop=>
  rintro D c pre W hD av h hK;exact h.elim
 case body=>
  rintro l pre ⟨i,hi,ht⟩ W ⟨v,f,U,g,B,P,C,R⟩ Q;obtain⟨va,vc,rfl⟩:=g.slice;have a8:=(B i hi).ob;have ch:=(B i hi).pl;have b3:=(B i hi).lt;have fE:W.frozen? (G (E i) 11)=false:=by simp[World.frozen?,a8]
  have x0:=U.cell (i:=0) oa;have fx:=U.frozen 0;have cj:=U.lt;have ai:E i≠w.heap.size:=(A i hi).2;have zW:=C.size;have b4:=(A i hi).1;have av:pre.length<=d.n:=oa;have aw:Hid (∀o,((W.setCell (G (E i) 11) (J (pre.length:Int))).alloc o).ownsRow u.heap.size C1 1 (.slice va pre.length vc) pre.length (Gd (eP E (pre.map (·.1))) pre.length)):=O (fun o=>On (Cu g (fun q e=>A0 _ _ _ _ (by have:=(g.lt q e).1;show q≠E i;omega))) _);have ax:Hid (∀(o:Obj) (g3 t:Nat) (w3:Y),w3.ownsRow u.heap.size C1 1 (S9 g3 (pre.length+1) t) (pre.length+1) (Gd (eP E (pre.map (·.1))) pre.length++[Q9 (E i)])->((W.setCell (G (E i) 11) (J (pre.length:Int))).alloc o).grownBy w3 (Value.slice va pre.length vc).ownBlock->
    (w3.cell? (y w 0)=some (.slice va pre.length vc)/\w3.frozen? (y w 0)=false)/\KeepsOthers W (w3.setCell (y w 0) (S9 g3 (pre.length+1) t))/\O8 w.heap.size u.heap.size E d.n W (w3.setCell (y w 0) (S9 g3 (pre.length+1) t))/\jC w u bk w.heap.size u.heap.size E d (pre++[⟨i,hi,ht⟩]) (w3.setCell (y w 0) (S9 g3 (pre.length+1) t))):=O (fun o g3 t w3 h1 h2=>by
   have V:∀b,b<u.heap.size->(Value.slice va pre.length vc).ownBlock≠some b:=fun b hb e=>oj (g.lt b e).1;have hB:∀b,b<u.heap.size->b≠E i->w3.heap[b]?=W.heap[b]?:=fun b hb he=>(h2.block b oe (fun e=>V b hb e.symm)).trans ((DO _ _ _ oe).trans (A0 _ _ _ _ (by exact he)));have bb:w3.heap[E i]?=(W.setCell (G (E i) 11) (J (pre.length:Int))).heap[E i]?:=(h2.block (E i) oe (fun e=>V _ b4 e.symm)).trans (DO _ _ _ (by simpa using b3));have aj:W.heap.size<=w3.heap.size:=by have:=h2.size;simp at this;omega
   have ak:w3.rowIs w.heap.size 324 1 (fun _=>.slice va pre.length vc):=U.of_block (hB _ oa (fun e=>ai e.symm));have ck:=(World.ownsRow.lt h1 g3 rfl).1;have os:∀b,b≠w.heap.size->(w3.setCell (y w 0) (S9 g3 (pre.length+1) t)).heap[b]?=w3.heap[b]?:=fun b hb=>A0 _ _ _ _ (by exact hb);have b5:Bl (w3.setCell (y w 0) (S9 g3 (pre.length+1) t)) (E i) (d.L i) pre.length:=((B i hi).Zs pre.length).keep (by simpa using aj) ((os _ ai).trans bb);have ay:∀j,j<d.n->j≠i->Bl (w3.setCell (y w 0) (S9 g3 (pre.length+1) t)) (E j) (d.L j) (f j):=fun j hj b6=>(B j hj).keep (by simpa using aj) ((os _ (A j hj).2).trans (hB _ (A j hj).1 (fun e=>b6 (s.inj j i hj hi e))));have bc:O8 w.heap.size u.heap.size E d.n W (w3.setCell (y w 0) (S9 g3 (pre.length+1) t)):=⟨by simpa using aj,fun b h1 b7 h3=>(os b b7).trans (hB b h1 (fun e=>h3 i hi e.symm)),fun j q hj hq=>by
    by_cases e:j=i
    ·subst e;refine(As (a:=(G (E j) q)) ((os _ ai).trans bb)).trans ?_;exact Aa (fun e=>hq e.symm)
    ·exact As (a:=(G (E j) q)) ((os _ (A j hj).2).trans (hB _ (A j hj).1 (fun e'=>e (s.inj j i hj hi e'))))⟩
   refine⟨⟨ak.cell (i:=0) oa,ak.frozen 0⟩,?_,bc,S9 g3 (pre.length+1) t,AP f i pre.length,(ak.set 0 _).congr (fun q hq=>by simp[show q=0 by omega]),?_,fun j hj=>?_,fun bd j q hq=>?_,C.trans bc,?_⟩
   ·have b8:KeepsOthers ((W.setCell (G (E i) 11) (J (pre.length:Int))).alloc o) w3:=KeepsOthers.of_grownBy h2 (fun j o' e ho=>by
     obtain⟨c,hb⟩:=Rw.block g e;have hj:=(g.lt j e);rw[DO _ _ _ (by simpa using hj.2),A0 _ _ _ _ (by show j≠E i;omega),hb]at ho;cases ho;rfl)
    exact(((UP W _ _).trans (KeepsOthers.alloc _ _)).trans b8).trans (UP _ _ _)
   ·have hl:(pre++[⟨i,hi,ht⟩]:List (JL d)).length=pre.length+1:=od;have e1:Gd (eP E (pre.map (·.1))) pre.length++[Q9 (E i)]=Gd (eP E ((pre++[⟨i,hi,ht⟩]:List (JL d)).map (·.1))) (pre.length+1):=by
     have:=U4 E (pre.map (·.1)) i;rw[AaP]at this;rw[this,Aaq];rfl
    rw[hl];refine Cu ?_ (fun q e=>os q (by
     have e':g3=q:=by simpa[Value.ownBlock]using e
     omega))
    rw[e1]at h1;exact h1
   ·by_cases e:j=i
    ·subst e;rw[Ao];exact b5
    ·rw[Af _ _ e];exact ay j hj e
   ·rw[Aaq]at bd hq;have Z:=List.nodup_append.1 bd;by_cases e:j<(pre.map (·.1)).length
    ·rw[Aaf e]at hq;have az:q≠i:=fun e'=>Z.2.2 q (List.mem_of_getElem? hq) i od e';rw[Af _ _ az];exact P Z.1 j q hq
    ·rw[Aaj oa]at hq;have bf:j-(pre.map (·.1)).length=0:=by
      have h3:=(It.1 hq).1;simp at h3;simp;omega
     rw[bf]at hq;have b9:i=q:=by simpa using hq
     subst b9;rw[Ao];rw[AaP]at e bf;omega
   ·exact(((R.setCell (by have:=s.Cr i hi;have:=HM.eb i hi;show bk<=E i;omega) _).alloc oe _).grown h2 oe (fun k e=>oj (g.lt k e).1)).setCell (by show bk<=w.heap.size;omega) _)
  clear g C R U af B P a8
  gi_wp2_with (gi_at_builtin;refine wpListIn_append_own _ rfl _ _ 324 rfl u.heap.size C1 i0 (.pointer none) 1 8 underlying324 bz b0 b1 b2 rfl oc (.slice va pre.length vc) pre.length (Gd (eP E (pre.map (·.1))) pre.length) rfl (aw _) (y W 0) 1 1 [Q9 (E i)] rfl rfl (H8 (by rw[show W.heap.size=(W.setCell (G (E i) 11) (J (pre.length:Int))).heap.size by simp];exact BE _ _)) (by simp[Value.oneCell']) (by unfold maxLen;omega) oa oe ?_;intro v3 w3 F ad _;obtain⟨g3,t,rfl,_,_⟩:=World.ownsRow.form F oa;obtain⟨⟨x3,f3⟩,ca⟩:=z ax _ g3 t w3 F ad;clear F ad)
  exact ca
 case done=>
  rintro D ys W hD bg ⟨v,f,U,g,B,P,C,R⟩ hK;have H:ys.map (·.1)=AM d d.n:=bg;have bh:ys.length=(AM d d.n).length:=by rw[<-H,AaP]
  rw[bh,H]at g;rw[H]at P;obtain⟨va,vc,rfl⟩:=g.slice;have x0:=U.cell (i:=0) oa;have zW:=C.size;have bj:∀i,i<d.n->E i≠bk:=fun i hi e=>oj (HM.eb i hi);have ao:W.heap[bk]?=w.heap[bk]?:=(C.block bk oa oa bj).trans (bu.block bk au);have c0:W.cell? (G bk 0)=some r0:=(As (a:=(G bk 0)) ao).trans HM.c0;have f0:W.frozen? (G bk 0)=false:=(GW (a:=(G bk 0)) ao).trans (HM.fz 0);have lW:w.heap.size<W.heap.size:=oa;have lb:bk<W.heap.size:=oa;have cb:D<W.heap.size:=(GC.1 hK).1;have bm:=packed HM oa (fun b hb he=>(C.block b oa oa he).trans (bu.block b hb)) (n0:=u.heap.size) (p:=0) oa HI HX B (fun j hj=>P (Uh _ _) j _ (List.getElem?_eq_getElem hj)) g oa;have aq:Below bk w (W.setCell (G bk 0) (.slice va (AM d d.n).length vc)):=R.setCell (by exact Be _) _;have bn:∀i,i<IP d->∃i',i'<d.n/\(d.L i').turn≠0/\Ea d i=d.L i':=fun j hj=>by
   obtain⟨i,h1,h2,h3⟩:=Fq d.n hj;exact⟨i,h1,h2,by rw[<-h3];exact E5 h1 h2⟩
  have ae:Hid (C9 306 #[Q9 bk,J 0] (W.setCell (G bk 0) (.slice va (AM d d.n).length vc)) fun e w'=>((∃u,e=.returned u)/\∃M S',AD w' bk (.slice va (AM d d.n).length vc) r1 M (E' E d) S' (DM hf (C4 d) (Ex (Ct (C4 d) (C4 d).n).length) (Ct (C4 d) (C4 d).n))/\(W.setCell (G bk 0) (.slice va (AM d d.n).length vc)).heap.size<=M)/\KX (fun b=>b=bk) bk (W.setCell (G bk 0) (.slice va (AM d d.n).length vc)) w'):=O (by
   have bp:=z HS;have h1:=Ff d d.n;have h2:=z HL;have h3:IP d=(AM d d.n).length:=rfl;exact Hg T bw hf bk aM _ r1 R2 (E' E d) S (C4 d) 0 _ (aM _ _ HT aq) bm ⟨by show IP d<=_;omega,bp.m,bp.x⟩ (fun i hi ht=>by
    obtain⟨i',g1,g2,g3⟩:=bn i hi;have e:(C4 d).L i=d.L i':=g3;rw[e];exact HH i' g1 g2) (by
    have g1:=Vd (C4 d) (C4 d).n;have g2:=Ff (C4 d) (C4 d).n;have g3:(C4 d).n=IP d:=rfl;omega))
  have cc:Hid (KX (fun b=>b=bk\/∃i,i<d.n/\E i=b) bk w (W.setCell (G bk 0) (.slice va (AM d d.n).length vc))):=O ⟨aq,fun b hb hm=>(A0 _ _ _ _ (by intro e;exact hm (.inl e))).trans ((C.block b oa oa (fun i hi e=>hm (.inr ⟨i,hi,e⟩))).trans (bu.block b hb))⟩;clear bg H bh U g B P C R bm bn aq bj ao af ag s a6 A a7 bu;generalize (AM d d.n).length=nl at*
  gi_wp2_with fail
  refine⟨trivial,?_⟩;refine(Aac.2 ae).mono ?_;rintro e w5 ⟨⟨⟨uu,rfl⟩,M,S',bq,_⟩,ar⟩;have br:w5.heap[D]?=some (.deferred (some [])):=(ar.BB D (by simpa using cb) oa).trans ((A0 _ _ _ _ (by show D≠bk;omega)).trans hK);have cd:=O bq;have bt:=O (cc.trans (ar.mono (fun b _ e=>.inl e)));clear bq ar ae
  gi_wp2
  refine⟨od,.inl ⟨_,_,rfl,AaU br,?_⟩⟩;have hg:=I9 w5 D (.deferred none);have z5:=bt.CN.size;exact⟨_,Aay rfl _ _ _,⟨⟨_,rfl⟩,_,M,_,S',cd.grown hg (fun r e=>by cases e;exact⟨_,br,rfl⟩)⟩,bt.grown hg oa (fun k e=>by cases e;exact .inl oa)⟩
end
section
variable {w w3:Y} {bk:Nat} {r0 r1:V9} {R2:Nat} {E S:Nat->Nat} {d:Dc}
theorem AD.kF(h:AD w bk r0 r1 R2 E S d){W:Y}(u:B9 w W){g3 f:Nat}(v:Bl w (E d.n) (d.L d.n) d.n)(o:bk<E d.n)(OE:∀i,i<d.n->E i≠E d.n)(h1:w3.ownsRow (bk+1) C1 1 (S9 g3 (d.n+1) f) (d.n+1) (Gd (fun i=>some (G (E i) 0)) d.n++[Q9 (E d.n)]))(x:W.grownBy w3 r0.ownBlock)(hl:r0.ownBlock=some g3\/w.heap.size<=g3):
  AD (w3.setCell (G bk 0) (S9 g3 (d.n+1) f)) bk (S9 g3 (d.n+1) f) r1 R2 E S {d with n:=d.n+1}/\Below bk w (w3.setCell (G bk 0) (S9 g3 (d.n+1) f)):=by
 have g:=h.lt;have A:=u.size;have hz:w.heap.size<=w3.heap.size:=GO A x.size;have l:∀b,b<w.heap.size->r0.ownBlock≠some b->w3.heap[b]?=w.heap[b]?:=fun b hb v=>(x.block b oa (fun e=>v e.symm)).trans (u.block b hb);have r:r0.ownBlock≠some bk:=fun e=>oj (h.log.lt bk e).1;have os:∀b,b≠bk->(w3.setCell (G bk 0) (S9 g3 (d.n+1) f)).heap[b]?=w3.heap[b]?:=fun b hb=>A0 _ _ _ _ (by exact hb);have hc:∀q,w3.cell? (G bk q)=w.cell? (G bk q):=fun q=>As (a:=(G bk q)) (l bk g r);have m:∀q,q≠0->(w3.setCell (G bk 0) (S9 g3 (d.n+1) f)).cell? (G bk q)=w.cell? (G bk q):=fun q hq=>(Aa (fun e=>hq e.symm)).trans (hc q);have ty:∀{t:TypeId} {c:Array Value} {b:Nat},w.heap[b]?=some (.cells c t (0,0))->t≠C1->r0.ownBlock≠some b:=fun{t c b} hb I e=>by
  obtain⟨R,B⟩:=h.log.block e;exact A8 hb B I
 have K:=(World.ownsRow.lt h1 g3 rfl).1;have F:∀{b:Nat} {p:Pr} {i:Nat},Bl w b p i->bk<b->Bl (w3.setCell (G bk 0) (S9 g3 (d.n+1) f)) b p i:=fun{b p i} C hb=>C.keep (by simpa using hz) ((os _ oa).trans (l _ C.lt (ty C.ob oc)));refine⟨⟨by simpa using At g hz,NX _ _ _ (by rw[hc,h.c0];rfl),(m 1 oc).trans h.c1,(m 2 oc).trans h.c2,(m 3 oc).trans h.c3,(m 4 oc).trans h.c4,(m 5 oc).trans h.c5,(m 6 oc).trans h.c6,fun q=>by rw[TC];exact(GW (a:=(G bk q)) (l bk g r)).trans (h.fz q),?_,?_,h.rf,?_,?_,fun i hi=>?_,fun i hi=>?_,fun i j hi hj e=>?_,fun j hj=>?_,h.sg⟩,?_⟩
 ·have h2:(w3.setCell (G bk 0) (S9 g3 (d.n+1) f)).ownsRow (bk+1) C1 1 (S9 g3 (d.n+1) f) (d.n+1) (Gd (fun i=>some (G (E i) 0)) d.n++[Q9 (E d.n)]):=Cu h1 (fun q e=>os q (by
   have e':g3=q:=by simpa[Value.ownBlock]using e
   omega))
  exact h2
 ·exact Cu h.ints (fun q e=>(os q (oj (h.ints.lt q e).1)).trans (l q (h.ints.lt q e).2 (fun e'=>h.ap q e' e)))
 ·exact Cu h.slots (fun q e=>by
   obtain⟨c,hb⟩:=h.slots.block e;exact(os q (oj (h.slots.lt q e).1)).trans (l q (h.slots.lt q e).2 (ty hb oc)))
 ·intro q e e';have e2:g3=q:=by simpa[Value.ownBlock]using e
  subst e2;rcases hl with hl|hl
  ·exact h.ap g3 hl e'
  ·have:=(h.ints.lt g3 e').2;omega
 ·have s:i<d.n+1:=hi;by_cases e:i=d.n
  ·subst e;exact F v o
  ·exact F (h.Cr i oa) (h.eb i oa)
 ·have s:i<d.n+1:=hi;by_cases e:i=d.n
  ·subst e;exact o
  ·exact h.eb i oa
 ·have s:i<d.n+1:=hi;have M:j<d.n+1:=hj;by_cases P:i=d.n
  ·by_cases H:j=d.n
   ·omega
   ·subst P;exact absurd e.symm (OE j oa)
  ·by_cases H:j=d.n
   ·subst H;exact absurd e (OE i oa)
   ·exact h.inj i j oa oa e
 ·by_cases Q:d.X j=0
  ·exact⟨fun D=>absurd D (by show¬0<d.X j;omega),fun D=>absurd D (by show¬d.X j<0;omega)⟩
  ·exact Dp.keep (d:={d with n:=d.n+1}) (w:=w) (h.sl j hj) (by simpa using hz) (fun c hc=>(os _ (oj (h.sg j hj Q))).trans (l _ (GC.1 hc).1 (ty hc oc)))
 ·exact((u.mono oa).grown x oa (fun k e=>oj (h.log.lt k e).1)).setCell (by exact Be _) _
end
theorem AD.JU(hc:Core K d)(hl:¬((d.n:Int)<8\/(d.n:Int)<=2*d.live))(h:AD w bk r0 r1 R2 E S (DM hf (C4 d) (Ex (Ct (C4 d) (C4 d).n).length) (Ct (C4 d) (C4 d).n))):AD w bk r0 r1 R2 E S (Ap hf d):=by
 have b:=FG hc;have h:AD w bk r0 r1 R2 E S (DM hf (BF d) (Ex (Ct (BF d) (BF d).n).length) (Ct (BF d) (BF d).n)):=h;have e1:Ap hf d=AX hf (BF d) 0:=C3 hl;have rf:=fun x=>LK (hf:=hf) (d:=BF d) (x:=x) (fun i hi c=>b.pos hi c) (BF d).n (Be _);rw[e1];by_cases a:(Ct (BF d) (BF d).n).length=0
 ·rw[Di (by rw[(rf 0).2];omega)];have hn:Ct (BF d) (BF d).n=[]:=List.eq_nil_of_length_eq_zero a;rw[a,hn]at h;have h:AD w bk r0 r1 R2 E S {BF d with x:=0,X:=fun _=>0,used:=0}:=h;exact h.of_same rfl rfl rfl rfl rfl rfl (fun _ _=>rfl) (fun j hj=>absurd hj (OR _)) (fun _ _=>rfl) (fun _ _=>rfl) (fun i hi=>by
   rcases b.ints i hi with e|e
   ·show(BF d).I i<=((BF d).n:Int);omega
   ·exact e.2.1) (fun j hj=>absurd hj (OR _))
 ·rw[B6 (by rw[(rf 0).2];omega),(rf _).1,(rf 0).2];have e2:Ex (Ct (BF d) (BF d).n).length=BC ((Ct (BF d) (BF d).n).length+0):=C3 a;rw[e2]at h;exact h
def E8(c:Dc)(k v:Vl):Dc:={BZ c k v with n:=c.n}
theorem Y4(c:Dc)(k v:Vl):(E8 c k v).L c.n=⟨k,v,c.turns+1⟩:=Ao _ _ _
theorem Mm(c:Dc)(k v:Vl){i:Nat}(hi:i<c.n):(E8 c k v).L i=c.L i:=Af _ _ oa
theorem V1(hf:Vl->Nat)(c:Dc)(k v k':Vl)(p:Nat):AL hf (E8 c k v) k' p=E8 (AL hf c k' p) k v:=by
 unfold AL;show(match CS c.x c.X (hf k'%c.x)with|none=>_|some s=>_)=_;cases CS c.x c.X (hf k'%c.x)<;>rfl
theorem V0(hf:Vl->Nat)(c:Dc)(k':Vl)(p n:Nat):AL hf {c with n:=n} k' p={AL hf c k' p with n:=n}:=by
 unfold AL;show(match CS c.x c.X (hf k'%c.x)with|none=>_|some s=>_)=_;cases CS c.x c.X (hf k'%c.x)<;>rfl
theorem Yj(hf:Vl->Nat)(c:Dc)(k v:Vl)(x:Nat)(l:List Nat)(hl:∀p∈l,p<c.n):DM hf (E8 c k v) x l=E8 (DM hf c x l) k v:=by
 suffices h:∀(l:List Nat),(∀p∈l,p<c.n)->∀b:Dc,l.foldl (fun e p=>AL hf e ((E8 c k v).L p).key p) (E8 b k v)=E8 (l.foldl (fun e p=>AL hf e (c.L p).key p) b) k v from h l hl {c with x:=x,X:=fun _=>0,used:=0}
 intro l
 induction l with
 |nil=>intro _ b;rfl
 |cons p l ih=>
  intro hl b;show l.foldl _ (AL hf (E8 b k v) ((E8 c k v).L p).key p)=_;rw[Mm c k v (hl p od),V1];exact ih (fun q hq=>hl q (by simp[hq])) _
theorem Ve(c:Dc)(k v:Vl):Ct (E8 c k v) (E8 c k v).n=Ct c c.n:=by
 unfold Ct;have e:AM (E8 c k v) (E8 c k v).n=AM c c.n:=Jw c.n (fun i hi=>by rw[Mm c k v hi]);rw[e];refine List.filter_congr (fun i hi=>?_);rw[Mm c k v (Sy.1 hi).1];rfl
theorem Zo{v:Vl}(hc:Core K c):PN hf (E8 c k v)=E8 (Cw hf c) k v:=by
 have rf:=fun x=>LK (hf:=hf) (d:=c) (x:=x) (fun i hi a=>hc.pos hi a) c.n (Be _);unfold PN Cw;rw[Ve];by_cases h:(c.x:Int)<2*(c.used+1)
 ·rw[DD h,DD (show((E8 c k v).x:Int)<2*((E8 c k v).used+1)from h),B6 oa,(rf _).1,(rf 0).2,Yj hf c k v _ _ (fun p b=>(NC b).1)];have e:Ex ((Ct c c.n).length+1)=BC ((Ct c c.n).length+1):=C3 oa;rw[e]
 ·rw[C3 h,C3 (show¬((E8 c k v).x:Int)<2*((E8 c k v).used+1)from h)]
theorem Y5{v:Vl}(h:c.n=n):E8 c k v={BZ c k v with n:=n}:=by subst h;rfl
structure JQ (W:Y) (b:Nat) (k:Vl):Prop where
 lt:b<W.heap.size
 k0:W.cell? (G b 0)=some (J k.kind)
 k1:W.cell? (G b 1)=some (J k.num)
 k2:W.cell? (G b 2)=some (F9 k.Ag)
 k3:W.cell? (G b 3)=some (.string k.str)
 k4:W.cell? (G b 4)=some (J k.ref)
theorem JQ.keep(h:JQ W b k)(hz:W.heap.size<=W'.heap.size)(e:W'.heap[b]?=W.heap[b]?):JQ W' b k:=
 ⟨At h.lt hz,(As e).trans h.k0,(As e).trans h.k1,(As e).trans h.k2,(As e).trans h.k3,(As e).trans h.k4⟩
def Rk(n0 bk:Nat)(k v:Vl)(t:Int)(a:T9)(n c:Nat)(W:Y):Prop:=W.cell? (G n0 0)=some (J k.kind)/\W.cell? (G n0 1)=some (J k.num)/\W.cell? (G n0 2)=some (F9 k.Ag)/\W.cell? (G n0 3)=some (.string k.str)/\W.cell? (G n0 4)=some (J k.ref)/\W.cell? (G (n0+1) 0)=some (J v.kind)/\W.cell? (G (n0+1) 1)=some (J v.num)/\W.cell? (G (n0+1) 2)=some (F9 v.Ag)/\W.cell? (G (n0+1) 3)=some (.string v.str)/\W.cell? (G (n0+1) 4)=some (J v.ref)/\W.cell? (G bk 6)=some (J t)/\W.cell? (G bk 0)=some (.slice a n c)
def dS(bk n0 a m k1 q:Nat)(W:Y):Prop:=W.cell? (G bk 1)=some (S9 a m k1)/\W.cell? (G n0 1)=some (J ((q:Int)+1))
theorem YV(h:Core K c)(hl:c.live<500):(Ct c c.n).length+1<=500:=by
 have h1:=Vd c c.n;have h2:=h.Jy;have h3:IP c=(AM c c.n).length:=rfl;omega
structure KB (W:Y) (bk:Nat) (r0 r1:V9) (R2:Nat) (E S:Nat->Nat) (D:Dc):Prop where
 bm:AD W bk r0 r1 R2 E S D
 e:Bl W (E D.n) (D.L D.n) D.n
 eb:bk<E D.n
 ne:∀i,i<D.n->E i≠E D.n
theorem KB.fin{c:Y}{D:Dc}(h:KB c bk r0 r1 R2 E S D){o:Obj}{g3 b:Nat}(h1:w3.ownsRow (bk+1) C1 1 (S9 g3 (D.n+1) b) (D.n+1) (Gd (fun i=>some (G (E i) 0)) D.n++[Q9 (E D.n)]))(d:(c.alloc o).grownBy w3 r0.ownBlock)(hl:r0.ownBlock=some g3\/g3=c.heap.size+1):
  w3.cell? (G bk 0)=some r0/\w3.frozen? (G bk 0)=false/\bk<w3.heap.size/\AD (w3.setCell (G bk 0) (S9 g3 (D.n+1) b)) bk (S9 g3 (D.n+1) b) r1 R2 E S {D with n:=D.n+1}/\Below bk c (w3.setCell (G bk 0) (S9 g3 (D.n+1) b)):=by
 have f:=h.bm.lt;have hn:r0.ownBlock≠some bk:=fun e=>oj (h.bm.log.lt bk e).1;have hb:w3.heap[bk]?=c.heap[bk]?:=(d.block bk oe (fun e=>hn e.symm)).trans (DO _ _ _ f);have hz:c.heap.size+1<=w3.heap.size:=by have:=d.size;simpa using this
 obtain⟨p1,p2⟩:=h.bm.kF ((Cs _ _).alloc (Be _) o) h.e h.eb h.ne h1 d (by rcases hl with hl|hl;exact .inl hl;exact .inr oa);exact⟨(As (a:=(G bk 0)) hb).trans h.bm.c0,(GW (a:=(G bk 0)) hb).trans (h.bm.fz 0),oa,p1,p2⟩
theorem Rk.below{v:Vl}{t:Int}{a:Option Addr}{c:Nat}(h:Rk n0 bk k v t a n c W)(hb:B9 W W')(d:n0+1<W.heap.size)(h1:bk<W.heap.size):Rk n0 bk k v t a n c W':=by
 obtain⟨i,s1,s2,j,l,m,o,r,s,u,f,g⟩:=h;have e:∀{b q:Nat},b<W.heap.size->W'.cell? (G b q)=W.cell? (G b q):=fun{b q} w=>hb.cell (p:=(G b q)) w;exact⟨(e oa).trans i,(e oa).trans s1,(e oa).trans s2,(e oa).trans j,(e oa).trans l,(e d).trans m,(e d).trans o,(e d).trans r,(e d).trans s,(e d).trans u,(e h1).trans f,(e h1).trans g⟩
def mM(bk:Nat)(r0:V9)(R2 b:Nat):Prop:=b=bk\/r0.ownBlock=some b\/b=R2
def aM(d:Dc)(k:Vl)(bk:Nat)(r0:V9)(R2 b:Nat):Prop:=¬DH d->k.kind=4->mM bk r0 R2 b
def eV:Prop:=∀(T:World->Prop) (c:EM T) (hf:Vl->Nat) (K:Vl->Prop) (j:KeyLaw K hf) (f:∀v,K v->O7 T v (hf v)) (bk:Nat) (g:∀w w',T w->Below bk w w'->T w') (r0 r1:V9) (R2:Nat) (E S:Nat->Nat) (d:Dc) (w:Y) (k:T w) (l:AD w bk r0 r1 R2 E S d) (o:Small d) (h:d.m<=4000000)
  (i:(d.L d.n).key.kind=2) (DI:(d.L d.n).key.num=(d.m:Int)+1) (p:Cj K hf {d with n:=d.n+1,m:=d.m+1,I:=AP d.I d.m ((d.n:Int)+1)}),
  C9 295 #[Q9 bk,Q9 (E d.n)] w fun e w'=>((∃u,e=.returned u)/\∃a S',AD w' bk r0 a R2 E S' {CG hf (d.x+1) {d with n:=d.n+1,m:=d.m+1,I:=AP d.I d.m ((d.n:Int)+1)}with n:=d.n})/\KX (fun b=>b=bk\/r1.ownBlock=some b\/b=R2) bk w w'
theorem mO:eV:=MO
theorem aN(T:World->Prop)(ck:EM T)(hf:Vl->Nat)(K:Vl->Prop)(KL:KeyLaw K hf)(cl:∀v,K v->O7 T v (hf v))(bk:Nat)(b0:∀w w',T w->Below bk w w'->T w')(r0 r1:V9)(R2:Nat)(E S:Nat->Nat)(d:Dc)(k v:Vl)(w:Y)(hT:T w)(hM:AD w bk r0 r1 R2 E S d)(hS:Small d)(gd:d.m<=4000000)
  (hI:Inv K hf d) (hk:K k) (cr:Df k=true) (hv:v.ok=true) (df:v.kind≠0) (dh:∀i,i<d.n->(d.L i).turn≠0->AE (d.L i).key k=false) (hl:d.live<500) (ht:d.turns<1000000000000) (hX:k.kind=2/\0<k.num->eV):
  C9 279 #[.pointer (some (G bk 0)),V k.kind k.num k.Ag k.str k.ref,V v.kind v.num v.Ag v.str v.ref] w fun e w'=>((∃u,e=.returned u)/\∃b1 D s E2 S',AD w' bk b1 D s E2 S' (Hd hf d k v))/\KX (aM d k bk r0 R2) bk w w':=by
 have di:DH d->∀b,aM d k bk r0 R2 b:=fun h b h'=>absurd h h';have dj:k.kind=2->∀b,aM d k bk r0 R2 b:=fun h b _ h'=>oa;have dk:∀b,mM bk r0 R2 b->aM d k bk r0 R2 b:=fun b h _ _=>h;generalize aM d k bk r0 R2=Mq at*;have ez:=O di;have dm:=O dj;have eA:=O dk;clear di dj dk;have eF:=O hX;clear hX;obtain⟨i0,dn,dp,dq,dr⟩:=P9 IJ;have gf:=hM.lt;have cc:0<=d.live:=oj hI.i0.log.EH;have dt:B9 w ((w.alloc (.cells (ow k) 43)).alloc (.cells (ow v) 43)):=(n9).alloc od _;obtain⟨eI,eP,eR,du⟩:=BP (hf:=hf) hI.i0.core;have P:=Dx hI.i0;have eS:=DL (hf:=hf) hI.i0.core hI.next;have cd:∀i,i<(Ap hf d).n->((Ap hf d).L i).turn≠0->AE ((Ap hf d).L i).key k=false:=fun i hi eT=>by
  cases e:AE ((Ap hf d).L i).key k
  ·rfl
  ·obtain⟨j,h1,h2,h3⟩:=(Dq (hf:=hf) hI.i0.core (fun p=>AE p.key k=true)).1 ⟨i,hi,eT,e⟩;have h4:=dh j h1 h2;rw[h3]at h4;cases h4
 have gg:(Ap hf d).x<=4000:=by
  rcases P.sz with h|h
  ·omega
  ·exact h.2.1
 have c9:(Ap hf d).n<=4194304:=by
  rcases du with h|h<;>omega
 have eX:∀i,i<(Ap hf d).m->(Ap hf d).I i<=(Ap hf d).n:=fun i hi=>by
  rcases P.ints i hi with e|e
  ·omega
  ·exact e.2.1
 have e4:∀j,j<(Ap hf d).x->(Ap hf d).X j<=(Ap hf d).n:=fun j hj=>by
  rcases P.idx.range j hj with e|e|⟨e1,e2,_⟩<;>omega
 have Z:Hid (Hd hf d k v=Bd hf (Ap hf d) k v):=O rfl;have bc:∀W,B9 w W->DH d->C9 294 #[.pointer (some (G bk 0))] W fun e w'=>((∃u,e=.returned u)/\∃b1 s E2 S',AD w' bk b1 r1 s E2 S' (Ap hf d))/\KX (fun b=>b=bk\/∃i,i<d.n/\E i=b) bk W w':=fun W hW au=>by
  refine(LO T ck hf bk b0 r0 r1 R2 E S d W (ck _ _ hT hW) (hM.below hW) hS (fun i hi ht=>cl _ (hI.i0.keys i hi ht)) (oj hI.i0.core.Jy) (fun j hj=>by
   rcases hI.i0.ints j hj with e|e
   ·exact .inl e
   ·exact .inr ⟨e.1,e.2.1,e.2.2.1⟩) (fun j hj h0=>by
   rcases hI.i0.idx.range j hj with e|e|⟨e1,e2,e3,_⟩
   ·omega
   ·omega
   ·exact⟨oa,e3⟩)).mono ?_
  rintro e w' ⟨⟨hu,b1,s,E2,S',hN⟩,A⟩;exact⟨⟨hu,b1,s,E2,S',hN.JU hI.i0.core (by have:=au.1;have:=au.2;omega)⟩,A⟩
 have ag:=O bc;have HE:Hid (∀i,i<d.n->E i<w.heap.size):=O (fun i hi=>(hM.Cr i hi).lt);have HC:Hid (¬DH d->Ap hf d=d):=O (fun h=>DD (by
  by_cases h8:(d.n:Int)<8
  ·exact .inl h8
  ·exact .inr (by
    refine AaJ fun h2=>h ⟨oa,oa⟩)))
 have HM:=O hM;have cm:Hid (∀W,B9 w W->C9 293 #[.pointer (some (G bk 0))] W (R9 (.bool (tells (DH d))) W)):=O (fun W hW=>LC bk r0 r1 R2 E S d W (hM.below hW) hS cc oa);have av:=O dt;have HT:=O hT;rw[z Z];have U:(Ap hf d).live<500:=oa;have ar:(Ap hf d).turns<1000000000000:=oa;have e6:(Ap hf d).m<=4000000:=oa;clear eI eP eR du Z bc hM hS hT dt hI dh hl ht cc;generalize Ap hf d=c at*;have aw:Hid (JQ ((w.alloc (.cells (ow k) 43)).alloc (.cells (ow v) 43)) w.heap.size k/\JQ ((w.alloc (.cells (ow k) 43)).alloc (.cells (ow v) 43)) (w.heap.size+1) v):=O ⟨⟨oe,by simp[go_sem],by simp[go_sem],by simp[go_sem],by simp[go_sem],by simp[go_sem]⟩,⟨od,by simp[go_sem],by simp[go_sem],by simp[go_sem],by simp[go_sem],by simp[go_sem]⟩⟩;by_cases au:DH d
 case' pos=>
  have ct:=O (Bw au);have dv:=O (fun W hW=>ag W hW au);have dw:=O (ez au);clear au HC
  go_enter func279,ntmps279
  go_wp2_with fail
  refine(cm _ av).mono ?_;rintro e w1 ⟨rfl,F⟩;rw[z ct];have cu:=O (oo av F);have cv:=O (aw.1.keep F.size (F.block _ aw.1.lt));have cw:=O (aw.2.keep F.size (F.block _ aw.2.lt));clear F;go_wp2_with fail;refine(dv _ cu).mono ?_;rintro e W ⟨⟨⟨uu,rfl⟩,b2,l,Ec,Sc,ah⟩,A⟩;have vk:JQ W w.heap.size k:=cv.keep A.CN.size (A.BB _ cv.lt (by
   rintro(e|⟨i,hi,e⟩)
   ·omega
   ·have:=z HE i hi;omega))
  have vv:JQ W (w.heap.size+1) v:=cw.keep A.CN.size (A.BB _ cw.lt (by
   rintro(e|⟨i,hi,e⟩)
   ·omega
   ·have:=z HE i hi;omega))
  have cx:KX Mq bk w W:=⟨(cu.mono oa).trans A.CN,fun b _ h=>absurd (dw b) h⟩;have hU:∀b,mM bk b2 l b->Mq b:=fun b _=>dw b;clear A dv cv cw cu aw av cm ag
 case' neg=>
  have ct:=O (Bq au);have e7:=z HC au;subst e7;clear au HC ag
  go_enter func279,ntmps279
  go_wp2_with fail
  refine(cm _ av).mono ?_;rintro e W ⟨rfl,F⟩;rw[z ct];have ah:=HM.below (oo av F);have vk:JQ W w.heap.size k:=aw.1.keep F.size (F.block _ aw.1.lt);have vv:JQ W (w.heap.size+1) v:=aw.2.keep F.size (F.block _ aw.2.lt);have cx:KX Mq bk w W:=KX.Ar (oo av F) oa;obtain⟨b2,l,Ec,Sc,ah,hU⟩:∃b2 l Ec Sc,AD W bk b2 r1 l Ec Sc c/\∀b,mM bk b2 l b->Mq b:=⟨_,_,_,_,ah,eA⟩;clear F aw av cm
 all_goals
  obtain⟨la,lc,e0⟩:=ah.log.slice;subst e0;have c6:=ah.c6;have c5:=ah.c5;have f5:=ah.fz 5;have f6:=ah.fz 6;have gh:=ah.lt;have tp:=P.turns.1;have gi:0<=c.live:=oj P.log.EH;have e8:IntKind.i64.wrap (c.turns+1)=c.turns+1:=by rw[Hi];omega
  have Q:IntKind.i64.wrap (c.live+1)=c.live+1:=by rw[Hi];omega
  have cn:=O ((ah.NV (c.turns+1)).G3 (c.live+1));have dx:=O vk;have dy:=O vv;have dz:=O cx;have HU:=O hU;clear ah vk vv cx hU;go_wp2_with fail;generalize bt:(W.setCell (G bk 6) (J (c.turns+1))).setCell (G bk 5) (J (c.live+1))=W2 at*;have a8:JQ W2 w.heap.size k:=dx.keep (by rw[<-bt];simp) (by rw[<-bt];exact(A0 _ _ _ _ (by show w.heap.size≠bk;omega)).trans (A0 _ _ _ _ (by show w.heap.size≠bk;omega)));have bd:JQ W2 (w.heap.size+1) v:=dy.keep (by rw[<-bt];simp) (by rw[<-bt];exact(A0 _ _ _ _ (by show w.heap.size+1≠bk;omega)).trans (A0 _ _ _ _ (by show w.heap.size+1≠bk;omega)));have dC:Hid (KX Mq bk w W2):=O (by rw[<-bt];exact(dz.setCell (Be _) (fun _=>HU _ (.inl rfl)) _).setCell (Be _) (fun _=>HU _ (.inl rfl)) _);have cp:=z cn;have e9:bk<W2.heap.size:=cp.lt;have dU:W2.cell? (G bk 6)=some (J (c.turns+1)):=cp.c6;have ea:W2.cell? (G bk 0)=some (.slice la c.n lc):=cp.c0;have fa:=a8.lt;have fb:=bd.lt;have bu:Rk w.heap.size bk k v (c.turns+1) la c.n lc W2.drew:=⟨a8.k0,a8.k1,a8.k2,a8.k3,a8.k4,bd.k0,bd.k1,bd.k2,bd.k3,bd.k4,dU,ea⟩;have cg:=O a8;clear dx dy dz cp a8 bd c6 c5 f5 f6 dU ea bt Q e8;refine Hl (Rk w.heap.size bk k v (c.turns+1) la c.n lc) ?_;refine tz 0 (h:=tz 1 (h:=tz 2 (h:=tz 3 (h:=tz 4 (h:=tz 5 (h:=tz 6 (h:=tz 7 (h:=tz 8 (h:=tz 9 (h:=tz 10 (h:=tz 11 (h:=?_))))))))))));refine tz 12 (h:=?_);refine ry 13 (fun K hK=>?_);go_simp;refine hK.out _ _ (bu.below (n9) fb e9) (fun fc=>?_);clear hK K;refine tz 14 (h:=?_);try simp only[AaM]
  try simp only[AaC]
  try simp only[AaB]
  try simp only[Aad]
  try simp only[AaX]
  try simp only[AaW]
  refine Fj ?_;clear bu fc;obtain⟨W3,b3⟩:∃W3,W3=(W2.alloc (.cells (Fx ⟨k,v,c.turns+1⟩ c.n) 294)).drew:=⟨_,rfl⟩;try simp only[World.alloc_drew]
  rw[<-b3];have z3:W3.heap.size=W2.heap.size+1:=by rw[b3];simp
  have b4:B9 W2 W3:=by rw[b3];exact(n9).drew
  have ec:W3.heap[W2.heap.size]?=some (.cells (Fx ⟨k,v,c.turns+1⟩ c.n) 294 (0,0)):=by rw[b3];exact BE _ _
  have bb:JQ W3 w.heap.size k:=cg.keep b4.size (b4.block _ fa);have ef:=O (dC.trans (KX.Ar b4 oa));obtain⟨a,cq⟩:∃a,a=AP Ec c.n W2.heap.size:=⟨_,rfl⟩;have ai:a c.n=W2.heap.size:=by rw[cq];exact Ao _ _ _
  have hA:KB W3 bk (.slice la c.n lc) r1 l a Sc (E8 c k v):=by
   have fe:=cn.below b4;refine⟨fe.of_same rfl rfl rfl rfl rfl rfl (fun _ _=>rfl) (fun _ _=>rfl) (fun i hi=>Af _ _ (by have bw:i<c.n:=hi;omega)) (fun i hi=>by rw[cq];exact Af _ _ (by have bw:i<c.n:=hi;omega)) eX e4,?_,?_,fun i hi=>?_⟩
   ·show Bl W3 (a c.n) ((E8 c k v).L c.n) c.n;rw[ai,Y4];exact Bl.Vu ec
   ·show bk<a c.n;omega
   ·have bw:i<c.n:=hi;show a i≠a c.n;rw[ai,cq,Af _ _ oa];have:=(cn.Cr i bw).lt;omega
  have l3:=bb.lt;have cy:=hA.bm.lt;obtain⟨R1,k1,e1⟩:=hA.bm.rf;have e1:r1=.slice (some (G R1 0)) c.m k1:=e1;have c1:W3.cell? (G bk 1)=some (.slice (some (G R1 0)) c.m k1):=by rw[<-e1];exact hA.bm.c1
  have gj:=(hA.bm.ints.lt R1 (by rw[e1];rfl)).1;have da:=(hA.bm.ints.lt R1 (by rw[e1];rfl)).2;have q0:=bb.k0;have q1:=bb.k1;have q2:=bb.k2;have q3:=bb.k3;have q4:=bb.k4;have HA:=O hA;have ch:=O bb;have gl:=O ai;have bg:=O e1;rw[<-ai];clear hA bb cq ai e1 ec b4 b3 cn dC cg z3;by_cases hs:AA c.m k
  ·have cz:=O (Bw hs);obtain⟨a1,a2,a3⟩:=hs;obtain⟨q,hq⟩:∃q:Nat,k.num=(q:Int)+1:=⟨(k.num-1).toNat,oa⟩;have eh:q<c.m:=oa;have Z:Hid ({E8 c k v with I:=AP (E8 c k v).I q ((c.n:Int)+1),n:=c.n+1}=Bd hf c k v):=O (by
    have e:Bd hf c k v=B7 c k v:=DD ⟨a1,a2,a3⟩;rw[e];unfold B7;rw[show(k.num-1).toNat=q by omega];rfl)
   have gm:IntKind.i64.wrap (q:Int)=q:=by rw[Hi];omega
   have HQ:=O hq;have ff:=O (dm a1);clear a1 a2 a3 hq;go_wp2_with fail;refine qr W3 ?_;refine N (h:=N (h:=N (h:=N (h:=N (h:=N (h:=?_))))));refine GS (fun K hK=>?_);go_simp;apply Exists.intro;refine And.intro (fun w' B=>?_) (hK _ ?_)
   ·refine(((z cz)▸Co k c.m _ oa)).mono ?_;rintro e cD ⟨rfl,hb⟩;exact⟨rfl,oo B hb⟩
   clear hK K;refine H7 ?_;intro w4 f;have l4:=At l3 f.size;have fg:=At cy f.size;have fh:=ol f cy c1;have b5:=ol f l3 q1;rw[z HQ]at b5;have ey:=At da f.size;have ax:KB w4 bk (.slice la c.n lc) r1 l a Sc (E8 c k v):=⟨HA.bm.below f,HA.e.keep f.size (f.block _ HA.e.lt),HA.eb,HA.ne⟩;have az:AD w4 bk (.slice la c.n lc) (.slice (some (G R1 0)) c.m k1) l a Sc (E8 c k v):=by rw[<-z bg];exact ax.bm
   obtain⟨_,_,e5,_,_,_,cN,ei⟩:=az.ints.form (by show 0<c.m;omega);cases e5;have d5:=cN q (by show q<c.m;exact eh);have f5:=ei q;obtain⟨fj,a6⟩:=az.ints.block (b:=R1) rfl;have hp:=AD.Xb (d:=E8 c k v) az (i:=q) (by show q<c.m;exact eh) ((c.n:Int)+1);rw[show B8 a ((c.n:Int)+1)=some (G (a c.n) 0) by unfold B8;rw[DD oa,show((c.n:Int)+1-1).toNat=c.n by omega]]at hp;have fk:Hid (KB (w4.setCell (G R1 q) (.pointer (some (G (a c.n) 0)))).drew bk (.slice la c.n lc) (.slice (some (G R1 0)) c.m k1) l a Sc {E8 c k v with I:=AP (E8 c k v).I q ((c.n:Int)+1)}):=O ⟨hp.below (Cs _ _).drew,ax.e.keep od (A0 _ _ _ _ (by show a c.n≠R1;exact fun e=>A8 (e▸ax.e.ob) a6 oc)),ax.eb,ax.ne⟩;have bx:=O ((ef.trans (KX.Ar f oa)).setCell (g:=R1) (q:=q) oa (fun _=>ff _) (.pointer (some (G (a c.n) 0)))).drew;have bu:dS bk w.heap.size R1 c.m k1 q w4.drew:=⟨fh,b5⟩;have fl:R1≠w.heap.size:=fun e=>by
    have h1:=ch.keep f.size (f.block _ l3);have h2:=h1.k0;rw[<-e]at h2;rw[cN 0 (by show 0<c.m;omega)]at h2;cases h2
   clear az ax hp a6 f HA cN ei q0 q1 q2 q3 q4 c1;go_wp2_with fail;refine Hl (dS bk w.heap.size R1 c.m k1 q) ?_;refine tz 0 (h:=tz 1 (h:=tz 2 (h:=tz 3 (h:=tz 4 (h:=tz 5 (h:=tz 6 (h:=tz 7 (h:=tz 8 (h:=?_)))))))));refine ry 9 (fun K hK=>?_);go_simp;refine hK.out _ _ ⟨(Aq oa).trans bu.1,(Aq fl).trans bu.2⟩ (fun _=>?_);clear hK K bu;refine Fj ?_;generalize gn:(w4.setCell (G R1 q) (.pointer (some (G (a c.n) 0)))).drew=W5 at*;have H:Hid (KB (W5) bk (.slice la c.n lc) (.slice (some (G R1 0)) c.m k1) l a Sc {E8 c k v with I:=AP (E8 c k v).I q ((c.n:Int)+1)}):=O fk;have b6:Hid (KX Mq bk w (W5)):=O bx;have bh:Hid (Rw (W5) (bk+1) C1 (.slice la c.n lc) c.n (fun i=>some (G (a i) 0))):=O (H.bm.log);have fm:(W5).cell? (G bk 0)=some (.slice la c.n lc):=H.bm.c0;have fo:bk<(W5).heap.size:=H.bm.lt;have bj:Hid (∀(o:Obj) (g3 C:Nat) (w3:Y),w3.ownsRow (bk+1) C1 1 (.slice (some (G g3 0)) (c.n+1) C) (c.n+1) (Gd (fun i=>some (G (a i) 0)) c.n++[.pointer (some (G (a c.n) 0))])->((W5).alloc o).grownBy w3 (Value.slice la c.n lc).ownBlock->((Value.slice la c.n lc).ownBlock=some g3\/g3=(W5).heap.size+1)->
     w3.cell? (G bk 0)=some (.slice la c.n lc)/\w3.frozen? (G bk 0)=false/\bk<w3.heap.size/\(∃D s S',AD (w3.setCell (G bk 0) (.slice (some (G g3 0)) (c.n+1) C)) bk (.slice (some (G g3 0)) (c.n+1) C) D s a S' (Bd hf c k v))/\KX Mq bk w (w3.setCell (G bk 0) (.slice (some (G g3 0)) (c.n+1) C))):=O (fun o g3 C w3 h1 h2 h3=>by
    obtain⟨p1,p2,p3,p4,p5⟩:=H.fin h1 h2 h3;exact⟨p1,p2,p3,⟨_,_,_,by rw[<-z Z];exact p4⟩,((b6.alloc oa o).grown h2 oa (fun r e=>.inr ⟨oj (H.bm.log.lt r e).1,HU _ (.inr (.inl e))⟩)).setCell (Be _) (fun _=>HU _ (.inl rfl)) _⟩)
   clear H b6;go_wp2_with (at_builtin;refine Aab _ rfl _ _ 324 rfl (bk+1) C1 i0 (.pointer none) 1 8 underlying324 dn dp dq dr rfl oc (.slice la c.n lc) c.n (Gd (fun i=>some (G (a i) 0)) c.n) rfl (On bh _) (G ((W5).heap.size) 0) 1 1 [.pointer (some (G (a c.n) 0))] rfl rfl (H8 (BE _ _)) (by simp[Value.oneCell']) oc (by unfold maxLen;omega) oa oe ((W5).heap.size+1) od ?_;intro g3 C w3 ad aj ae dc;obtain⟨x3,f3,fq,b7,b8⟩:=z bj _ g3 C w3 ad aj ae;have c3:=O b7;have c4:=O b8;clear ad aj ae b7 b8);go_end0;obtain⟨D,s,S',hN⟩:=z c3;exact⟨⟨⟨_,rfl⟩,_,D,s,a,S',hN⟩,c4⟩
  ·have cz:=O (Bq hs);have ej:=O hs;have bn:=IB KL P eS hk cr hv df cd U ar;have ek:=O bn.2.2.1;have eo:=O bn.2.2.2.1;clear hs bn;go_wp2_with fail;refine qr W3 ?_;refine N (h:=N (h:=N (h:=N (h:=N (h:=N (h:=?_))))));refine GS (fun K hK=>?_);go_simp;apply Exists.intro;refine And.intro (fun w' B=>?_) (hK _ ?_)
   ·refine(((z cz)▸Co k c.m _ oa)).mono ?_;rintro e cD ⟨rfl,hb⟩;exact⟨rfl,oo B hb⟩
   clear hK K;refine H7 ?_;intro w4 f;have l4:=At l3 f.size;have fg:=At cy f.size;have bz:=ch.keep f.size (f.block _ l3);have ep:=bz.k0;have b5:=bz.k1;have eu:=bz.k2;have ev:=bz.k3;have ew:=bz.k4;have ax:KB w4 bk (.slice la c.n lc) r1 l a Sc (E8 c k v):=⟨HA.bm.below f,HA.e.keep f.size (f.block _ HA.e.lt),HA.eb,HA.ne⟩;have bx:=O (ef.trans (KX.Ar f oa));have c7:Hid (Small (E8 c k v)):=O ⟨c9,by show c.m<=_;omega,by show c.x<=_;omega⟩;have a7:Hid (∀w',B9 w4 w'->C9 270 #[.pointer (some (G bk 0))] w' fun e cD=>e=.returned (V 2 ((c.m:Int)+1) 0 ⟨#[]⟩ 0)/\B9 w' cD):=O (fun w' B=>by
    obtain⟨fr,ft,fu⟩:=(ax.bm.below B).book;exact Ia bk fr ft l a Sc (E8 c k v) w' fu c7)
   have R:=O ax;clear f HA bz ax q0 q1 q2 q3 q4 c1;by_cases b9:k.kind=2/\k.num=(c.m:Int)+1
   focus
    have ca:=O b9;have HF:=O (Vn cr b9.1);clear b9;go_wp2_with fail;refine qr w4 ?_;refine N (h:=N (h:=?_));refine GS (fun K hK=>?_);go_simp;refine⟨_,fun w' B=>qk B ((a7 _ B)),hK _ ?_⟩;clear hK K;refine GS (fun K hK=>?_);go_simp;refine⟨.bool true,fun w' B=>?_,hK _ ?_⟩
    ·obtain⟨x1,x2⟩:=z ca;obtain⟨x3,x4,x5⟩:=z HF;have fw:O9 k.Ag 0=some Ordering.eq:=by simpa using x3
     have fx:k.str.toList=[]:=List.isEmpty_iff.1 x4;simp only[x1,x2,x5,fw,fx,Aaw];exact⟨trivial,trivial⟩
    clear hK K;refine H7 ?_;intro w5 Q;have t:KB w5 bk (.slice la c.n lc) r1 l a Sc (E8 c k v):=⟨R.bm.below Q,R.e.keep Q.size (Q.block _ R.e.lt),R.eb,R.ne⟩;have bf:=O (bx.trans (KX.Ar Q oa));have af:Hid (C9 295 #[.pointer (some (G bk 0)),.pointer (some (G (a c.n) 0))] w5 fun e w'=>(∃u,e=.returned u)/\(∃D S',KB w' bk (.slice la c.n lc) D l a S' {Bd hf c k v with n:=c.n})/\KX Mq bk w w'):=O (by
     obtain⟨x1,x2⟩:=z ca;have c8:T w5:=b0 _ _ HT bf.CN;have cb:((E8 c k v).L (E8 c k v).n)=⟨k,v,c.turns+1⟩:=Y4 c k v;have aq:Bd hf c k v=CG hf (c.x+1) (BX c k v):=by unfold Bd;rw[C3 (z ej),DD ⟨x1,x2⟩]
     obtain⟨fj,a6⟩:=t.bm.ints.block (b:=R1) (by rw[z bg];rfl);obtain⟨fy,bp⟩:=t.bm.slots.block (b:=l) rfl;have ay:=t.e;refine(eF ⟨x1,oa⟩ T ck hf K KL cl bk b0 (.slice la c.n lc) r1 l a Sc (E8 c k v) w5 c8 t.bm c7 e6 (by rw[cb];exact x1) (by rw[cb];exact x2) (Hq KL P hk cr hv df cd x1 x2 U ar)).mono ?_;rintro e w' ⟨⟨hu,D,S',hN⟩,A⟩;have hN:AD w' bk (.slice la c.n lc) D l a S' {CG hf (c.x+1) (BX c k v)with n:=c.n}:=hN;rw[<-aq]at hN;have bq:=A.BB (a c.n) ay.lt (by
      rintro(e|e|e)
      ·have:=t.eb;have h':bk<a c.n:=this;omega
      ·rw[z bg]at e;have e':R1=a c.n:=by simpa[Value.ownBlock]using e
       exact A8 (e'▸ay.ob) a6 oc
      ·exact A8 (e▸ay.ob) bp oc)
     refine⟨hu,⟨D,S',hN,?_,t.eb,t.ne⟩,bf.trans (A.mono (fun b _ _=>dm x1 b))⟩;have h1:(Bd hf c k v).L c.n=(E8 c k v).L c.n:=by rw[z eo];rfl
     show Bl w' (a c.n) ((Bd hf c k v).L c.n) c.n;rw[h1];exact ay.keep A.CN.size bq)
    clear t bf Q R bx a7 ep b5 eu ev ew;go_wp2_with fail;refine af.mono ?_;rintro e w6 ⟨⟨fE,rfl⟩,⟨fW,Sx,ak⟩,ao⟩;have Z:Hid ({{Bd hf c k v with n:=c.n}with n:=c.n+1}=Bd hf c k v):=O (by
     have h1:=z ek;generalize Bd hf c k v=M at h1;cases M;simp only at h1;subst h1;rfl)
    have br:=O ak;have cj:=O ao;clear ak ao af;have H:Hid (KB (w6) bk (.slice la c.n lc) fW l a Sx {Bd hf c k v with n:=c.n}):=O br
   rotate_left
   focus
    have ca:=O b9;clear b9;go_wp2_with fail;refine qr w4 ?_;refine N (h:=N (h:=?_));refine GS (fun K hK=>?_);go_simp;refine⟨_,fun w' B=>qk B ((a7 _ B)),hK _ ?_⟩;clear hK K;refine GS (fun K hK=>?_);go_simp;refine⟨.bool false,fun w' B=>?_,hK _ ?_⟩
    ·have dd:=z ca;by_cases x1:k.kind=2
     ·have x2:¬k.num=(c.m:Int)+1:=fun h=>dd ⟨x1,h⟩;simp only[x1,x2,Aaw,Tn];exact⟨trivial,trivial⟩
     ·simp only[x1,Tn];exact⟨trivial,trivial⟩
    clear hK K;refine H7 ?_;intro w5 Q;have t:KB w5 bk (.slice la c.n lc) r1 l a Sc (E8 c k v):=⟨R.bm.below Q,R.e.keep Q.size (Q.block _ R.e.lt),R.eb,R.ne⟩;have bf:=O (bx.trans (KX.Ar Q oa));have af:Hid (C9 296 #[.pointer (some (G bk 0)),.pointer (some (G (a c.n) 0))] w5 fun e w'=>(∃u,e=.returned u)/\(∃s S',KB w' bk (.slice la c.n lc) r1 s a S' {Bd hf c k v with n:=c.n})/\KX Mq bk w w'):=O (by
     have c8:T w5:=b0 _ _ HT bf.CN;have cb:((E8 c k v).L (E8 c k v).n)=⟨k,v,c.turns+1⟩:=Y4 c k v;have ga:(Cw hf c).n=c.n:=(Gu P U).2.2.n;have aq:AL hf (PN hf (E8 c k v)) ((E8 c k v).L (E8 c k v).n).key (E8 c k v).n={Bd hf c k v with n:=c.n}:=by
      have e1:Bd hf c k v=AL hf (BZ (Cw hf c) k v) k c.n:=by unfold Bd;rw[C3 (z ej),C3 (z ca)]
      rw[e1,cb,Zo P.core,Y5 ga];exact V0 hf (BZ (Cw hf c) k v) k c.n c.n
     obtain⟨fy,bp⟩:=t.bm.slots.block (b:=l) rfl;have ay:=t.e;refine(MP T ck hf bk b0 (.slice la c.n lc) r1 l a Sc (E8 c k v) w5 c8 t.bm c7 (fun i hi ht=>by
      have bw:i<c.n:=hi;rw[Mm c k v bw]at ht ⊢;exact cl _ (P.keys i bw ht)) (by rw[Ve];exact YV P.core U) ay t.eb (by rw[cb];exact cl k hk) (fun j hj=>by
      rcases P.idx.range j hj with e|e|e
      ·exact .inl e
      ·exact .inr (.inl e)
      ·exact .inr (.inr e.1)) P.used).mono ?_
     rintro e w' ⟨⟨hu,s,S',hN⟩,A⟩;rw[aq]at hN;have bq:=A.BB (a c.n) ay.lt (by
      rintro(e|e)
      ·have h':bk<a c.n:=t.eb;omega
      ·exact A8 (e▸ay.ob) bp oc)
     refine⟨hu,⟨s,S',hN,?_,t.eb,t.ne⟩,bf.trans (A.mono (fun b _ h=>HU _ (h.elim .inl (fun e=>.inr (.inr e)))))⟩;have h1:(Bd hf c k v).L c.n=(E8 c k v).L c.n:=by rw[z eo];rfl
     show Bl w' (a c.n) ((Bd hf c k v).L c.n) c.n;rw[h1];exact ay.keep A.CN.size bq)
    clear t bf Q R bx a7 ep b5 eu ev ew;go_wp2_with fail;refine af.mono ?_;rintro e w6 ⟨⟨fE,rfl⟩,⟨gb,Sx,ak⟩,ao⟩;have Z:Hid ({{Bd hf c k v with n:=c.n}with n:=c.n+1}=Bd hf c k v):=O (by
     have h1:=z ek;generalize Bd hf c k v=M at h1;cases M;simp only at h1;subst h1;rfl)
    have br:=O ak;have cj:=O ao;clear ak ao af;have H:Hid (KB (w6) bk (.slice la c.n lc) r1 gb a Sx {Bd hf c k v with n:=c.n}):=O br
   rotate_left;all_goals
    have b6:Hid (KX Mq bk w (w6)):=O cj;have bh:Hid (Rw (w6) (bk+1) C1 (.slice la c.n lc) c.n (fun i=>some (G (a i) 0))):=O (H.bm.log);have fm:(w6).cell? (G bk 0)=some (.slice la c.n lc):=H.bm.c0;have fo:bk<(w6).heap.size:=H.bm.lt;have bj:Hid (∀(o:Obj) (g3 C:Nat) (w3:Y),w3.ownsRow (bk+1) C1 1 (.slice (some (G g3 0)) (c.n+1) C) (c.n+1) (Gd (fun i=>some (G (a i) 0)) c.n++[.pointer (some (G (a c.n) 0))])->((w6).alloc o).grownBy w3 (Value.slice la c.n lc).ownBlock->((Value.slice la c.n lc).ownBlock=some g3\/g3=(w6).heap.size+1)->
      w3.cell? (G bk 0)=some (.slice la c.n lc)/\w3.frozen? (G bk 0)=false/\bk<w3.heap.size/\(∃D s S',AD (w3.setCell (G bk 0) (.slice (some (G g3 0)) (c.n+1) C)) bk (.slice (some (G g3 0)) (c.n+1) C) D s a S' (Bd hf c k v))/\KX Mq bk w (w3.setCell (G bk 0) (.slice (some (G g3 0)) (c.n+1) C))):=O (fun o g3 C w3 h1 h2 h3=>by
     obtain⟨p1,p2,p3,p4,p5⟩:=H.fin h1 h2 h3;exact⟨p1,p2,p3,⟨_,_,_,by rw[<-z Z];exact p4⟩,((b6.alloc oa o).grown h2 oa (fun r e=>.inr ⟨oj (H.bm.log.lt r e).1,HU _ (.inr (.inl e))⟩)).setCell (Be _) (fun _=>HU _ (.inl rfl)) _⟩)
    clear H b6;go_wp2_with (at_builtin;refine Aab _ rfl _ _ 324 rfl (bk+1) C1 i0 (.pointer none) 1 8 underlying324 dn dp dq dr rfl oc (.slice la c.n lc) c.n (Gd (fun i=>some (G (a i) 0)) c.n) rfl (On bh _) (G ((w6).heap.size) 0) 1 1 [.pointer (some (G (a c.n) 0))] rfl rfl (H8 (BE _ _)) (by simp[Value.oneCell']) oc (by unfold maxLen;omega) oa oe ((w6).heap.size+1) od ?_;intro g3 C w3 ad aj ae dc;obtain⟨x3,f3,fq,b7,b8⟩:=z bj _ g3 C w3 ad aj ae;have c3:=O b7;have c4:=O b8;clear ad aj ae b7 b8);go_end0;obtain⟨D,s,S',hN⟩:=z c3;exact⟨⟨⟨_,rfl⟩,_,D,s,a,S',hN⟩,c4⟩
theorem AD.kN(h:AD w bk r0 r1 R2 E S d){p:Nat}(o:p<d.n){q:Pr}(hz:w'.heap.size=w.heap.size)(hb:∀b,b≠E p->w'.heap[b]?=w.heap[b]?)(A:w'.heap[E p]?=some (.cells (Fx q p) 294 (0,0)))(hk:q.key=(d.L p).key\/∀j,j<d.x->d.X j≠(p:Int)+1):AD w' bk r0 r1 R2 E S {d with L:=AP d.L p q}:=by
 have g:=h.Cr p o;have k:E p≠bk:=oj (h.eb p o);have hc:∀q,w'.cell? (G bk q)=w.cell? (G bk q):=fun q=>As (a:=(G bk q)) (hb bk (fun e=>k e.symm));have r:∀{t:TypeId} {v:V9} {n:Nat} {f:Nat->Option Addr},Rw w (bk+1) t v n f->t≠294->Rw w' (bk+1) t v n f:=fun{t v n f} s B=>Cu s (fun b e=>hb b (fun e'=>by
  obtain⟨c,l⟩:=s.block e;rw[e']at l;exact A8 l g.ob B))
 refine⟨by rw[hz];exact h.lt,(hc _).trans h.c0,(hc _).trans h.c1,(hc _).trans h.c2,(hc _).trans h.c3,(hc _).trans h.c4,(hc _).trans h.c5,(hc _).trans h.c6,fun q=>(GW (a:=(G bk q)) (hb bk (fun e=>k e.symm))).trans (h.fz q),r h.log oc,r h.ints oc,h.rf,r h.slots oc,h.ap,fun i hi=>?_,h.eb,h.inj,fun j hj=>?_,h.sg⟩
 ·show Bl w' (E i) (AP d.L p q i) i;by_cases e:i=p
  ·subst e;rw[Ao];exact Bl.Vu A
  ·rw[Af _ _ e];exact(h.Cr i hi).keep oa (hb _ (fun e'=>e (h.inj i p hi o e')))
 ·have hs:=(h.sl j hj).keep (w':=w') oa (fun c m=>hb _ (fun e=>by
   rw[e]at m;exact A8 m g.ob oc))
  refine⟨fun u=>?_,hs.2⟩;have h1:=hs.1 u;show Gj w' (S j) (AP d.L p q (d.X j-1).toNat).key (E (d.X j-1).toNat);by_cases e:(d.X j-1).toNat=p
  ·rw[e,Ao];rcases hk with hk|hk
   ·rw[hk];have h2:Gj w' (S j) (d.L (d.X j-1).toNat).key (E (d.X j-1).toNat):=h1;rw[e]at h2;exact h2
   ·have C:0<d.X j:=u;exact absurd (show d.X j=(p:Int)+1 by omega) (hk j hj)
  ·rw[Af _ _ e];exact h1
def G6(w:Y)(b:Nat)(v:Vl):World:=((((w.setCell (G b 5) (J v.kind)).setCell (G b 6) (J v.num)).setCell (G b 7) (F9 v.Ag)).setCell (G b 8) (.string v.str)).setCell (G b 9) (J v.ref)
def CH(w:Y)(b:Nat):World:=((((((((((w.setCell (G b 0) (J 0)).setCell (G b 1) (J 0)).setCell (G b 2) (F9 0)).setCell (G b 3) (E9)).setCell (G b 4) (J 0)).setCell (G b 5) (J 0)).setCell (G b 6) (J 0)).setCell (G b 7) (F9 0)).setCell (G b 8) (E9)).setCell (G b 9) (J 0)).setCell (G b 10) (J 0)
theorem Rh{v:Vl}(h:b'≠b):(G6 w b v).heap[b']?=w.heap[b']?:=by
 unfold G6;iterate 5 (refine(A0 _ _ _ _ (by exact h)).trans ?_)
 rfl
theorem NK(h:b'≠b):(CH w b).heap[b']?=w.heap[b']?:=by
 unfold CH;iterate 11 (refine(A0 _ _ _ _ (by exact h)).trans ?_)
 rfl
theorem Th{p:Pr}{v:Vl}(h:Bl w b p i):(G6 w b v).heap[b]?=some (.cells (Fx ⟨p.key,v,p.turn⟩ i) 294 (0,0)):=by
 have h1:=Is w b 5 _ _ (J v.kind) h.ob;have h2:=Is _ b 6 _ _ (J v.num) h1;have h3:=Is _ b 7 _ _ (F9 v.Ag) h2;have h4:=Is _ b 8 _ _ (.string v.str) h3;have h5:=Is _ b 9 _ _ (J v.ref) h4;exact h5.trans (by simp[Fx])
theorem Jf{p:Pr}(h:Bl w b p i):(CH w b).heap[b]?=some (.cells (Fx default i) 294 (0,0)):=by
 have h1:=Is w b 0 _ _ (J 0) h.ob;have h2:=Is _ b 1 _ _ (J 0) h1;have h3:=Is _ b 2 _ _ (F9 0) h2;have h4:=Is _ b 3 _ _ (E9) h3;have h5:=Is _ b 4 _ _ (J 0) h4;have d:=Is _ b 5 _ _ (J 0) h5;have e:=Is _ b 6 _ _ (J 0) d;have f:=Is _ b 7 _ _ (F9 0) e;have g:=Is _ b 8 _ _ (E9) f;have a:=Is _ b 9 _ _ (J 0) g;have c:=Is _ b 10 _ _ (J 0) a;exact c.trans (by simp[Fx];exact⟨rfl,rfl,rfl,rfl,rfl,rfl,rfl,rfl,rfl,rfl,rfl⟩)
theorem Rg{v:Vl}(h:bk<=b):Below bk w (G6 w b v):=by
 unfold G6;iterate 5 (refine PC ?_ (by exact h) _)
 exact Cs _ _
theorem NJ(h:bk<=b):Below bk w (CH w b):=by
 unfold CH;iterate 11 (refine PC ?_ (by exact h) _)
 exact Cs _ _
theorem Ti{v:Vl}:(G6 w b v).heap.size=w.heap.size:=by unfold G6;simp
theorem OX:(CH w b).heap.size=w.heap.size:=by unfold CH;simp
theorem Xu(T:World->Prop)(g:EM T)(hf:Vl->Nat)(K:Vl->Prop)(h:∀v,K v->O7 T v (hf v))(bk:Nat)(k:∀w w',T w->Below bk w w'->T w')(r0 r1:V9)(R2:Nat)(E S:Nat->Nat)(d:Dc)(W:Y)(n:T W)(o:AD W bk r0 r1 R2 E S d)(p:Small d)(c:Cj K hf d)(f:DH d):
  C9 294 #[Q9 bk] W fun e w'=>((∃u,e=.returned u)/\∃a b l S',AD w' bk a r1 b l S' (Ap hf d))/\Below bk W w':=by
 refine(LO T g hf bk k r0 r1 R2 E S d W n o p (fun i hi q=>h _ (c.keys i hi q)) (by have:=c.core.Jy;have:=c.le;omega) (fun j hj=>by
  rcases c.ints j hj with e|e
  ·exact .inl e
  ·exact .inr ⟨e.1,e.2.1,e.2.2.1⟩) (fun j hj r=>by
  rcases c.idx.range j hj with e|e|⟨e1,e2,e3,_⟩
  ·omega
  ·omega
  ·exact⟨oa,e3⟩)).mono ?_
 rintro e w' ⟨⟨hu,a,b,l,S',hN⟩,m⟩;exact⟨⟨hu,a,b,l,S',hN.JU c.core (by have:=f.1;have:=f.2;omega)⟩,m.CN⟩
theorem WN(h:¬DH d):Ap hf d=d:=DD (by
 by_cases a:(d.n:Int)<8
 ·exact .inl a
 ·exact .inr (by
   refine AaJ fun h2=>h ⟨oa,oa⟩))
theorem Uz(T:World->Prop)(ao:EM T)(hf:Vl->Nat)(K:Vl->Prop)(KL:KeyLaw K hf)(bh:∀v,K v->O7 T v (hf v))(bk:Nat)(bj:∀w w',T w->Below bk w w'->T w')(r0 r1:V9)(R2:Nat)(E S:Nat->Nat)(d:Dc)(p:Nat)(w:Y)(hT:T w)(P:AD w bk r0 r1 R2 E S d)(hS:Small d)
  (B:Inv K hf d) (hp:p<d.n) (ht:(d.L p).turn≠0):
  C9 278 #[.pointer (some (G bk 0)),.pointer (some (G (E p) 0))] w fun e w'=>((∃u,e=.returned u)/\∃aq f ar E2 S',AD w' bk aq f ar E2 S' (XL hf d p))/\Below bk w w':=by
 obtain⟨g1,g2,g3,g4,g5,g6⟩:=FR KL B.i0 B.next hp ht;have cd:=P.lt;have k:=P.Cr p hp;have k0:=k.k0;have k1:=k.k1;have k2:=k.k2;have k3:=k.k3;have k4:=k.k4;have au:=k.lt;have cg:=P.eb p hp;obtain⟨R1,q1,e1⟩:=P.rf;have c1:=P.c1;rw[e1]at c1;have bm:=hS.m;have bc:=B.i0.log.EH;have ch:=B.i0.le;have cj:1<=d.live:=by
  have h1:=Ki hp ht;have h2:(IP d:Int)=d.live:=bc;have h3:CI d d.n=IP d:=rfl;omega
 have ck:IntKind.i64.wrap (d.live-1)=d.live-1:=by rw[Hi];omega
 have END:∀(W:Y) (f:V9) (S':Nat->Nat) (c:Dc),Below bk w W->AD W bk r0 f R2 E S' c->c.n=d.n->c.L=d.L->(∀j,j<c.x->c.X j≠(p:Int)+1)->{c with L:=AP c.L p default,live:=d.live-1}=FP hf d p->c.live=d.live->Small c->
   (W.frozen? (G (E p) 0)=false/\∀q,W.frozen? (G (E p) q)=false)/\E p<W.heap.size/\Bl W (E p) (d.L p) p/\Bl (CH W (E p)) (E p) default p/\AD (CH W (E p)) bk r0 f R2 E S' {c with L:=AP c.L p default}/\AD ((CH W (E p)).setCell (G bk 5) (J (d.live-1))) bk r0 f R2 E S' (FP hf d p)/\Below bk w ((CH W (E p)).setCell (G bk 5) (J (d.live-1))):=fun W f S' c hB C hn hL hx hg hl hs=>by
  have he:Bl W (E p) (d.L p) p:=by have:=C.Cr p oa;rwa [hL]at this
  have g:=C.kN (p:=p) oa (q:=default) (w':=CH W (E p)) OX (fun b hb=>NK hb) (Jf he) (.inr hx);have aj:=g.G3 (d.live-1);have aj:AD ((CH W (E p)).setCell (G bk 5) (J (d.live-1))) bk r0 f R2 E S' {c with L:=AP c.L p default,live:=d.live-1}:=aj;rw[hg]at aj;have bn:∀q,W.frozen? (G (E p) q)=false:=fun q=>by simp[World.frozen?,he.ob]
  exact⟨⟨bn 0,bn⟩,he.lt,he,Bl.Vu (Jf he),g,aj,(hB.trans (NJ oa)).setCell (by exact Be _) _⟩
 have af:=O END;have Q:∀(W:Y) (f:V9) (S':Nat->Nat),Below bk w W->AD W bk r0 f R2 E S' (FP hf d p)->Small (FP hf d p)->(C9 293 #[.pointer (some (G bk 0))] W (R9 (.bool (tells (DH (FP hf d p)))) W))/\(∀W',B9 W W'->DH (FP hf d p)->C9 294 #[.pointer (some (G bk 0))] W' fun e w'=>((∃u,e=.returned u)/\∃aq ar E2 S',AD w' bk aq f ar E2 S' (XL hf d p))/\Below bk W' w')/\(∀W',B9 W W'->¬DH (FP hf d p)->AD W' bk r0 f R2 E S' (XL hf d p)):=fun W f S' hB C hs=>by
  refine⟨LC bk r0 f R2 E S' (FP hf d p) W C hs (by rw[g5];omega) (by rw[g5];omega),fun W' A l=>?_,fun W' A l=>?_⟩
  ·exact Xu T ao hf K bh bk bj r0 f R2 E S' (FP hf d p) W' (bj _ _ hT (hB.trans (A.mono (oj C.lt)))) (C.below A) hs g1 l
  ·show AD W' bk r0 f R2 E S' (Ap hf (FP hf d p));rw[WN l];exact C.below A
 have ah:=O Q;have HM:=O P;have HT:=O hT;have HS:=O hS;have HI:=O B;have bz:=O k;by_cases hs:AA d.m (d.L p).key
 focus
  have av:=O (Bw hs);obtain⟨a1,a2,a3⟩:=hs;obtain⟨q,hq⟩:∃q:Nat,(d.L p).key.num=(q:Int)+1:=⟨((d.L p).key.num-1).toNat,oa⟩;have b0:q<d.m:=oa;have HG:Hid ({{d with m:=shrink (AP d.I q 0) d.m,I:=AP d.I q 0}with L:=AP d.L p default,live:=d.live-1}=FP hf d p):=O (by
   rw[IG ⟨a1,a2,a3⟩];unfold goSmall;rw[show((d.L p).key.num-1).toNat=q by omega];rfl)
  have R:∀j,j<d.x->d.X j≠(p:Int)+1:=fun j hj e=>by
   rcases B.i0.idx.range j hj with h|h|⟨h1,h2,h3,h4⟩
   ·omega
   ·omega
   ·rw[show(d.X j-1).toNat=p by omega]at h4;exact h4 ⟨a1,a2,a3⟩
  have cl:=(Ip (AP d.I q 0) d.m).1;have U:Hid (∀W,B9 w W->C9 291 #[.pointer (some (G bk 0)),J ((q:Int)+1)] W fun e w'=>((∃u,e=.returned u)/\∃f,AD w' bk r0 f R2 E S {d with m:=shrink (AP d.I q 0) d.m,I:=AP d.I q 0})/\Below bk W w'):=O (fun W hW=>OY bk r0 r1 R2 E S d q W (P.below hW) hS b0 (fun j hj=>by
   rcases B.i0.ints j hj with e|e<;>omega))
  have HQ:=O hq;have aw:=O R;clear a1 a2 a3 hq R P hT hS B k END Q g1 g2 g3 g4 g5 g6
  go_enter func278,ntmps278
  go_wp2_with fail
  refine qr w ?_;refine N (h:=N (h:=N (h:=N (h:=N (h:=N (h:=N (h:=N (h:=N (h:=N (h:=?_))))))))));refine GS (fun K hK=>?_);go_simp;apply Exists.intro;refine And.intro (fun w' Z=>?_) (hK _ ?_)
  ·refine(((z av)▸Co (d.L p).key d.m _ bm)).mono ?_;rintro e b1 ⟨rfl,hb⟩;exact⟨rfl,oo Z hb⟩
  clear hK K;refine H7 ?_;intro w1 o;have b2:=ol o au k1;rw[z HQ]at b2;have t:=At au o.size;have ae:=O o;clear o k0 k1 k2 k3 k4 c1;go_wp2_with fail;refine(U _ ae).mono ?_;rintro e w2 ⟨⟨⟨uu,rfl⟩,f,g⟩,ak⟩;obtain⟨⟨b4,ff⟩,l2,e2,bp,m2,m3,b3⟩:=z af w2 f S _ (ae.mono oa |>.trans ak) g rfl rfl aw HG rfl ⟨HS.n,by show shrink (AP d.I q 0) d.m<=_;omega,HS.x⟩;have c5:=g.c5;have f5:=g.fz 5;have b5:=g.lt;have b6:E p≠bk:=oa;have z0:=e2.k0;have z1:=e2.k1;have z2:=e2.k2;have z3:=e2.k3;have z4:=e2.k4;have z5:=e2.v0;have z6:=e2.v1;have z7:=e2.v2;have z8:=e2.v3;have z9:=e2.v4;have b7:=e2.tn;have bq:Hid (Small (FP hf d p)):=O (by rw[<-z HG];exact⟨HS.n,by show shrink (AP d.I q 0) d.m<=_;omega,HS.x⟩)
 rotate_left
 focus
  have av:=O (Bq hs);obtain⟨s,br,b8,ax⟩:=B.i0.found KL (B.i0.keys p hp ht) ⟨hp,ht,hs⟩ (KL.refl _ (B.i0.keys p hp ht));have HG:Hid ({{d with X:=AP d.X s (-1)}with L:=AP d.L p default,live:=d.live-1}=FP hf d p):=O (by rw[JX hs ax];rfl);have R:∀j,j<d.x->AP d.X s (-1) j≠(p:Int)+1:=fun j hj e=>by
   by_cases ej:j=s
   ·rw[ej,Ao]at e;omega
   ·rw[Af _ _ ej]at e;exact ej (B.i0.idx.uniq j s hj br oa oa)
  have ai:Hid (∀W,B9 w W->C9 280 #[.pointer (some (G bk 2)),V (d.L p).key.kind (d.L p).key.num (d.L p).key.Ag (d.L p).key.str (d.L p).key.ref] W (R9 (J (s:Int)) W)):=O (fun W hW=>by
   obtain⟨b9,ca,hB⟩:=(P.below hW).book;have:=M4 T ao bk b9 ca R2 E S d (d.L p).key (hf (d.L p).key) (bh _ (B.i0.keys p hp ht)) W (ao _ _ hT hW) hB hS B.i0.d4;rw[ax]at this;exact this)
  have U:Hid (∀W,B9 w W->C9 292 #[.pointer (some (G bk 2)),J (s:Int)] W fun e w'=>((∃u,e=.returned u)/\∃S',AD w' bk r0 r1 R2 E S' {d with X:=AP d.X s (-1)})/\KX (fun b=>b=R2) bk W w'):=O (fun W hW=>Hz bk r0 r1 R2 E S d s W (P.below hW) hS br);obtain⟨cm,ag⟩:=P.slots.block (b:=R2) rfl;have bd:E p≠R2:=fun e=>A8 (e▸k.ob) ag oc;have aw:=O R;clear hs R P hT hS B k END Q g1 g2 g3 g4 g5 g6 b8 ax ag
  go_enter func278,ntmps278
  go_wp2_with fail
  refine qr w ?_;refine N (h:=N (h:=N (h:=N (h:=N (h:=N (h:=N (h:=N (h:=N (h:=N (h:=?_))))))))));refine GS (fun K hK=>?_);go_simp;apply Exists.intro;refine And.intro (fun w' Z=>?_) (hK _ ?_)
  ·refine(((z av)▸Co (d.L p).key d.m _ bm)).mono ?_;rintro e b1 ⟨rfl,hb⟩;exact⟨rfl,oo Z hb⟩
  clear hK K;refine H7 ?_;intro w1 o;have i:=bz.keep o.size (o.block _ au);have F:JK (E p) (d.L p).key w1.drew:=⟨i.k0,i.k1,i.k2,i.k3,i.k4⟩;have t:=i.lt;have cn:=o.size;have ae:=O o;clear o k0 k1 k2 k3 k4 c1 i;go_wp2_with fail;refine Hl (JK (E p) (d.L p).key) ?_;refine tz 0 (h:=tz 1 (h:=tz 2 (h:=tz 3 (h:=tz 4 (h:=tz 5 (h:=tz 6 (h:=tz 7 (h:=tz 8 (h:=tz 9 (h:=tz 10 (h:=?_)))))))))));refine ry 11 (fun K hK=>?_);go_simp;refine(ai _ ae.drew).mono ?_;rintro e wf ⟨rfl,r⟩;have r:B9 w1 wf:=(Cs w1.heap.size w1).drew.trans r;have D:JK (E p) (d.L p).key wf:=⟨(r.cell (p:=(G (E p) 0)) t).trans F.1,(r.cell (p:=(G (E p) 1)) t).trans F.2.1,(r.cell (p:=(G (E p) 2)) t).trans F.2.2.1,(r.cell (p:=(G (E p) 3)) t).trans F.2.2.2.1,(r.cell (p:=(G (E p) 4)) t).trans F.2.2.2.2⟩;refine hK.out _ _ D (fun _=>?_);clear hK K F;have cp:=r.size;have bt:=O (ae.trans (r.mono oa));clear r;refine ry 12 (fun K hK=>?_);go_simp;refine(U _ bt).mono ?_;rintro e w2 ⟨⟨⟨uu,rfl⟩,S2,g⟩,ad⟩;have ak:=ad.CN;have H:=ad.BB (E p) oa bd;refine hK.out _ _ ⟨(As (a:=(G (E p) 0)) H).trans D.1,(As (a:=(G (E p) 1)) H).trans D.2.1,(As (a:=(G (E p) 2)) H).trans D.2.2.1,(As (a:=(G (E p) 3)) H).trans D.2.2.2.1,(As (a:=(G (E p) 4)) H).trans D.2.2.2.2⟩ (fun _=>?_);clear hK K D ad H;refine Fj ?_;obtain⟨⟨b4,ff⟩,l2,e2,bp,m2,m3,b3⟩:=z af w2 r1 S2 _ (bt.mono oa |>.trans ak) g rfl rfl aw HG rfl ⟨HS.n,HS.m,HS.x⟩;have c5:=g.c5;have f5:=g.fz 5;have b5:=g.lt;have b6:E p≠bk:=oa;have z0:=e2.k0;have z1:=e2.k1;have z2:=e2.k2;have z3:=e2.k3;have z4:=e2.k4;have z5:=e2.v0;have z6:=e2.v1;have z7:=e2.v2;have z8:=e2.v3;have z9:=e2.v4;have b7:=e2.tn;have bq:Hid (Small (FP hf d p)):=O (by rw[<-z HG];exact⟨HS.n,HS.m,HS.x⟩)
 rotate_left;all_goals
  obtain⟨L1,L2,L3⟩:=z ah _ _ _ b3 m3 bq;unfold CH at L1 L2 L3 b3;have ay:=O L1;have az:=O L2;have aM:=O L3;have a6:=O b3;clear g ak e2 bp m2 m3 b3 L1 L2 L3;go_wp2_with fail;by_cases l:DH (FP hf d p)
  ·have a7:=O (Bw l);have bf:=O (fun W' A=>az W' A l);clear l az aM;refine ay.mono ?_;rintro e w5 ⟨rfl,M⟩;rw[z a7];have bu:=O M;clear M;go_wp2_with fail;refine(bf _ bu).mono ?_;rintro e w6 ⟨⟨⟨cq,rfl⟩,cb,cc,E6,S6,bw⟩,bx⟩;have cr:=a6.size;have a8:=O (a6.trans ((bu.mono oe).trans bx));have bb:=O bw;clear bw bx;go_wp2;go_end0;exact⟨⟨⟨_,rfl⟩,cb,_,cc,E6,S6,bb⟩,a8⟩
  ·have a7:=O (Bq l);have bg:=O (fun W' A=>aM W' A l);clear l az aM;refine ay.mono ?_;rintro e w5 ⟨rfl,M⟩;rw[z a7];have a8:=O (a6.trans (M.mono oe));have bb:=O (bg _ M);clear M ay;go_wp2;go_end0;exact⟨⟨⟨_,rfl⟩,_,_,_,_,_,bb⟩,a8⟩
def jA:Prop:=∀(T:World->Prop) (f:EM T) (hf:Vl->Nat) (K:Vl->Prop) (j:KeyLaw K hf) (g:∀v,K v->O7 T v (hf v)) (bk:Nat) (h:∀w w',T w->Below bk w w'->T w') (r0 r1:V9) (R2:Nat) (E S:Nat->Nat) (d:Dc) (p:Nat) (w:Y) (k:T w) (l:AD w bk r0 r1 R2 E S d) (m:Small d)
  (o:Inv K hf d) (q:p<d.n) (r:(d.L p).turn≠0),
  C9 278 #[Q9 bk,Q9 (E p)] w fun e w'=>((∃u,e=.returned u)/\∃a b c i S',AD w' bk a b c i S' (XL hf d p))/\Below bk w w'
theorem mY:jA:=Uz
def MI(k v:Vl):Prop:=(v.kind=0->jA)/\(k.kind=2/\0<k.num->eV)
theorem kJ(k v:Vl):MI k v:=⟨fun _=>mY,fun _=>mO⟩
def pM(p:Int)(d:Dc)(k:Vl)(bk:Nat)(r0:V9)(R2 b:Nat):Prop:=p=-1->aM d k bk r0 R2 b
theorem VA(T:World->Prop)(B:EM T)(hf:Vl->Nat)(K:Vl->Prop)(KL:KeyLaw K hf)(ae:∀v,K v->O7 T v (hf v))(bk:Nat)(ao:∀w w',T w->Below bk w w'->T w')(r0 r1:V9)(R2:Nat)(E S:Nat->Nat)(d:Dc)(k v:Vl)(w:Y)(hT:T w)(C:AD w bk r0 r1 R2 E S d)(hS:Small d)(av:d.m<=4000000)
  (D:Inv K hf d) (hk:K k) (aw:Df k=true) (hv:v.ok=true) (hR:MI k v):
  C9 261 #[Q9 bk,V k.kind k.num k.Ag k.str k.ref,V v.kind v.num v.Ag v.str v.ref] w fun e w'=>((∃u,e=.returned u)/\∃o p r X S',AD w' bk o p r X S' (Cf hf d k v))/\KX (pM (Aw d k (hf k)) d k bk r0 R2) bk w w':=by
 have aq:0<=Aw d k (hf k)->∀b,pM (Aw d k (hf k)) d k bk r0 R2 b:=fun h b h'=>oa;have ar:∀b,aM d k bk r0 R2 b->pM (Aw d k (hf k)) d k bk r0 R2 b:=fun b h _=>h;generalize pM (Aw d k (hf k)) d k bk r0 R2=Mq at*;have ax:=O aq;have ay:=O ar;clear aq ar;have au:=O hR;clear hR;have Z:=C.lt;have H:B9 w ((w.alloc (.cells (ow k) 43)).alloc (.cells (ow v) 43)):=(n9).alloc od _;have g:Hid (JQ ((w.alloc (.cells (ow k) 43)).alloc (.cells (ow v) 43)) w.heap.size k/\JQ ((w.alloc (.cells (ow k) 43)).alloc (.cells (ow v) 43)) (w.heap.size+1) v):=O ⟨⟨oe,by simp[go_sem],by simp[go_sem],by simp[go_sem],by simp[go_sem],by simp[go_sem]⟩,⟨od,by simp[go_sem],by simp[go_sem],by simp[go_sem],by simp[go_sem],by simp[go_sem]⟩⟩;have c:=O H;have s:∀W,B9 w W->C9 263 #[Q9 bk,V k.kind k.num k.Ag k.str k.ref] W (R9 (.pointer (CV E (Aw d k (hf k)))) W):=fun W I=>by
  obtain⟨az,a6,hB⟩:=(C.below I).book;exact IA T B bk az a6 R2 E S d k (hf k) (ae k hk) W (B _ _ hT I) hB hS D.i0.d3 D.i0.d4
 rcases D.i0.place KL hk with⟨i,h1,h2,h3,h4⟩|⟨h1,h2⟩
 ·have F:0<=Aw d k (hf k):=oa;have HU:=O (ax F);have hi:(Aw d k (hf k)).toNat=i:=oa;have t:CV E (Aw d k (hf k))=some (G (E i) 0):=by unfold CV;rw[DD F,hi]
  rw[t]at s;have n:=O s;have a7:=C.eb i h1;by_cases x:v.kind=0
  ·have j:Hid (Cf hf d k v=XL hf d i):=O (by rw[Kf F x,hi]);have aj:Hid (∀W,B9 w W->C9 278 #[Q9 bk,Q9 (E i)] W fun e w'=>((∃u,e=.returned u)/\∃o p r X S',AD w' bk o p r X S' (XL hf d i))/\Below bk W w'):=O (fun W I=>au.1 x T B hf K KL ae bk ao r0 r1 R2 E S d i W (B _ _ hT I) (C.below I) hS D h1 h2);have HV:=O x;rw[z j];clear C hT hS D h2 h3 h4 F hi t s H x
   go_enter func261,ntmps261
   go_wp2_with fail
   refine(n _ c).mono ?_;rintro e w1 ⟨rfl,a⟩;have l:=g.2.keep a.size (a.block _ g.2.lt);have v0:=l.k0;rw[z HV]at v0;have lv:=l.lt;have A:=O (oo c a);clear a l;go_wp2_with fail;refine(aj _ A).mono ?_;rintro e w2 ⟨⟨⟨uu,rfl⟩,o,p,r,X,S',M⟩,P⟩;have af:=O M;have Q:=O ((A.mono (Aax Z)).trans P);clear M P;go_wp2;go_end0;exact⟨⟨⟨_,rfl⟩,o,p,r,X,S',af⟩,Q,fun b _ h=>absurd (HU b) h⟩
  ·have j:Hid (Cf hf d k v=I7 d i v):=O (by rw[Ik F x,hi]);have bf:(v.kind !=0)=true:=by simp[x]
   have ad:Hid (∀W,B9 w W->Bl W (E i) (d.L i) i/\AD (G6 W (E i) v) bk r0 r1 R2 E S (I7 d i v)):=O (fun W I=>by
    have R:=(C.below I).Cr i h1;exact⟨R,(C.below I).kN h1 Ti (fun b hb=>Rh hb) (Th R) (.inl rfl)⟩)
   rw[z j];clear C hT hS D h2 h3 h4 F hi t s H x
   go_enter func261,ntmps261
   go_wp2_with fail
   refine(n _ c).mono ?_;rintro e w1 ⟨rfl,a⟩;have l:=g.2.keep a.size (a.block _ g.2.lt);have v0:=l.k0;have v1:=l.k1;have v2:=l.k2;have v3:=l.k3;have v4:=l.k4;have lv:=l.lt;have f:=oo c a;obtain⟨R,hN⟩:=z ad _ f;have bn:∀q,w1.frozen? (G (E i) q)=false:=fun q=>by simp[World.frozen?,R.ob]
   have z5:=R.v0;have z6:=R.v1;have z7:=R.v2;have z8:=R.v3;have z9:=R.v4;have bp:=R.lt;have Q:Hid (Below bk w (G6 w1 (E i) v)):=O ((f.mono (Aax Z)).trans (Rg (bk:=bk) (w:=w1) (b:=E i) (v:=v) (Aax a7)));have HN:=O hN;clear a l f R hN ad g n c;go_wp2;go_end0;exact⟨⟨⟨_,rfl⟩,_,_,_,_,_,HN⟩,Q,fun b _ h=>absurd (HU b) h⟩
 ·have F:¬0<=Aw d k (hf k):=oa;have t:CV E (Aw d k (hf k))=none:=by unfold CV;rw[C3 F]
  rw[t]at s;have n:=O s;have bg:=D.i0.log.EH;have bq:=D.i0.le;have br:=D.i0.turns;by_cases hc:v.kind≠0/\d.live<500/\d.turns<1000000000000
  ·have j:Hid (Cf hf d k v=Hd hf d k v):=O (Fp F hc);obtain⟨ag,ah,ai⟩:=hc;have bh:(v.kind !=0)=true:=by simp[ag]
   have bj:decide (d.live<500)=true:=by simp[ah]
   have bm:decide (d.turns<1000000000000)=true:=by simp[ai]
   have ak:Hid (∀W,B9 w W->C9 279 #[Q9 bk,V k.kind k.num k.Ag k.str k.ref,V v.kind v.num v.Ag v.str v.ref] W fun e w'=>((∃u,e=.returned u)/\∃o p r X S',AD w' bk o p r X S' (Hd hf d k v))/\KX Mq bk W w'):=O (fun W I=>aN T B hf K KL ae bk ao r0 r1 R2 E S d k v W (B _ _ hT I) (C.below I) hS av D hk aw hv ag h1 ah ai au.2 |>.mono fun e w' h=>⟨h.1,h.2.mono fun b _=>ay b⟩);have HM:=O C;rw[z j];clear C hT hS D h1 h2 F t s H ag ah ai
   go_enter func261,ntmps261
   go_wp2_with fail
   refine(n _ c).mono ?_;rintro e w1 ⟨rfl,a⟩;have f:=oo c a;have l:=g.2.keep a.size (a.block _ g.2.lt);have vk:=g.1.keep a.size (a.block _ g.1.lt);have v0:=l.k0;have v1:=l.k1;have v2:=l.k2;have v3:=l.k3;have v4:=l.k4;have lv:=l.lt;have y0:=vk.k0;have y1:=vk.k1;have y2:=vk.k2;have y3:=vk.k3;have y4:=vk.k4;have lk:=vk.lt;have c5:=(HM.below f).c5;have c6:=(HM.below f).c6;have lb:=(HM.below f).lt;have A:=O f;clear a l vk f;go_wp2_with fail;refine(ak _ A).mono ?_;rintro e w2 ⟨⟨⟨uu,rfl⟩,o,p,r,X,S',M⟩,P⟩;have af:=O M;have Q:=O ((KX.Ar A (Aax Z)).trans P);clear M P;go_wp2;go_end0;exact⟨⟨⟨_,rfl⟩,o,p,r,X,S',af⟩,Q⟩
  ·have j:Hid (Cf hf d k v=d):=O (FH F hc);have HM:=O C;rw[z j];have a8:v.kind=0\/(v.kind≠0/\¬d.live<500)\/(v.kind≠0/\d.live<500/\¬d.turns<1000000000000):=by
    by_cases e1:v.kind=0
    ·exact .inl e1
    ·by_cases e2:d.live<500
     ·exact .inr (.inr ⟨e1,e2,fun e3=>hc ⟨e1,e2,e3⟩⟩)
     ·exact .inr (.inl ⟨e1,e2⟩)
   clear C hT hS D h1 h2 F t s H hc
   go_enter func261,ntmps261
   go_wp2_with fail
   refine(n _ c).mono ?_;rintro e w1 ⟨rfl,a⟩;have f:=oo c a;have l:=g.2.keep a.size (a.block _ g.2.lt);have v0:=l.k0;have lv:=l.lt;have U:=HM.below f;have c5:=U.c5;have c6:=U.c6;have lb:=U.lt;have bb:=O U;have A:Hid (KX Mq bk w w1):=O (KX.Ar f (Aax Z));clear a l f U;rcases a8 with e1|⟨e1,e2⟩|⟨e1,e2,e3⟩
   focus
    rw[e1]at v0;clear e1
   rotate_left
   focus
    have bc:(v.kind !=0)=true:=by simp[e1]
    have bd:decide (d.live<500)=false:=by simp[e2]
    clear e1 e2
   rotate_left
   focus
    have bc:(v.kind !=0)=true:=by simp[e1]
    have bd:decide (d.live<500)=true:=by simp[e2]
    have bt:decide (d.turns<1000000000000)=false:=by simp[e3]
    clear e1 e2 e3
   rotate_left;all_goals
    go_wp2;go_end0;exact⟨⟨⟨_,rfl⟩,_,_,_,_,_,bb⟩,A⟩
structure DV (d:Dc) (w:Y) (v0 v1 v2:V9) (lo hi:Nat):Prop where
 log:Kz d.L d.n w v0 lo hi
 ints:Hb d.I d.m w v1 lo hi
 index:Hb d.X d.x w v2 lo hi
 lB:∀q,v0.ownBlock=some q->v1.ownBlock≠some q
 lC:∀q,v0.ownBlock=some q->v2.ownBlock≠some q
 a12:∀q,v1.ownBlock=some q->v2.ownBlock≠some q
abbrev dO(v0 v1 v2:V9)(d:Dc):Value:=.agg #[v0,v1,v2,J d.used,J d.live,J d.turns]
theorem DV.keep(h:DV d w v0 v1 v2 lo hi)(hk:∀b,lo<=b->b<hi->w'.heap[b]?=w.heap[b]?):DV d w' v0 v1 v2 lo hi:=
 ⟨h.log.keep hk,h.ints.keep (fun b _=>hk b),h.index.keep (fun b _=>hk b),h.lB,h.lC,h.a12⟩
theorem DV.at(h:DV d w v0 v1 v2 lo hi):∃la lc ia ic xa xc,v0=.slice la d.n lc/\v1=.slice ia d.m ic/\v2=.slice xa d.x xc/\G8 w la ia xa d:=by
 obtain⟨la,lc,rfl,a⟩:=h.log.at;obtain⟨ia,ic,rfl,h1⟩:=h.ints.at;obtain⟨xa,xc,rfl,h2⟩:=h.index.at;exact⟨la,lc,ia,ic,xa,xc,rfl,rfl,rfl,a,h1,h2⟩
theorem Kz.own{f:Nat->Pr}(h:Kz f n w v lo hi){b:Nat}(e:v.ownBlock=some b):lo<=b/\b<hi/\b<w.heap.size:=by
 rcases h with⟨a,rfl⟩|⟨b',c,Z,g,rfl,h2,h3,h4,h5,d⟩
 ·cases e
 ·have e':b'=b:=by simpa[Value.ownBlock]using e
  subst e';exact⟨h2,h3,Ok h4⟩
structure Eg (w wr:Y) (v0 v1 v2:V9) (d:Dc):Prop where
 b0:wr.heap[w.heap.size]?=some (.cells #[N9,N9,N9,J 0,J 0,J 0] 92 (0,0))
 b1:wr.heap[w.heap.size+1]?=some (.cells #[v0,v1,v2,J d.used,J d.live,J d.turns] 92 (0,0))
 CN:B9 w wr
theorem Eg.size(h:Eg w wr v0 v1 v2 d):w.heap.size+1<wr.heap.size:=(GC.1 h.b1).1
theorem Eg.cells(h:Eg w wr v0 v1 v2 d):wr.cell? (Y9 w 0)=some v0/\wr.cell? (Y9 w 1)=some v1/\wr.cell? (Y9 w 2)=some v2/\wr.cell? (Y9 w 3)=some (J d.used)/\wr.cell? (Y9 w 4)=some (J d.live)/\wr.cell? (Y9 w 5)=some (J d.turns)/\∀q,wr.frozen? (Y9 w q)=false:=
 ⟨by simp[World.cell?,h.b1],by simp[World.cell?,h.b1],by simp[World.cell?,h.b1],by simp[World.cell?,h.b1],by simp[World.cell?,h.b1],by simp[World.cell?,h.b1],fun q=>by simp[World.frozen?,h.b1]⟩
theorem Eg.keep(h:Eg w wr v0 v1 v2 d)(a:w'.heap[w.heap.size]?=wr.heap[w.heap.size]?)(h1:w'.heap[w.heap.size+1]?=wr.heap[w.heap.size+1]?)(hb:B9 w w'):Eg w w' v0 v1 v2 d:=⟨a.trans h.b0,h1.trans h.b1,hb⟩
theorem Eg.nC(h:Eg w wr v0 v1 v2 d):Eg w (wr.setCell (Y9 w 0) u) u v1 v2 d:=
 ⟨(A0 _ _ _ _ (by show w.heap.size≠w.heap.size+1;omega)).trans h.b0,(Is _ _ _ _ _ _ h.b1).trans od,h.CN.setCell (by show w.heap.size<=w.heap.size+1;omega) _⟩
theorem Eg.iD(h:Eg w wr v0 v1 v2 d):Eg w (wr.setCell (Y9 w 1) u) v0 u v2 d:=
 ⟨(A0 _ _ _ _ (by show w.heap.size≠w.heap.size+1;omega)).trans h.b0,(Is _ _ _ _ _ _ h.b1).trans od,h.CN.setCell (by show w.heap.size<=w.heap.size+1;omega) _⟩
theorem Eg.iE(h:Eg w wr v0 v1 v2 d):Eg w (wr.setCell (Y9 w 2) u) v0 v1 u d:=
 ⟨(A0 _ _ _ _ (by show w.heap.size≠w.heap.size+1;omega)).trans h.b0,(Is _ _ _ _ _ _ h.b1).trans od,h.CN.setCell (by show w.heap.size<=w.heap.size+1;omega) _⟩
def JH(f:Nat->Int)(k j:Nat):Int:=if j<k then f j else 0
theorem Lk(f:Nat->Int)(k:Nat):AP (JH f k) k (f k)=JH f (k+1):=by
 funext j
 unfold JH;by_cases e:j=k
 ·subst e;rw[Ao,DD oa]
 ·rw[Af _ _ e];by_cases h:j<k
  ·rw[DD h,DD oa]
  ·rw[C3 h,C3 oa]
theorem P0(f:Nat->Int)(k:Nat)(h:f k=0):JH f k=JH f (k+1):=by
 rw[<-Lk,h]
 funext j
 by_cases e:j=k
 ·subst e;rw[Ao];exact C3 oa
 ·rw[Af _ _ e]
theorem BG.congr{f g:Nat->Int}(h:BG w B v n f)(e:∀i,i<n->g i=f i):BG w B v n g:=by
 have hl:iL g n=iL f n:=by
  apply AaQ;intro q;by_cases hq:q<n
  ·rw[F7 hq,F7 hq,e q hq]
  ·rw[NB (by rw[BL];omega),NB (by rw[BL];omega)]
 show w.ownsRow _ _ _ _ _ (iL g n);rw[hl];exact h
def MC(e:Nat)(p:Pr)(W:Y):Prop:=W.cell? (G e 0)=some (J p.key.kind)/\W.cell? (G e 1)=some (J p.key.num)/\W.cell? (G e 2)=some (F9 p.key.Ag)/\W.cell? (G e 3)=some (.string p.key.str)/\W.cell? (G e 4)=some (J p.key.ref)/\W.cell? (G e 5)=some (J p.val.kind)/\W.cell? (G e 6)=some (J p.val.num)/\W.cell? (G e 7)=some (F9 p.val.Ag)/\W.cell? (G e 8)=some (.string p.val.str)/\W.cell? (G e 9)=some (J p.val.ref)/\W.cell? (G e 10)=some (J p.turn)
theorem Bl.held{p:Pr}(h:Bl w b p i):MC b p w:=⟨h.k0,h.k1,h.k2,h.k3,h.k4,h.v0,h.v1,h.v2,h.v3,h.v4,h.tn⟩
def dQ(bk:Nat)(a b c:Int)(W:Y):Prop:=W.cell? (G bk 4)=some (J a)/\W.cell? (G bk 5)=some (J b)/\W.cell? (G bk 6)=some (J c)
def XO(c g m e:Nat)(x:Int)(W:Y):Prop:=W.cell? (G c 1)=some (S9 g m m)/\W.cell? (G e 11)=some (J x)
def XS(c g m s e:Nat)(x:Int)(W:Y):Prop:=W.cell? (G c 2)=some (S9 g m m)/\W.cell? (G s 5)=some (Q9 e)/\W.cell? (G e 11)=some (J x)
theorem Rx(bk:Nat)(r0 r1:V9)(R2:Nat)(E S:Nat->Nat)(d:Dc)(w:Y)(hM:AD w bk r0 r1 R2 E S d)(hS:Small d)(hI:∀j,j<d.m->0<=d.I j/\d.I j<=d.n)(hX:∀j,j<d.x->d.X j=0\/d.X j=-1\/(0<d.X j/\d.X j<=d.n)):
  C9 262 #[.pointer (some (G bk 0))] w fun e w'=>(∃v0 v1 v2,e=.returned (dO v0 v1 v2 d)/\DV d w' v0 v1 v2 w.heap.size w'.heap.size)/\B9 w w':=by
 obtain⟨i0,cd,cg,ch,cj⟩:=P9 FB;have hn:=hS.n;have hm:=hS.m;have hx:=hS.x;obtain⟨a0,l0,e0⟩:=hM.log.slice;obtain⟨Q1,l1,e1⟩:=hM.rf;subst e0 e1;have s:=hM.lt;have c0:=hM.c0;have c4:=hM.c4;have c5:=hM.c5;have c6:=hM.c6;have c8:=GM d.m hm;have c9:=GM d.x hx;have HM:=O hM;have HI:=O hI;have HX:=O hX;clear hM hS hI hX
 go_enter func262,ntmps262
 go_wp2_with fail
 refine Hl (dQ bk d.used d.live d.turns) ?_;have F:∀o,B9 w (w.alloc o):=fun o=>n9;have Z:∀o,B9 w (w.alloc o).drew:=fun o=>(F o).drew;have t:∀o,dQ bk d.used d.live d.turns (w.alloc o).drew:=fun o=>⟨((Z o).cell (p:=(G bk 4)) s).trans c4,((Z o).cell (p:=(G bk 5)) s).trans c5,((Z o).cell (p:=(G bk 6)) s).trans c6⟩;have bh:=t (.cells #[N9,N9,N9,J 0,J 0,J 0] 92);refine tz 0 (h:=tz 1 (h:=tz 2 (h:=tz 3 (h:=tz 4 (h:=tz 5 (h:=tz 6 (h:=tz 7 (h:=tz 8 (h:=tz 9 (h:=tz 10 (h:=tz 11 (h:=?_))))))))))));refine tz 12 (h:=tz 13 (h:=?_));refine ry 14 (fun K hK=>?_);go_simp;refine hK.out _ _ ⟨(((F _).alloc od _).drew.cell (p:=(G bk 4)) s).trans c4,(((F _).alloc od _).drew.cell (p:=(G bk 5)) s).trans c5,(((F _).alloc od _).drew.cell (p:=(G bk 6)) s).trans c6⟩ (fun B=>?_);clear hK K;refine ry 15 (fun K hK=>?_);go_simp;refine hK.out _ _ ⟨(((F _).alloc od _).drew.cell (p:=(G bk 4)) s).trans c4,(((F _).alloc od _).drew.cell (p:=(G bk 5)) s).trans c5,(((F _).alloc od _).drew.cell (p:=(G bk 6)) s).trans c6⟩ (fun _=>?_);clear hK K B t bh;refine Fj ?_;obtain⟨W1,bb⟩:∃W1,W1=((w.alloc (.cells #[N9,N9,N9,J 0,J 0,J 0] 92)).alloc (.cells #[N9,N9,N9,J d.used,J d.live,J d.turns] 92)).drew:=⟨_,rfl⟩;rw[<-bb];have ay:Eg w W1 (N9) (N9) (N9) d:=by
  rw[bb];refine⟨(DO _ _ _ od).trans (BE _ _),?_,((F _).alloc od _).drew⟩;have h1:=BE (w.alloc (.cells #[N9,N9,N9,J 0,J 0,J 0] 92)) (.cells #[N9,N9,N9,J d.used,J d.live,J d.turns] 92);rw[World.size_alloc]at h1;exact h1
 have ck:=ol ay.CN s c0;have cl:=At s ay.CN.size;have br:=O ay;clear ay bb F Z c0 c4 c5 c6;go_wp2_with fail;clear ck;go_loopw [29] (fun i wr=>∃(k:Nat) (v0:V9),k<=d.n/\i=J (k:Int)/\Ck wr (w.heap.size+2) v0 k d.L/\Eg w wr v0 (N9) (N9) d) (fun i _=>d.n-(intOf i).toNat)
 case atStart=>exact⟨0,N9,oa,rfl,IF _ _ _ _,br⟩
 case round=>
  clear br;obtain⟨k,v0,hk,rfl,C,f⟩:=hrel;have c:=HM.below f.CN;have az:=f.size;by_cases l:k<d.n
  ·obtain⟨g0,da,e0,_,dc,_,bt,_⟩:=c.log.form oa;cases e0;have rk:=bt k l;have he:=c.Cr k l;have a:=he.lt;have bu:=(HM.Cr k l).lt;obtain⟨x0,_,_,_,_,_,r⟩:=f.cells;have fx:=r 0;have t:MC (E k) (d.L k) wr.drew:=he.drew.held;have aj:Hid (Ck wr.drew (w.heap.size+2) v0 k d.L):=O C.drew;have bj:Hid (∀(o:Obj) (g3 H:Nat) (w3:Y),w3.ownsRow (w.heap.size+2) 96 11 (.slice (some (G g3 0)) (k+1) H) (k+1) (pL d.L k++Db (d.L k))->(wr.drew.alloc o).grownBy w3 v0.ownBlock->MC (E k) (d.L k) w3/\w3.cell? (Y9 w 0)=some v0/\w3.frozen? (Y9 w 0)=false/\w.heap.size+1<w3.heap.size/\MC (E k) (d.L k) (w3.setCell (Y9 w 0) (.slice (some (G g3 0)) (k+1) H))/\
     (Ck (w3.setCell (Y9 w 0) (.slice (some (G g3 0)) (k+1) H)) (w.heap.size+2) (.slice (some (G g3 0)) (k+1) H) (k+1) d.L/\Eg w (w3.setCell (Y9 w 0) (.slice (some (G g3 0)) (k+1) H)) (.slice (some (G g3 0)) (k+1) H) (N9) (N9) d)):=O (fun o g3 H w3 h1 h2=>by
    have hB:∀b,b<w.heap.size+2->w3.heap[b]?=wr.heap[b]?:=fun b hb=>(h2.block b oe (fun e=>oj (C.lt b e.symm).1)).trans (DO _ _ _ (by show b<wr.heap.size;omega));have cm:wr.heap.size<=w3.heap.size:=by have:=h2.size;simp at this;omega
    have P:Eg w w3 v0 (N9) (N9) d:=f.keep (hB _ oa) (hB _ oa) (((f.CN.drew).alloc (by show w.heap.size<=wr.heap.size;omega) o).grown h2 oe (fun q e=>oj (C.lt q e).1));have bw:=he.keep cm (hB _ oa);obtain⟨y0,_,_,_,_,_,yf⟩:=P.cells;have dd:=(World.ownsRow.lt h1 g3 rfl).1;refine⟨bw.held,y0,yf 0,oa,(bw.keep od (A0 _ _ _ _ (by show E k≠w.heap.size+1;omega))).held,Cu h1 (fun q e=>A0 _ _ _ _ (by
     have e':g3=q:=by simpa[Value.ownBlock]using e
     show q≠w.heap.size+1;omega)),P.nC⟩)
   clear C c bt he f r;go_wp2_with fail;refine Hl (MC (E k) (d.L k)) ?_;refine tz 0 (h:=tz 2 (h:=tz 3 (h:=tz 4 (h:=tz 5 (h:=?_)))));refine AaE (rs:=[1,6]) og od ?_;refine SO rfl (fun K hK=>?_) (SO rfl (fun K hK=>?_) AaH)
   focus
    go_simp;refine hK.out _ _ t (fun _=>?_);clear hK K;refine ry 6 (fun K hK=>?_);go_simp;refine hK.out _ _ (by obtain⟨s0,s1,s2,s3,s4,s5,s6,s7,s8,s9,bc⟩:=t;exact(fun(hb:B9 wr _)=>(⟨(hb.cell (p:=(G (E k) 0)) a).trans s0,(hb.cell (p:=(G (E k) 1)) a).trans s1,(hb.cell (p:=(G (E k) 2)) a).trans s2,(hb.cell (p:=(G (E k) 3)) a).trans s3,(hb.cell (p:=(G (E k) 4)) a).trans s4,(hb.cell (p:=(G (E k) 5)) a).trans s5,(hb.cell (p:=(G (E k) 6)) a).trans s6,(hb.cell (p:=(G (E k) 7)) a).trans s7,(hb.cell (p:=(G (E k) 8)) a).trans s8,(hb.cell (p:=(G (E k) 9)) a).trans s9,(hb.cell (p:=(G (E k) 10)) a).trans bc⟩:MC (E k) (d.L k) _)) ((Cs wr.heap.size wr).drew.alloc (Be _) _)) (fun B=>?_)
   rotate_left
   focus
    go_simp;refine hK.out _ _ (by obtain⟨s0,s1,s2,s3,s4,s5,s6,s7,s8,s9,bc⟩:=t;exact(fun(hb:B9 wr _)=>(⟨(hb.cell (p:=(G (E k) 0)) a).trans s0,(hb.cell (p:=(G (E k) 1)) a).trans s1,(hb.cell (p:=(G (E k) 2)) a).trans s2,(hb.cell (p:=(G (E k) 3)) a).trans s3,(hb.cell (p:=(G (E k) 4)) a).trans s4,(hb.cell (p:=(G (E k) 5)) a).trans s5,(hb.cell (p:=(G (E k) 6)) a).trans s6,(hb.cell (p:=(G (E k) 7)) a).trans s7,(hb.cell (p:=(G (E k) 8)) a).trans s8,(hb.cell (p:=(G (E k) 9)) a).trans s9,(hb.cell (p:=(G (E k) 10)) a).trans bc⟩:MC (E k) (d.L k) _)) ((Cs wr.heap.size wr).drew.alloc (Be _) _)) (fun B=>?_);clear hK K;refine ry 1 (fun K hK=>?_);go_simp;refine hK.out _ _ B (fun _=>?_)
   rotate_left;all_goals
    clear hK K;refine ry 7 (fun K hK=>?_);refine Aaa _ rfl (.tmp 34) (.tmp 39) 85 rfl (w.heap.size+2) 96 i0 PZ 11 104 underlying85 cd cg ch cj rfl oc v0 k (pL d.L k) (by simp[Act.eval]) (On aj _) (y wr 0) 1 1 (Db (d.L k)) (by simp[Act.eval]) rfl (H8 (BE _ _)) (Fh _) oc (by unfold maxLen;omega) oa oe _ rfl ?_;intro g3 H w3 ad av ax cD;obtain⟨bx,x3,f3,l3,bz,b1⟩:=z bj _ g3 H w3 ad av;clear ad av ax;refine hK.out _ _ bx (fun bm=>?_);clear hK K;refine tz 8 (h:=?_);refine ry 9 (fun K hK=>?_);go_simp;refine hK.out _ _ bz (fun _=>?_);clear hK K t bx bm bz;refine Fj ?_;have A:=O b1;clear b1 x3 f3;go_wp2;go_roundw
    case rel=>exact⟨k+1,_,oa,oh,A.1,A.2⟩
    case measure=>simp[intOf];omega
  ·have ak:k=d.n:=oa;subst ak;have cn:=O c;have aj:=O C;have c1:=c.c1;have lb:=c.lt;obtain⟨x0,x1,x2,x3,x4,x5,r⟩:=f.cells;have cp:=r 1;have HW:=O f;clear c C f r;go_wp2_with fail;obtain⟨g1,aM⟩:∃g1,g1=wr.heap.size:=⟨_,rfl⟩;obtain⟨W2,ao⟩:∃W2,W2=(wr.setCell (Y9 w 1) (.slice (some (G wr.heap.size 0)) d.m d.m)).alloc (.cells (madeCells #[Value.int .i64 0] d.m) 3):=⟨_,rfl⟩;rw[<-ao];have b2:BG W2 (w.heap.size+2) (.slice (some (G g1 0)) d.m d.m) d.m (JH d.I 0):=by
    have h1:=BG.made (wr.setCell (Y9 w 1) (.slice (some (G wr.heap.size 0)) d.m d.m)) (w.heap.size+2) d.m oe hm;rw[show(wr.setCell (Y9 w 1) (.slice (some (G wr.heap.size 0)) d.m d.m)).heap.size=g1 by rw[aM];simp]at h1;rw[ao];exact h1.congr (fun i _=>C3 oa)
   have ag:∀b,b<g1->b≠w.heap.size+1->W2.heap[b]?=wr.heap[b]?:=fun b hb bd=>by
    rw[ao];exact(DO _ _ _ oe).trans (A0 _ _ _ _ (by exact bd))
   have a6:∀q,v0.ownBlock=some q->w.heap.size+2<=q/\q<g1:=fun q e=>oj (aj.lt q e);have b3:Ck W2 (w.heap.size+2) v0 d.n d.L:=Cu aj (fun q e=>ag q (a6 q e).2 (oj (a6 q e).1));have b4:Eg w W2 v0 (.slice (some (G g1 0)) d.m d.m) (N9) d:=by
    have h1:=HW.iD (u:=.slice (some (G g1 0)) d.m d.m);rw[aM]at h1 ⊢;rw[ao];exact h1.keep (DO _ _ _ oe) (DO _ _ _ oe) (h1.CN.alloc oe _)
   have cN:w.heap.size+2<=g1:=oa;have a7:=O (show BG W2 (w.heap.size+2) (.slice (some (G g1 0)) d.m d.m) d.m (JH d.I 0)/\Ck W2 (w.heap.size+2) v0 d.n d.L/\Eg w W2 v0 (.slice (some (G g1 0)) d.m d.m) (N9) d from⟨b2,b3,b4⟩);rw[<-aM];have ah:=O a6;clear cn aj HW b2 ag a6 b3 b4 ao aM x0 x1 x2 x3 x4 x5 cp c1 lb az l hk cl;go_loopw [55] (fun i wr=>∃k:Nat,k<=d.m/\i=J (k:Int)/\BG wr (w.heap.size+2) (.slice (some (G g1 0)) d.m d.m) d.m (JH d.I k)/\Ck wr (w.heap.size+2) v0 d.n d.L/\Eg w wr v0 (.slice (some (G g1 0)) d.m d.m) (N9) d) (fun i _=>d.m-(intOf i).toNat)
   case atStart=>exact⟨0,oa,rfl,a7.1,a7.2.1,a7.2.2⟩
   case round=>
    clear a7;obtain⟨k,hk,rfl,U,V,f⟩:=hrel;have c:=HM.below f.CN;have az:=f.size;by_cases l:k<d.m
    ·obtain⟨_,_,e1,_,_,_,Q,_⟩:=c.ints.form oa;cases e1;have rk:wr.cell? (G Q1 k)=some (.pointer (B8 E (d.I k))):=Q k l;obtain⟨_,_,e2,cq,cr,_,R,T⟩:=U.form oa;cases e2;have gk:=R k l;have gf:=T k;have bf:=ID _ _ rk;dsimp only at bf;obtain⟨b5,b6⟩:=z HI k l;obtain⟨x0,x1,_,_,_,_,r⟩:=f.cells;by_cases h0:d.I k=0
     focus
      rw[h0,show B8 E 0=none from C3 oc]at rk;have A:Hid (BG wr (w.heap.size+2) (.slice (some (G g1 0)) d.m d.m) d.m (JH d.I (k+1))/\Ck wr (w.heap.size+2) v0 d.n d.L/\Eg w wr v0 (.slice (some (G g1 0)) d.m d.m) (N9) d):=O ⟨by rw[<-P0 d.I k h0];exact U,V,f⟩;clear U V f c Q R T r h0 b5 b6
     rotate_left
     focus
      obtain⟨q,hq⟩:∃q:Nat,d.I k=(q:Int)+1:=⟨(d.I k-1).toNat,oa⟩;have aq:q<d.n:=oa;rw[hq,show B8 E ((q:Int)+1)=some (G (E q) 0) by unfold B8;rw[DD oa,show((q:Int)+1-1).toNat=q by omega]]at rk;have he:=c.Cr q aq;have a:=he.lt;have bu:=(HM.Cr q aq).lt;have ct:IntKind.i64.wrap ((q:Int)+1)=(q:Int)+1:=by rw[Hi];omega
      have t:XO (w.heap.size+1) g1 d.m (E q) q wr.drew:=⟨x1,he.pl⟩;have B:XO (w.heap.size+1) g1 d.m (E q) q (wr.setCell (G g1 k) (J ((q:Int)+1))).drew:=⟨(Aq oa).trans x1,(Aq oa).trans he.pl⟩;have A:Hid (BG (wr.setCell (G g1 k) (J ((q:Int)+1))).drew (w.heap.size+2) (.slice (some (G g1 0)) d.m d.m) d.m (JH d.I (k+1))/\Ck (wr.setCell (G g1 k) (J ((q:Int)+1))).drew (w.heap.size+2) v0 d.n d.L/\Eg w (wr.setCell (G g1 k) (J ((q:Int)+1))).drew v0 (.slice (some (G g1 0)) d.m d.m) (N9) d):=O (by
       refine⟨?_,Cu V (fun b e=>A0 _ _ _ _ (by have:=z ah b e;show b≠g1;omega)),f.keep (A0 _ _ _ _ (by show w.heap.size≠g1;omega)) (A0 _ _ _ _ (by show w.heap.size+1≠g1;omega)) (f.CN.setCell (by show w.heap.size<=g1;omega) _).drew⟩;have h1:=(U.set l ((q:Int)+1)).drew;rw[<-hq,Lk]at h1;rw[<-hq];exact h1)
      clear U V f c Q R T r h0 b5 b6 he hq;go_wp2_with fail;refine Hl (XO (w.heap.size+1) g1 d.m (E q) q) ?_;refine tz 0 (h:=tz 1 (h:=tz 2 (h:=tz 3 (h:=tz 4 (h:=tz 5 (h:=tz 6 (h:=tz 7 (h:=tz 8 (h:=?_)))))))));refine ry 9 (fun K hK=>?_);go_simp;refine hK.out _ _ B (fun _=>?_);clear hK K t B;refine Fj ?_
     rotate_left;all_goals
      go_wp2;go_roundw
      case rel=>exact⟨k+1,oa,oh,A.1,A.2.1,A.2.2⟩
      case measure=>simp[intOf];omega
    ·have ak:k=d.m:=oa;subst ak;have bg:BG wr (w.heap.size+2) (.slice (some (G g1 0)) d.m d.m) d.m d.I:=U.congr (fun i hi=>(DD hi).symm);have c3:=c.c3;have lb:=c.lt;obtain⟨x0,x1,x2,x3,x4,x5,r⟩:=f.cells;have cu:=r 2;have bn:=(bg.lt g1 rfl).2;have HP:=O bg;have HO:=O V;have HW:=O f;clear c U bg V f r;go_wp2_with fail;obtain⟨g2,a8⟩:∃g2,g2=wr.heap.size:=⟨_,rfl⟩;obtain⟨W3,P⟩:∃W3,W3=(wr.setCell (Y9 w 2) (.slice (some (G wr.heap.size 0)) d.x d.x)).alloc (.cells (madeCells #[Value.int .i64 0] d.x) 3):=⟨_,rfl⟩;rw[<-P];have b7:BG W3 (w.heap.size+2) (.slice (some (G g2 0)) d.x d.x) d.x (JH d.X 0):=by
      have h1:=BG.made (wr.setCell (Y9 w 2) (.slice (some (G wr.heap.size 0)) d.x d.x)) (w.heap.size+2) d.x oe hx;rw[show(wr.setCell (Y9 w 2) (.slice (some (G wr.heap.size 0)) d.x d.x)).heap.size=g2 by rw[a8];simp]at h1;rw[P];exact h1.congr (fun i _=>C3 oa)
     have ag:∀b,b<g2->b≠w.heap.size+1->W3.heap[b]?=wr.heap[b]?:=fun b hb bd=>by
      rw[P];exact(DO _ _ _ oe).trans (A0 _ _ _ _ (by exact bd))
     have b8:Ck W3 (w.heap.size+2) v0 d.n d.L:=Cu HO (fun q e=>ag q (oj (z ah q e)) (oj (z ah q e)));have b9:BG W3 (w.heap.size+2) (.slice (some (G g1 0)) d.m d.m) d.m d.I:=Cu HP (fun q e=>by
      have e':g1=q:=by simpa[Value.ownBlock]using e
      exact ag q oa oa)
     have ca:Eg w W3 v0 (.slice (some (G g1 0)) d.m d.m) (.slice (some (G g2 0)) d.x d.x) d:=by
      have h1:=HW.iE (u:=.slice (some (G g2 0)) d.x d.x);rw[a8]at h1 ⊢;rw[P];exact h1.keep (DO _ _ _ oe) (DO _ _ _ oe) (h1.CN.alloc oe _)
     have c7:g1<g2:=oa;have ar:=O (show BG W3 (w.heap.size+2) (.slice (some (G g2 0)) d.x d.x) d.x (JH d.X 0)/\BG W3 (w.heap.size+2) (.slice (some (G g1 0)) d.m d.m) d.m d.I/\Ck W3 (w.heap.size+2) v0 d.n d.L/\Eg w W3 v0 (.slice (some (G g1 0)) d.m d.m) (.slice (some (G g2 0)) d.x d.x) d from⟨b7,b9,b8,ca⟩);rw[<-a8];clear HP HO HW b7 b9 b8 ca ag P a8 x0 x1 x2 x3 x4 x5 cu c3 lb az l hk bn;go_loopw [86] (fun i wr=>∃k:Nat,k<=d.x/\i=J (k:Int)/\BG wr (w.heap.size+2) (.slice (some (G g2 0)) d.x d.x) d.x (JH d.X k)/\BG wr (w.heap.size+2) (.slice (some (G g1 0)) d.m d.m) d.m d.I/\Ck wr (w.heap.size+2) v0 d.n d.L/\Eg w wr v0 (.slice (some (G g1 0)) d.m d.m) (.slice (some (G g2 0)) d.x d.x) d) (fun i _=>d.x-(intOf i).toNat)
     case atStart=>exact⟨0,oa,rfl,ar.1,ar.2.1,ar.2.2.1,ar.2.2.2⟩
     case round=>
      clear ar;obtain⟨k,hk,rfl,M,U,V,f⟩:=hrel;have c:=HM.below f.CN;have az:=f.size;obtain⟨x0,x1,x2,x3,x4,x5,r⟩:=f.cells;by_cases l:k<d.x
      ·obtain⟨_,_,e1,_,_,_,Q,_⟩:=c.slots.form oa;cases e1;have rk:wr.cell? (G R2 k)=some (.pointer (Dj S k (d.X k))):=Q k l;obtain⟨_,_,e2,cq,cr,_,R,T⟩:=M.form oa;cases e2;have gk:=R k l;have gf:=T k;have bf:=ID _ _ rk;dsimp only at bf;have au:=c.sl k l;have D:∀x:Int,d.X k=x->BG (wr.setCell (G g2 k) (J x)) (w.heap.size+2) (.slice (some (G g2 0)) d.x d.x) d.x (JH d.X (k+1))/\BG (wr.setCell (G g2 k) (J x)) (w.heap.size+2) (.slice (some (G g1 0)) d.m d.m) d.m d.I/\Ck (wr.setCell (G g2 k) (J x)) (w.heap.size+2) v0 d.n d.L/\Eg w (wr.setCell (G g2 k) (J x)) v0 (.slice (some (G g1 0)) d.m d.m) (.slice (some (G g2 0)) d.x d.x) d:=fun x cb=>by
        refine⟨?_,Cu U (fun b e=>A0 _ _ _ _ (by
         have e':g1=b:=by simpa[Value.ownBlock]using e
         show b≠g2;omega)),Cu V (fun b e=>A0 _ _ _ _ (by have:=z ah b e;show b≠g2;omega)),f.keep (A0 _ _ _ _ (by show w.heap.size≠g2;omega)) (A0 _ _ _ _ (by show w.heap.size+1≠g2;omega)) (f.CN.setCell (by show w.heap.size<=g2;omega) _)⟩
        have h1:=M.set l x;rw[<-cb,Lk]at h1;rw[<-cb];exact h1
       have W:=O D;rcases z HX k l with h0|h0|⟨h0,cv⟩
       ·rw[h0,show Dj S k 0=none from DD rfl]at rk;have A:Hid (BG wr (w.heap.size+2) (.slice (some (G g2 0)) d.x d.x) d.x (JH d.X (k+1))/\BG wr (w.heap.size+2) (.slice (some (G g1 0)) d.m d.m) d.m d.I/\Ck wr (w.heap.size+2) v0 d.n d.L/\Eg w wr v0 (.slice (some (G g1 0)) d.m d.m) (.slice (some (G g2 0)) d.x d.x) d):=O ⟨by rw[<-P0 d.X k h0];exact M,U,V,f⟩;clear M U V f c Q R T r h0 au D W;go_wp2;go_roundw
        case rel=>exact⟨k+1,oa,oh,A.1,A.2.1,A.2.2.1,A.2.2.2⟩
        case measure=>simp[intOf];omega
       ·rw[h0,show Dj S k (-1)=some (G (S k) 0)from C3 oc]at rk;have ae:=au.2 oa;have gg:=ae.gn;have cw:=ae.lt;have A:=O (D (-1) h0);clear M U V f c Q R T r h0 au D W ae;go_wp2;go_roundw
        case rel=>exact⟨k+1,oa,oh,A.1,A.2.1,A.2.2.1,A.2.2.2⟩
        case measure=>simp[intOf];omega
       ·obtain⟨q,hq⟩:∃q:Nat,d.X k=(q:Int)+1:=⟨(d.X k-1).toNat,oa⟩;have aq:q<d.n:=oa;rw[show Dj S k (d.X k)=some (G (S k) 0)from C3 oa]at rk;have ai:Gj wr (S k) (d.at (d.X k)).key (E (d.X k-1).toNat):=au.1 h0;rw[show(d.X k-1).toNat=q by omega]at ai;have gg:=ai.gn;have gp:=ai.pt;have cw:=ai.lt;have he:=c.Cr q aq;have a:=he.lt;have bu:=(HM.Cr q aq).lt;have cx:S k≠g2:=fun e=>by
         obtain⟨cc,cy⟩:∃cc,wr.heap[g2]?=some (.cells cc 3 (0,0)):=by
          obtain⟨_,⟨hv,_⟩|⟨g,cap,cur,hv,_,bp,_⟩⟩:=M
          ·cases hv
          ·cases hv;exact⟨cur,bp⟩
         exact A8 (e▸ai.ob) cy oc
        have ct:IntKind.i64.wrap ((q:Int)+1)=(q:Int)+1:=by rw[Hi];omega
        have t:XS (w.heap.size+1) g2 d.x (S k) (E q) q wr.drew:=⟨x2,gp,he.pl⟩;have B:XS (w.heap.size+1) g2 d.x (S k) (E q) q (wr.setCell (G g2 k) (J ((q:Int)+1))).drew:=⟨(Aq oa).trans x2,(Aq (fun e=>cx e.symm)).trans gp,(Aq oa).trans he.pl⟩;have A:=O (D ((q:Int)+1) hq);clear M U V f c Q R T r h0 cv au D W he ai hq;go_wp2_with fail;refine Hl (XS (w.heap.size+1) g2 d.x (S k) (E q) q) ?_;refine tz 0 (h:=tz 1 (h:=tz 2 (h:=tz 3 (h:=tz 4 (h:=tz 5 (h:=tz 6 (h:=tz 7 (h:=tz 8 (h:=tz 9 (h:=tz 10 (h:=tz 11 (h:=?_))))))))))));refine ry 12 (fun K hK=>?_);go_simp;refine hK.out _ _ B (fun _=>?_);clear hK K t B;refine Fj ?_;go_wp2;go_roundw
        case rel=>exact⟨k+1,oa,oh,A.1.drew,A.2.1.drew,A.2.2.1.drew,A.2.2.2.keep rfl rfl A.2.2.2.CN.drew⟩
        case measure=>simp[intOf];omega
      ·have ak:k=d.x:=oa;subst ak;have y0:wr.cell? (y w 0)=some (N9):=by simp[World.cell?,f.b0]
       have y1:wr.cell? (y w 1)=some (N9):=by simp[World.cell?,f.b0]
       have y2:wr.cell? (y w 2)=some (N9):=by simp[World.cell?,f.b0]
       have y3:wr.cell? (y w 3)=some (J 0):=by simp[World.cell?,f.b0]
       have y4:wr.cell? (y w 4)=some (J 0):=by simp[World.cell?,f.b0]
       have y5:wr.cell? (y w 5)=some (J 0):=by simp[World.cell?,f.b0]
       have yf:∀q,wr.frozen? (y w q)=false:=fun q=>by simp[World.frozen?,f.b0]
       have df:w.heap.size<wr.heap.size:=oa;have af:BG wr (w.heap.size+2) (.slice (some (G g2 0)) d.x d.x) d.x d.X:=M.congr (fun i hi=>(DD hi).symm);obtain⟨va,vc,ev⟩:∃va vc,v0=.slice va d.n vc:=by
        obtain⟨_,⟨hv,h0⟩|⟨g,cap,cur,hv,_⟩⟩:=V
        ·exact⟨none,0,by rw[hv,h0]⟩
        ·exact⟨_,_,hv⟩
       subst ev;have bq:Hid (∀W':World,Below (w.heap.size) w W'->wr.heap.size<=W'.heap.size->(∀b,w.heap.size+2<=b->W'.heap[b]?=wr.heap[b]?)->DV d W' (.slice va d.n vc) (.slice (some (G g1 0)) d.m d.m) (.slice (some (G g2 0)) d.x d.x) w.heap.size W'.heap.size):=O (fun W' hB hz hb=>by
        have o0:Ck W' w.heap.size (.slice va d.n vc) d.n d.L:=EW (Cu V (fun q e=>hb q (V.lt q e).1)) oa;have o1:BG W' w.heap.size (.slice (some (G g1 0)) d.m d.m) d.m d.I:=EW (Cu U (fun q e=>hb q (U.lt q e).1)) oa;have o2:BG W' w.heap.size (.slice (some (G g2 0)) d.x d.x) d.x d.X:=EW (Cu af (fun q e=>hb q (af.lt q e).1)) oa;refine⟨Kz.of o0,Hb.of o1,Hb.of o2,fun q e e'=>?_,fun q e e'=>?_,fun q e e'=>?_⟩
        ·have:=(ah q e).2;have e2:g1=q:=by simpa[Value.ownBlock]using e'
         omega
        ·have:=(ah q e).2;have e2:g2=q:=by simpa[Value.ownBlock]using e'
         omega
        ·have e1:g1=q:=by simpa[Value.ownBlock]using e
         have e2:g2=q:=by simpa[Value.ownBlock]using e'
         omega)
       have cz:=O f.CN;clear M af U V f c r;go_wp2;refine E1 (v:=dO (.slice va d.n vc) (.slice (some (G g1 0)) d.m d.m) (.slice (some (G g2 0)) d.x d.x) d) (by simp[results,results262,go_sem,y0,y1,y2,y3,y4,y5]) rfl ?_;have aw:B9 w ((((((wr.setCell (y w 0) (.slice va d.n vc)).setCell (y w 1) (.slice (some (G g1 0)) d.m d.m)).setCell (y w 2) (.slice (some (G g2 0)) d.x d.x)).setCell (y w 3) (J d.used)).setCell (y w 4) (J d.live)).setCell (y w 5) (J d.turns)):=by
        iterate 6 (refine PC ?_ (by exact Be _) _)
        exact cz
       refine⟨⟨_,_,_,rfl,bq _ aw od (fun b hb=>?_)⟩,aw⟩;iterate 6 (refine(A0 _ _ _ _ (by show b≠w.heap.size;omega)).trans ?_)
       rfl
theorem gK(w:Y):G8 w none none none aB:=⟨.inl rfl,.inl rfl,.inl rfl⟩
section
variable {w W W':Y} {la ia xa:Option Addr} {lc ic xc:Nat} {d:Dc} {v:Vl}
end
theorem Kz.wide{f:Nat->Pr}{c:Nat}(h:Kz f n w v lo hi)(h1:a<=lo)(h2:hi<=c):Kz f n w v a c:=by
 rcases h with h|⟨b,d,Z,g,e1,e2,e3,e⟩
 ·exact .inl h
 ·exact .inr ⟨b,d,Z,g,e1,oa,oa,e⟩
theorem Hb.wide{f:Nat->Int}{c:Nat}(h:Hb f n w v lo hi)(h1:a<=lo)(h2:hi<=c):Hb f n w v a c:=by
 rcases h with h|⟨b,d,Z,g,e1,e2,e3,e⟩
 ·exact .inl h
 ·exact .inr ⟨b,d,Z,g,e1,oa,oa,e⟩
theorem DV.wide(h:DV d w v0 v1 v2 lo hi)(h1:a<=lo)(h2:hi<=b):DV d w v0 v1 v2 a b:=⟨h.log.wide h1 h2,h.ints.wide h1 h2,h.index.wide h1 h2,h.lB,h.lC,h.a12⟩
end Go.Proofs.YtgmlkfgfjjggnaaGreatDoor
