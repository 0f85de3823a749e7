import Derived.Test.YtoobllcjfinmoaaGreatDoorSDAF
set_option linter.all false
set_option maxHeartbeats 40000000
set_option maxRecDepth 100000
namespace Go.Proofs.YtoobllcjfinmoaaGreatDoor
open Go.Proofs.Tryz
open Go.RowKit
attribute [local go_sem] Ar Am
variable {lo hi n B a i j g c o b:Nat}{w w' W w3:Y}{v k:Vl}{f T:Nat->Tb}{H:Nat->Hs}{vF vT vS v1 v2 v0 u0 u1 u2:V9}{s:AK}{d:Dc}{hf:Vl->Nat}{K:Vl->Prop}
def Xl(lo hi:Nat)(w:Y)(v:V9)(n:Nat)(f:Nat->Tb)(H:Nat->Hs):Prop:=
 (n=0/\v=N9)\/∃b a Z g,v=S9 b n a/\lo<=b/\b<hi/\w.rowIs b 105 Z g/\n*8<=Z/\(∀i,i<n->aD lo hi w b (i*8) (H i) (f i))/\lI b n H
def Xl.keep{v}(h:Xl lo hi w v n f H)(hk:∀b,v.ownBlock=some b->w'.heap[b]?=w.heap[b]?)(a:∀i q,i<n->(H i).own q->w'.heap[q]?=w.heap[q]?):Xl lo hi w' v n f H:=by
 rcases h with h|⟨b,c,Z,g,rfl,h2,h3,h4,h5,d,e⟩
 .exact .inl h
 exact .inr ⟨b,c,Z,g,rfl,h2,h3,GW h4<|hk b rfl,h5,λi hi=>(d i hi).keep (λq hq=>a i q hi hq) λj _=>As<|hk b rfl,e⟩
theorem Xl.at{v}(h:Xl lo hi w v n f H):∃a c,v=.slice a n c/\RH w a n f:=by
 rcases h with⟨d,rfl⟩|⟨b,c,Z,g,rfl,h2,h3,h4,h5,e,j⟩
 .subst d;exact⟨_,_,rfl,.inl rfl⟩
 exact⟨_,_,rfl,.inr ⟨b,0,rfl,H8 h4,λi hi=>by rw[We];exact(e i hi).at⟩⟩
theorem GV.at{f}{v}(h:GV f n w v lo hi):∃a c,v=.slice a n c/\IM w a n f:=by
 rcases h with⟨d,rfl⟩|⟨d,b,c,rfl,h2,h3,h4⟩
 .subst d;exact⟨_,_,rfl,.inl rfl⟩
 exact⟨_,_,rfl,h4.at⟩
theorem GV.own{f}{v}(h:GV f n w v lo hi){q}(e:v.ownBlock=some q):lo<=q/\q<hi/\q<w.heap.size:=by
 rcases h with⟨a,rfl⟩|⟨a,b,c,rfl,h2,h3,h4⟩
 .cases e
 cases e;exact⟨h2,h3,h4.lt⟩
theorem Vk.own{f}{v}(h:Vk f n w v lo hi){q}(e:v.ownBlock=some q):lo<=q/\q<hi/\q<w.heap.size:=by
 rcases h with⟨a,rfl⟩|⟨b,c,Z,g,rfl,h2,h3,h4,h5,d⟩
 .cases e
 cases e;exact⟨h2,h3,H8 h4⟩
theorem Xl.own{v}(h:Xl lo hi w v n f H){q}(e:v.ownBlock=some q):lo<=q/\q<hi/\q<w.heap.size:=by
 rcases h with⟨a,rfl⟩|⟨b,c,Z,g,rfl,h2,h3,h4,h5,d,i⟩
 .cases e
 cases e;exact⟨h2,h3,H8 h4⟩
theorem Xl.row{v}(h:Xl lo hi w v n f H){i q}(a:i<n)(e:(H i).own q):lo<=q/\q<hi/\q<w.heap.size:=by
 rcases h with⟨d,rfl⟩|⟨b,j,Z,g,rfl,h2,h3,h4,h5,c,k⟩
 .omega
 have:=(c i a).lt e;exact⟨this.2.1,this.2.2,this.1⟩
structure MR (lo hi:Nat) (w:Y) (vF vT vS:V9) (s:AK) (H:Nat->Hs):Prop where
 f:GV s.F s.nf w vF lo hi
 t:Xl lo hi w vT s.nt s.T H
 si:Vk s.S s.ns w vS lo hi
 ft:∀q,vF.ownBlock=some q->vT.ownBlock≠some q
 fs:∀q,vF.ownBlock=some q->vS.ownBlock≠some q
 fr:∀q i,vF.ownBlock=some q->i<s.nt->¬(H i).own q
 st:∀q,vS.ownBlock=some q->vT.ownBlock≠some q
 sr:∀q i,vS.ownBlock=some q->i<s.nt->¬(H i).own q
def MR.keep(h:MR lo hi w vF vT vS s H)(hk:∀q,lo<=q->q<hi->q<w.heap.size->w'.heap[q]?=w.heap[q]?):MR lo hi w' vF vT vS s H:=
 ⟨h.f.CH λq e=>hk q (h.f.own e).1 (h.f.own e).2.1 (h.f.own e).2.2,h.t.keep (λq e=>hk q (h.t.own e).1 (h.t.own e).2.1 (h.t.own e).2.2) λi q hi e=>hk q (h.t.row hi e).1 (h.t.row hi e).2.1 (h.t.row hi e).2.2,h.si.keep λq e=>hk q (h.si.own e).1 (h.si.own e).2.1 (h.si.own e).2.2,h.ft,h.fs,h.fr,h.st,h.sr⟩
def MR.below(h:MR lo hi w vF vT vS s H)(hb:Below B w w')(a:hi<=B):MR lo hi w' vF vT vS s H:=h.keep λq _ h2 _=>hb.block q om
def iD{a}(h:CA a=true):(1<=a.op/\a.op<=9)/\0<=a.t/\a.t<100/\0<=a.site/\a.site<50/\0<=a.n:=by
 unfold CA at h
 revert h
 unfold JT DY;intro h;by_cases h1:a.op=1<;>by_cases h2:a.op=2<;>by_cases h3:a.op=3<;>by_cases h4:a.op=4<;>by_cases h5:a.op=5<;>by_cases b:a.op=6<;>by_cases c:a.op=7<;>by_cases d:a.op=8<;>by_cases e:a.op=9<;>simp_all<;>omega
def vJ:Ds:=⟨0,λ_=>default,0,λ_=>⟨#[]⟩⟩
def qF(x:An):Value:=Hk x
def WM(w:Y)x:(Instr.storeAt 45 (Q9 w.heap.size)<|qF x).run prog (w.alloc<|.cells aF 45)=.ok () (w.alloc<|.cells (LL x).toArray 45):=by
 have h:=EK (P:=prog) w 45 (LL x) [] aF.toList rfl (aY x);have hs:=kV;unfold Instr.storeAt storeVar;simp only[Aad,X9]at h;have hc:(qF x).cells.toList=LL x:=rfl;have hn:(qF x).cells.size=12:=rfl;simp only[AaU];have a:∀w',(Instr.sureAddr<|Q9 w.heap.size).run prog w'=.ok (y w 0) w':=λw'=>oe;simp[a,hs,hc,hn];exact h
abbrev f1:Nat->A9:=λ_=>⟨-1,⟨#[]⟩,0⟩
abbrev ES(v:V9):Value:=.agg #[v,N9,N9]
theorem Lt.ok{M}(h:Lt M s):Bz s (Dz s)=0:=by
 refine PE h.f ⟨h.nt,h.ns⟩ (λi hi=>?_) h.si;rcases(h.t i hi).way with⟨h1,h2,h3⟩|⟨j,h1,h2,h3,h4,h5⟩
 .exact .inl ⟨h1,h2,Gv h3⟩
 obtain⟨r1,r2,r3,_,_⟩:=Av h.f;have hc:=(A7 r2 (λq h1 h2=>r3 q h1 h2) j h2).1;refine .inr ⟨om,om,?_⟩;rw[h1,On];refine⟨?_,h4,λq hq=>(h5 q hq).1⟩;rw[h3];unfold nf;omega
def Lt.vC(h:Ls s):J9 s:=by
 obtain⟨r1,r2,r3,_,_⟩:=Av h.f;refine⟨⟨oS r1.2,λi hi=>?_⟩,oS h.nt,λ{i} hi=>?_,λ{i} hi=>PO.small<|h.t i hi,oS h.ns⟩
 .by_cases a:i=0
  .subst a;have:=r2.2.1;have e:=congrArg List.length<|toList_inj (b:=⟨#[]⟩)<|this.trans ou;have e2:(s.F 0).key.size=0:=by show(s.F 0).key.data.size=0;rw[<-Array.length_toList];exact e
   omega
  have:=(r3 i om hi).2.2.2.2;omega
 rcases(h.t i hi).way with⟨_,h2,_⟩|⟨j,_,h2,h3,_⟩
 .omega
 rw[h3];have:=IB h.f h2;omega
def Ip(h:Hs)(t:Tb):List Value:=[J t.shape,h.v,h.l,h.i,h.x,J t.d.used,J t.d.live,J t.d.turns]
def Ro(H:Nat->Hs)(T:Nat->Tb)(n:Nat):List Value:=Je (λi=>Ip (H i)<|T i) n
def WU H T n:(Ro H T n).length=n*8:=Cm (m:=8) (f:=λi=>Ip (H i)<|T i) (λ_=>rfl) n
def Lk(hi:i<n)(hj:j<8):(Ro H T n)[i*8+j]?=(Ip (H i)<|T i)[j]?:=Ik (m:=8) (λ_=>rfl) hi hj
def ZV{H'}{T'}(h:∀i,i<n->Ip (H i) (T i)=Ip (H' i) (T' i)):Ro H T n=Ro H' T' n:=C6 h
def U3 H T n h t:Ro H T n++Ip h t=Ro (AX H n h) (AX T n t) (n+1):=by
 grind [Ro,Ip,AX,Je,Ai,C6,Ak]
abbrev Ti(w:Y)(B:Nat)(v:V9)(n:Nat)(H:Nat->Hs)(T:Nat->Tb):Prop:=w.ownsRow B 105 8 v n<|Ro H T n
def Bn(c:Nat)(vF vT vS:V9)(H:Nat->Hs)(n k:Nat):Prop:=k=c\/vF.ownBlock=some k\/vT.ownBlock=some k\/vS.ownBlock=some k\/∃i,i<n/\(H i).own k
structure SM (w:Y) (c B:Nat) (vF vT vS:V9) (H:Nat->Hs) (s:AK):Prop where
 base:B<=c
 Bw:w.heap[c]?=some (.cells #[vF,vT,vS] 42 (0,0))
 f:EO w B vF s.nf s.F
 t:Ti w B vT s.nt H s.T
 si:Mn w B vS s.ns s.S
 v:∀i,i<s.nt->BW w B (H i).v (s.T i).nv (s.T i).V
 l:∀i,i<s.nt->BP w B (H i).l (s.T i).d.n (s.T i).d.L
 i:∀i,i<s.nt->Bo w B (H i).i (s.T i).d.m (s.T i).d.I
 x:∀i,i<s.nt->Bo w B (H i).x (s.T i).d.x (s.T i).d.X
 ap:∀i,i<s.nt->∀q,(H i).i.ownBlock=some q->(H i).x.ownBlock≠some q
 ij:∀i j q,i<s.nt->j<s.nt->(H i).own q->(H j).own q->i=j
section
variable {w w' X w3:Y} {c B:Nat} {vF vT vS:V9} {H:Nat->Hs} {s:AK}
def SM.lt(h:SM w c B vF vT vS H s):c<w.heap.size:=Ah h.Bw
theorem SM.row(h:SM w c B vF vT vS H s){i q}(hi:i<s.nt)(e:(H i).own q):B<=q/\q<w.heap.size/\∃cur ty,w.heap[q]?=some (.cells cur ty (0,0))/\(ty=43\/ty=166\/ty=3):=by
 rcases e with e|e|e|e
 .obtain⟨cur,h1,h2⟩:=AV (h.v i hi) e;grind [Ah]
 .obtain⟨cur,h1,h2⟩:=AV (h.l i hi) e;grind [Ah]
 .obtain⟨cur,h1,h2⟩:=AV (h.i i hi) e;grind [Ah]
 obtain⟨cur,h1,h2⟩:=AV (h.x i hi) e;grind [Ah]
def SM.Pm(h:SM w c B vF vT vS H s){k}(hk:Bn c vF vT vS H s.nt k):B<=k/\k<w.heap.size:=by
 rcases hk with rfl|e|e|e|⟨i,hi,e⟩
 .exact⟨h.base,h.lt⟩
 .exact h.f.lt k e
 .exact h.t.lt k e
 .exact h.si.lt k e
 exact⟨(h.row hi e).1,(h.row hi e).2.1⟩
def SM.keep(h:SM w c B vF vT vS H s)(hk:∀k,Bn c vF vT vS H s.nt k->w'.heap[k]?=w.heap[k]?):SM w' c B vF vT vS H s:=
 ⟨h.base,(hk c<|.inl rfl).trans h.Bw,Ab h.f λg e=>hk g<|.inr<|.inl e,Ab h.t λg e=>hk g<|.inr<|.inr<|.inl e,Ab h.si λg e=>hk g<|.inr<|.inr<|.inr<|.inl e,
  λi hi=>Ab (h.v i hi) λg e=>hk g<|.inr<|.inr<|.inr<|.inr ⟨i,hi,.inl e⟩,λi hi=>Ab (h.l i hi) λg e=>hk g<|.inr<|.inr<|.inr<|.inr ⟨i,hi,.inr<|.inl e⟩,
  λi hi=>Ab (h.i i hi) λg e=>hk g (.inr (.inr (.inr (.inr ⟨i,hi,.inr (.inr (.inl e))⟩)))),λi hi=>Ab (h.x i hi) λg e=>hk g (.inr (.inr (.inr (.inr ⟨i,hi,.inr (.inr (.inr e))⟩)))),h.ap,h.ij⟩
def SM.below(h:SM w c B vF vT vS H s)(hb:B9 w w'):SM w' c B vF vT vS H s:=h.keep λk hk=>hb.block k (h.Pm hk).2
def SM.apart(h:SM w c B vF vT vS H s){i q}(hi:i<s.nt)(e:(H i).own q):q≠c/\vF.ownBlock≠some q/\vT.ownBlock≠some q/\vS.ownBlock≠some q:=by
 obtain⟨_,_,cur,ty,hb,a⟩:=h.row hi e;refine⟨λe=>?_,λe=>?_,λe=>?_,λe=>?_⟩
 .subst e;rw[h.Bw]at hb;cases hb;revert a;decide
 .obtain⟨b,hc,_⟩:=AV h.f e;rw[hc]at hb;cases hb;revert a;decide
 .obtain⟨b,hc,_⟩:=AV h.t e;rw[hc]at hb;cases hb;revert a;decide
 obtain⟨b,hc,_⟩:=AV h.si e;rw[hc]at hb;cases hb;revert a;decide
def SM.Ba(h:SM w c B vF vT vS H s){e b Z n:Nat}{v:V9}{xs}(h':w.ownsRow b e Z v n xs)(a:e≠42):v.ownBlock≠some c:=by
 intro hq;obtain⟨cur,hb,_⟩:=AV h' hq;rw[h.Bw]at hb;cases hb;exact a rfl
def SM.table(h:SM w c B vF vT vS H s){i}(hi:i<s.nt){h'}{t'}
  (a:w'.os=w.os/\w'.tape=w.tape/\w'.output=w.output/\w.heap.size<=w'.heap.size)
  (hk:∀k,k<w.heap.size->vT.ownBlock≠some k->¬(H i).own k->w'.heap[k]?=w.heap[k]?)
  (A:Ti w' B vT s.nt (AX H i h')<|AX s.T i t') (C:BW w' B h'.v t'.nv t'.V) (hl:BP w' B h'.l t'.d.n t'.d.L) (r:Bo w' B h'.i t'.d.m t'.d.I) (D:Bo w' B h'.x t'.d.x t'.d.X) (E:∀q,h'.i.ownBlock=some q->h'.x.ownBlock≠some q)
  (u:∀q,h'.own q->(H i).own q\/w.heap.size<=q):
  SM w' c B vF vT vS (AX H i h') (BJ s i t')/\BF (Bn c vF vT vS H s.nt) w (Bn c vF vT vS (AX H i h') s.nt) w':=by
 have F:=hk c h.lt (h.Ba h.t oo) λe=>(h.apart hi e).1 rfl;have K:∀g,vF.ownBlock=some g->w'.heap[g]?=w.heap[g]?:=λg e=>hk g (h.f.lt g e).2 (Cd h.f h.t oo e) λe'=>(h.apart hi e').2.1 e;have ks:∀g,vS.ownBlock=some g->w'.heap[g]?=w.heap[g]?:=λg e=>hk g (h.si.lt g e).2 (Cd h.si h.t oo e) λe'=>(h.apart hi e').2.2.2 e;have p:∀j g,j<s.nt->j≠i->(H j).own g->w'.heap[g]?=w.heap[g]?:=λj g hj b e=>hk g (h.row hj e).2.1 (h.apart hj e).2.2.1 λe'=>b<|h.ij j i g hj hi e e';refine⟨⟨h.base,F.trans h.Bw,Ab h.f K,A,Ab h.si ks,λj hj=>?_,λj hj=>?_,λj hj=>?_,λj hj=>?_,λj hj=>?_,λj k q hj o e e'=>?_⟩,⟨a.1,a.2.1,a.2.2.1,a.2.2.2,λk k1 k2=>hk k k1 (λe=>k2<|.inr<|.inr<|.inl e) λe=>k2<|.inr<|.inr<|.inr<|.inr ⟨i,hi,e⟩,λk e=>?_⟩⟩
 .show BW w' B (AX H i h' j).v (AX s.T i t' j).nv (AX s.T i t' j).V;by_cases e:j=i
  .subst e;rw[Ai,Ai];exact C
  rw[Ak _ _ e,Ak _ _ e];exact Ab (h.v j hj) λg e2=>p j g hj e<|.inl e2
 .show BP w' B (AX H i h' j).l (AX s.T i t' j).d.n (AX s.T i t' j).d.L;by_cases e:j=i
  .subst e;rw[Ai,Ai];exact hl
  rw[Ak _ _ e,Ak _ _ e];exact Ab (h.l j hj) λg e2=>p j g hj e<|.inr<|.inl e2
 .show Bo w' B (AX H i h' j).i (AX s.T i t' j).d.m (AX s.T i t' j).d.I;by_cases e:j=i
  .subst e;rw[Ai,Ai];exact r
  rw[Ak _ _ e,Ak _ _ e];exact Ab (h.i j hj) λg e2=>p j g hj e<|.inr<|.inr<|.inl e2
 .show Bo w' B (AX H i h' j).x (AX s.T i t' j).d.x (AX s.T i t' j).d.X;by_cases e:j=i
  .subst e;rw[Ai,Ai];exact D
  rw[Ak _ _ e,Ak _ _ e];exact Ab (h.x j hj) λg e2=>p j g hj e<|.inr<|.inr<|.inr e2
 .show∀q,(AX H i h' j).i.ownBlock=some q->(AX H i h' j).x.ownBlock≠some q;by_cases e:j=i
  .subst e;rw[Ai];exact E
  rw[Ak _ _ e];exact h.ap j hj
 .have new:∀j q,j<s.nt->j≠i->(H j).own q->¬h'.own q:=λj q hj b e e'=>by
   rcases u q e' with e2|e2
   .exact b (h.ij j i q hj hi e e2)
   have:=(h.row hj e).2.1;omega
  by_cases e1:j=i
  .subst e1;rw[Ai]at e;by_cases e2:k=j
   .exact e2.symm
   rw[Ak _ _ e2]at e';exact absurd e<|new k q o e2 e'
  rw[Ak _ _ e1]at e;by_cases e2:k=i
  .subst e2;rw[Ai]at e';exact absurd e'<|new j q hj e1 e
  rw[Ak _ _ e2]at e';exact h.ij j k q hj o e e'
 rcases e with e|e|e|e|⟨j,hj,e⟩
 .exact .inl (.inl e)
 .exact .inl (.inr<|.inl e)
 .exact .inl (.inr<|.inr<|.inl e)
 .exact .inl (.inr<|.inr<|.inr<|.inl e)
 by_cases e1:j=i
 .subst e1;rw[Ai]at e;exact(u k e).elim (λe=>.inl<|.inr<|.inr<|.inr<|.inr ⟨j,hj,e⟩) .inr
 rw[Ak _ _ e1]at e;exact .inl<|.inr<|.inr<|.inr<|.inr ⟨j,hj,e⟩
end
def Zm{Z}{e}{xs ys}(h:w.ownsRow B e Z (S9 g n c) n xs)(hc:Yn w w' g)(hl:ys.length=n*Z)(hy:∀j,j<n*Z->w'.cell? (G g j)=ys[j]?):w'.ownsRow B e Z (S9 g n c) n ys:=by
 obtain⟨_,⟨d,i⟩|⟨g',cap,cur,d,hb,a,h1,h2,h3,h4⟩⟩:=h
 .cases d
 cases d;obtain⟨b,k1,k2⟩:=hc cur e a;refine⟨hl,.inr ⟨g,c,b,rfl,hb,k1,h1,h2,k2.trans h3,?_⟩⟩;have f:n*Z<=b.size:=by rw[k2,h3];exact Aap _ h1
 refine AaS λj=>?_;rw[List.getElem?_take];by_cases hj:j<n*Z
 .rw[C3 hj,<-hy j hj,MM w' g j _ _ _ k1];simp
 grind [Yn]
section
variable {w w':Y} {c B:Nat} {vF vT vS:V9} {H:Nat->Hs} {s:AK}
def SM.cells(h:SM w c B vF vT vS H s):w.cell? (G c 0)=some vF/\w.cell? (G c 1)=some vT/\w.cell? (G c 2)=some vS/\∀q,w.frozen? (G c q)=false:=
 ⟨by simp[World.cell?,h.Bw],by simp[World.cell?,h.Bw],by simp[World.cell?,h.Bw],λq=>by simp[World.frozen?,h.Bw]⟩
def SM.CU(h:SM w c B vF vT vS H s){t}(d:t<s.nt):∃g e,vT=.slice (some<|G g 0) s.nt e/\g<w.heap.size/\B<=g/\(∀j u,(Ip (H t)<|s.T t)[j]?=some u->w.cell? (G g<|t*8+j)=some u)/\∀q,w.frozen? (G g q)=false:=by
 obtain⟨hl,⟨b,f⟩|⟨g,cap,cur,b,hb,a,h1,h2,h3,h4⟩⟩:=id h.t
 .omega
 refine⟨g,cap,b,Ah a,hb,λj u hu=>?_,λq=>by simp[World.frozen?,a]⟩;have hj:j<8:=(So.1 hu).1;rw[Ok (b▸h.t) (t*8+j) om,Lk d hj,hu]
def SM.pR(h:SM w c B vF vT vS H s){g a}(b:vT=.slice (some<|G g 0) s.nt a){j}(hj:j<s.nt*8):w.cell? (G g j)=(Ro H s.T s.nt)[j]?:=by
 rw[Ok (b▸h.t) j hj]
def SM.GB(h:SM w c B vF vT vS H s){i}(hi:i<s.ns):∃g d,vS=.slice (some<|G g 0) s.ns d/\g<w.heap.size/\B<=g/\(∀j u,(GD<|s.S i)[j]?=some u->w.cell? (G g<|i*5+j)=some u)/\∀q,w.frozen? (G g q)=false:=by
 obtain⟨hl,⟨b,e⟩|⟨g,cap,cur,b,hb,a,h1,h2,h3,h4⟩⟩:=id h.si
 .omega
 refine⟨g,cap,b,Ah a,hb,λj u hu=>?_,λq=>by simp[World.frozen?,a]⟩;have hj:j<5:=(So.1 hu).1;rw[Ok (b▸h.si) (i*5+j) om,NF hi hj,hu]
def SM.Ob(h:SM w c B vF vT vS H s)(hn:0<s.nf):∃g b,vF=S9 g s.nf b/\g<w.heap.size/\B<=g/\Bg w g s.nf s.F:=by
 obtain⟨hl,⟨d,e⟩|⟨g,cap,cur,d,hb,a,h1,h2,h3,h4⟩⟩:=id h.f;all_goals grind [Bg,Ah,EO.in,SM.f]
def SM.qQ(h:SM w c B vF vT vS H s){t}(a:t<s.nt){g f}(b:vT=S9 g s.nt f):AQ w g (t*8+2) B (H t).l (H t).i (H t).x (s.T t).d:=by
 obtain⟨g',j,hv',k,hb,hc,hf⟩:=h.CU a;rw[b]at hv';cases hv';refine⟨k,hc 2 _ rfl,hc 3 _ rfl,hc 4 _ rfl,hc 5 _ rfl,hc 6 _ rfl,hc 7 _ rfl,hf,h.l t a,h.i t a,h.x t a,h.ap t a,?_,by have:=h.base;have:=h.lt;omega⟩;rintro(e|e|e)
 .exact(h.apart a<|.inr<|.inl e).2.2.1 (qh b)
 .exact(h.apart a<|.inr<|.inr<|.inl e).2.2.1 (qh b)
 exact(h.apart a<|.inr<|.inr<|.inr e).2.2.1 (qh b)
def SM.tA(h:SM w c B vF vT vS H s){t}(a:t<s.nt){g D}(m:vT=S9 g s.nt D){u0 u1 u2}{u}(f:AQ w' g (t*8+2) B u0 u1 u2 u)(b:CW g (t*8+2) (H t).l (H t).i (H t).x w u0 u1 u2 w'):
  SM w' c B vF vT vS (AX H t ⟨(H t).v,u0,u1,u2⟩) (BJ s t {s.T t with d:=u})/\BF (Bn c vF vT vS H s.nt) w (Bn c vF vT vS (AX H t ⟨(H t).v,u0,u1,u2⟩) s.nt) w':=by
 have hD:=h.qQ a m;have n:∀q,GX (H t).l (H t).i (H t).x q->(H t).own q:=λq e=>.inr e;have o:∀q,(H t).v.ownBlock=some q->w'.heap[q]?=w.heap[q]?:=λq e=>by
  obtain⟨cur,hc,_⟩:=AV (h.v t a) e;refine b.block q (Ah hc) (λe'=>(h.apart a<|.inl e).2.2.1<|by rw[m,e'];rfl) ?_;rintro(e'|e'|e')
  .exact Cd (h.v t a) (h.l t a) oo e e'
  .exact Cd (h.v t a) (h.i t a) oo e e'
  exact Cd (h.v t a) (h.x t a) oo e e'
 refine h.table a ⟨b.os,b.tape,b.output,b.size⟩ (λk k1 k2 k3=>b.block k k1 (λe=>k2<|by rw[m,e];rfl) λe=>k3<|n k e) ?_ (Ab (h.v t a) o) f.log f.ints f.index f.ap λq e=>?_
 .have A:=h.t;rw[m]at A ⊢;refine Zm A b.ty (WU _ _ _) λj hj=>?_;obtain⟨i,r,C,p⟩:∃i r,r<8/\j=i*8+r:=⟨j/8,j%8,VC _ oo,om⟩;subst p;have hi:i<s.nt:=om;rw[Lk hi C];by_cases e:i=t
  .subst e;rw[Ai,Ai];rcases(by omega:r=0\/r=1\/r=2\/r=3\/r=4\/r=5\/r=6\/r=7)with rfl|rfl|rfl|rfl|rfl|rfl|rfl|rfl
   .rw[b.cell _ (.inl om),h.pR m hj,Lk hi oo];rfl
   .rw[b.cell _ (.inl om),h.pR m hj,Lk hi oo];rfl
   .exact f.c0
   .exact f.c1
   .exact f.c2
   .exact f.c3
   .exact f.c4
   exact f.c5
  rw[Ak _ _ e,Ak _ _ e,b.cell _ om,h.pR m hj,Lk hi C]
 rcases e with e|e
 .exact .inl (.inl e)
 rcases b.sub q e with e'|e';all_goals grind [AX,BJ,Bn]
end
def LX t{k}{w}(D:SM w c B vF vT vS H s)(hG:Ls s)(E:t<s.nt)(hk:Ky k):
  C9 50 #[Q9 c,J t,GR k] w (R9 (GR<|Cg s.F (s.T t) k) w):=by
 obtain⟨I,R,S,_,U⟩:=Av hG.f;have av:0<s.nf:=oS I.1;obtain⟨g,cp,rfl,hg,_,hc,_⟩:=D.CU E;obtain⟨fb,fc,rfl,aw,_,hF⟩:=D.Ob av;rcases D.cells,D.lt,hG.t t E,AE<|D.v t E,(D.l t E).at,(D.i t E).at,(D.x t E).at,D.v t E with⟨⟨c0,c1,c2,_⟩,ax,hx,⟨va,vc,ev⟩,⟨la,lc,el,X⟩,⟨ia,ic,ei,Z⟩,⟨xa,xc,ex,af⟩,ag⟩;rw[ev]at ag;obtain⟨y0,y1,y2,y3,y4,y5,y6,y7⟩:=qd hc;rw[ev]at y1;rw[el]at y2;rw[ei]at y3;rw[ex]at y4;simp only[Aau]at y0;have HR:=O<|qj I<|qj R<|qj S U;have ay:Hid<|Ea w la ia xa (s.T t).d:=O ⟨X,Z,af⟩;obtain⟨W,M,r,az,o0,o1,o2⟩:=gW w (.cells (qe k) 43) (.cells #[J 0,J 0,F9 0,E9,J 0] 43)<|.cells #[J (s.T t).shape,.slice va (s.T t).nv vc,.slice la (s.T t).d.n lc,.slice ia (s.T t).d.m ic,.slice xa (s.T t).d.x xc,J (s.T t).d.used,J (s.T t).d.live,J (s.T t).d.turns] 105;obtain⟨k0,k1,k2,k3,k4⟩:=v5 o0;obtain⟨r0,r1,r2,r3,r4⟩:=v5 o1;have fr:∀o,W.frozen? (Y9 w o)=false:=λo=>by rw[M];simp[go_sem]
 obtain⟨x0,x1,x2,x3,x4,x5,x6,x7⟩:=v8 o2;have C:w.heap.size+1<W.heap.size:=om;have lx:w.heap.size+1+1<W.heap.size:=om;have lk:w.heap.size<W.heap.size:=om;have ah:Hid<|Hl W (w.heap.size+1+1) 2 la lc ia ic xa xc (s.T t).d:=O ⟨om,x2,x3,x4,x5,x6,x7,ay.below r⟩;have ai:=(r.cell ax).trans c0;have bg:c<W.heap.size:=om;clear az;clear D I R S U X Z af hc;rcases hx.way with⟨e,e2,hI⟩|⟨j,e,hj,aj,e2,e3⟩
 .have hd:decide ((s.T t).shape<0)=true:=ot;have A:Hid<|Cg s.F (s.T t) k=FG (s.T t).d (Aw (s.T t).d k<|hN k):=O (by unfold Cg;rw[C3 om]);have aM:=PO.small hx;clear e e2;go_enter func50,ntmps50;go_upto_region 2 with fail
  rw[<-M];clear M;go_wp2_with fail;refine m9 (I6 ah aM hI.i0.d3 hI.i0.d4<|tJ hk.1 hk.2) λw1 a=>?_;obtain⟨ak,ao⟩:=Ja hI.i0.d3 hI.i0.d4 k<|hN k;generalize a6:Aw (s.T t).d k (hN k)=pl at A ak ao;clear a6;have z1:=a.size;have l1:w.heap.size+1<w1.heap.size:=om;rcases (a.cell C).trans r0,(a.cell C).trans r1,(a.cell C).trans r2,(a.cell C).trans r3,(a.cell C).trans r4 with⟨s0,s1,s2,s3,s4⟩;have a7:∀o,w1.frozen? (Y9 w o)=false:=λo=>o7 a C<|fr o;rcases (a.cell lx).trans x2,o8 r a,O ((ah.below a).rows.log) with⟨q2,P,a8⟩;clear a r0 r1 r2 r3 r4 fr k0 k1 k2 k3 k4 x0 x1 x2 x3 x4 x5 x6 x7 y0 y1 y2 y3 y4 y5 y6 y7 c0 c1 c2 ai;by_cases ad:pl<0
  focus
   have u:=O<|A.trans<|Cs om;go_wp2;refine GO (v:=.agg #[J 0,J 0,F9 0,E9,J 0]) (by simp[results,results50,go_sem,s0,s1,s2,s3,s4]) rfl ⟨qg u,?_⟩
  rotate_left
  focus
   obtain⟨q,hq⟩:∃q:Nat,pl=(q:Int):=⟨pl.toNat,om⟩;subst hq;have bb:q<(s.T t).d.n:=om;have u:Hid<|Cg s.F (s.T t) k=((s.T t).d.L q).val:=O<|A.trans (by unfold FG;rw[C3 om];rfl);obtain⟨b,off,rfl,bh,hcs⟩:=a8.resolve_left om;obtain⟨_,_,_,_,_,e5,e6,e7,e8,e9,_⟩:=hcs q bb;clear hcs ak ao ad;go_wp2;refine GO (v:=GR ((s.T t).d.L q).val) (by simp[results,results50,go_sem,s0,s1,s2,s3,s4]) rfl ⟨qg u,?_⟩
  all_goals
   iterate 5 (refine NO ?_ ox _)
   exact P
 have hd:decide ((s.T t).shape<0)=false:=ot;have Q:=O<|qj e<|qj hj aj;clear e e2 e3 hj aj;by_cases h4:k.kind=4
 .have bc:(k.kind==4)=true:=by simp[h4]
  have A:Hid<|Cg s.F (s.T t) k=if 0<=Bc s.F j k.str then(s.T t).V (Bc s.F j k.str).toNat else M8:=O (by
   unfold Cg;rw[Cs (oS (z Q).1),(z Q).1,On];by_cases hp:0<=Bc s.F j k.str
   .rw[C3 ⟨h4,hp⟩,C3 hp]
   rw[Cs (λh=>hp h.2),Cs hp])
  have bd:Hid<|∀w',Bg w' fb s.nf s.F->C9 82 #[.agg #[S9 fb s.nf fc],J (s.T t).shape,.string k.str] w' λe bf=>e=.returned (J<|Bc s.F j k.str)/\B9 w' bf:=O (λw' hS=>by
   rw[(z Q).1];exact KS fc j k.str hS HR.1 HR.2.1 HR.2.2.1 HR.2.2.2 Q.2.1)
  have aq:=O<|hF.below r aw;clear h4;go_enter func50,ntmps50;go_upto_region 2 with fail
  rw[<-M];clear M;go_upto_region 8 with fail
  clear y0 y1 y2 y3 y4 y5 y6 y7 c0 c1 c2;refine qr W ?_;(iterate 8 refine N (h:=?_));refine GC λK hK=>?_;go_simp;refine⟨_,λw' ar=>qk ar<|bd _<|aq.below ar aq.lt,hK _ ?_⟩;clear hK K;refine N (h:=?_);refine GS ?_;intro w1 a;have z1:=a.size;have l1:w.heap.size+1<w1.heap.size:=om;rcases (a.cell C).trans r0,(a.cell C).trans r1,(a.cell C).trans r2,(a.cell C).trans r3,(a.cell C).trans r4 with⟨s0,s1,s2,s3,s4⟩;have a7:∀o,w1.frozen? (Y9 w o)=false:=λo=>o7 a C<|fr o;rcases (a.cell lx).trans x1,o8 r a,Wo ag (o8 r a) with⟨q1,P,au⟩;clear a r0 r1 r2 r3 r4 fr k0 k1 k2 k3 k4 x0 x1 x2 x3 x4 x5 x6 x7 ai;rcases JK hG.f Q.2.1 k.str with hp|⟨i,hp,hi⟩
  focus
   have u:=O<|A.trans<|Cs om;rw[hp];clear hp;go_wp2;refine GO (v:=.agg #[J 0,J 0,F9 0,E9,J 0]) (by simp[results,results50,go_sem,s0,s1,s2,s3,s4]) rfl ⟨qg u,?_⟩
  rotate_left
  focus
   have u:=O<|A.trans (by rw[C3 om,hp,On]);have JS:i<(s.T t).nv:=by rw[(z Q).2.2];exact hi
   rw[hp];obtain⟨vb,rfl,bj⟩:∃vb,va=some (G vb 0)/\vb<w1.heap.size:=by
    obtain⟨hl,⟨hv,h0⟩|⟨g,cp,cur,hv,_,ae,_⟩⟩:=id au
    .omega
    cases hv;exact⟨_,rfl,Ah ae⟩
   obtain⟨e0,e1,e2,e3,e4⟩:=BW.at au JS;clear hp hi;go_wp2;refine GO (v:=GR<|(s.T t).V i) (by simp[results,results50,go_sem,s0,s1,s2,s3,s4]) rfl ⟨qg u,?_⟩
  all_goals
   iterate 5 (refine NO ?_ ox _)
   exact P
 have bc:(k.kind==4)=false:=by simp[h4]
 have u:Hid<|Cg s.F (s.T t) k=M8:=O (by
  unfold Cg;rw[Cs (oS (z Q).1),Cs (λh=>h4 h.1)])
 clear h4;go_enter func50,ntmps50;go_upto_region 2 with fail
 rw[<-M];clear M;clear y0 y1 y2 y3 y4 y5 y6 y7 c0 c1 c2;go_wp2;refine GO (v:=.agg #[J 0,J 0,F9 0,E9,J 0]) (by simp[results,results50,go_sem,r0,r1,r2,r3,r4]) rfl ⟨qg u,?_⟩;iterate 5 (refine NO ?_ ox _)
 exact r
section
variable {w w':Y} {c B:Nat} {vF vT vS:V9} {H:Nat->Hs} {s:AK}
def SM.Fh(h:SM w c B vF vT vS H s){g n i j}(d:vS=.slice (some<|G g 0) s.ns n)(hi:i<s.ns)(hj:j<5){u:V9}{x'}(o:GD x'=(GD<|s.S i).set j u):
  SM (w.setCell (G g<|i*5+j) u) c B vF vT vS H {s with S:=AX s.S i x'}/\BF (Bn c vF vT vS H s.nt) w (Bn c vF vT vS H s.nt) (w.setCell (G g<|i*5+j) u):=by
 have a:vS.ownBlock=some g:=qh d
 have hk:∀k,k≠g->(w.setCell (G g<|i*5+j) u).heap[k]?=w.heap[k]?:=λk hk=>At _ _ _ _ (by exact hk);have p:=hk c λe=>h.Ba h.si oo (by rw[e];exact a);have r:∀q,vF.ownBlock=some q->(w.setCell (G g<|i*5+j) u).heap[q]?=w.heap[q]?:=λq e=>hk q λe'=>Cd h.f h.si oo e (by rw[e'];exact a);have A:∀q,vT.ownBlock=some q->(w.setCell (G g<|i*5+j) u).heap[q]?=w.heap[q]?:=λq e=>hk q λe'=>Cd h.t h.si oo e (by rw[e'];exact a);have b:∀j' q,j'<s.nt->(H j').own q->(w.setCell (G g<|i*5+j) u).heap[q]?=w.heap[q]?:=λj' q m e=>hk q λe'=>(h.apart m e).2.2.2 (by rw[e'];exact a);refine⟨⟨h.base,p.trans h.Bw,Ab h.f r,Ab h.t A,?_,λj hj=>Ab (h.v j hj) λq e=>b j q hj<|.inl e,λj hj=>Ab (h.l j hj) λq e=>b j q hj<|.inr<|.inl e,λj hj=>Ab (h.i j hj) λq e=>b j q hj<|.inr<|.inr<|.inl e,λj hj=>Ab (h.x j hj) λq e=>b j q hj<|.inr<|.inr<|.inr e,h.ap,h.ij⟩,⟨rfl,rfl,rfl,oq,λk k1 k2=>hk k λe=>k2<|.inr<|.inr<|.inr<|.inl<|by rw[e];exact a,λk e=>.inl e⟩⟩;have h1:=(X0 (d▸h.si:w.ownsRow B 107 5 (.slice (some<|G g 0) s.ns n) s.ns<|Jk s.S s.ns) (i*5+j) u).1;rw[Yg hi hj o,<-d]at h1;exact h1
end
def X5{n}(h:n<1000000000000):D6 n=n+1:=C3 h
def X4{n}(h:¬n<1000000000000)(h2:n<=1000000000000):D6 n=n:=by unfold D6;rw[Cs h];omega
def V3 i t{w}(D:SM w c B vF vT vS H s)(hG:Ls s)(hi:i<s.ns)(ht:t<s.nt):
  C9 92 #[Q9 c,J i,J t] w λe w'=>e=.returned (J<|Bh s i t)/\SM w' c B vF vT vS H (AY s i t)/\BF (Bn c vF vT vS H s.nt) w (Bn c vF vT vS H s.nt) w':=by
 obtain⟨E,U,V,_,X⟩:=Av hG.f;have Z:0<s.nf:=oS E.1;obtain⟨g,cp,rfl,hg,_,hc,_⟩:=D.CU ht;obtain⟨sb,sp,rfl,bb,_,m,bc⟩:=D.GB hi;obtain⟨fb,fc,rfl,bd,_,hF⟩:=D.Ob Z;rcases D.cells,D.lt,hG.si i hi,hc 0 _ rfl with⟨⟨c0,c1,c2,_⟩,bf,⟨o1,o2,o3,o4,o5,_⟩,y0⟩;simp only[Aau]at y0;rcases m 0 _ rfl,m 1 _ rfl,m 2 _ rfl,m 3 _ rfl,m 4 _ rfl with⟨s0,s1,s2,s3,s4⟩;simp only[Aau]at s0;rcases O D,O hG,O (qj E<|qj U<|qj V X) with⟨HM,HG,HR⟩;clear hG E U V X hc m D;by_cases p:KO s i t=true
 .have e0:0<=(s.T t).shape/\(s.T t).shape=(s.S i).shape:=by unfold KO at p;simpa using p
  have d1:decide (0<=(s.T t).shape)=true:=by simp[e0.1]
  have d2:((s.T t).shape==(s.S i).shape)=true:=by simp[e0.2]
  have b:Hid<|Bh s i t=(s.S i).place:=O (by unfold Bh;rw[C3 p]);have d:Hid<|DS s i t={s.S i with BZ:=D6 (s.S i).BZ}:=O (by unfold DS;rw[C3 p]);clear p e0;by_cases hl:(s.S i).BZ<1000000000000
  .have d3:decide ((s.S i).BZ<1000000000000)=true:=by simp[hl]
   have HS:=O<|SM.Fh (j:=3) (u:=J<|(s.S i).BZ+1) (x':=DS s i t) HM rfl hi oo (by rw[z d,X5 hl];rfl);go_enter func92,ntmps92;go_wp2;go_ret;exact⟨qg b,HS.1,HS.2⟩
  have d3:decide ((s.S i).BZ<1000000000000)=false:=ot;have HS:Hid<|AY s i t=s:=O (by
   unfold AY;rw[z d,X4 hl o4,show({s.S i with BZ:=(s.S i).BZ}:Si)=s.S i from rfl,Iq])
  go_enter func92,ntmps92;go_wp2;go_ret;rw[z HS];exact⟨qg b,HM,BF.refl _ _⟩
 .have b:Hid<|Bh s i t=if 0<=(s.T t).shape then Bc s.F (s.T t).shape.toNat (s.S i).key else -1:=O (by unfold Bh;rw[Cs p]);have d:Hid<|DS s i t=if 0<=(s.T t).shape/\0<=Bc s.F (s.T t).shape.toNat (s.S i).key then⟨(s.S i).key,(s.T t).shape,Bc s.F (s.T t).shape.toNat (s.S i).key,(s.S i).BZ,D6 (s.S i).AB⟩else{s.S i with AB:=D6 (s.S i).AB}:=O (by unfold DS;rw[Cs p]);have ar:(decide (0<=(s.T t).shape)=false)\/(decide (0<=(s.T t).shape)=true/\((s.T t).shape==(s.S i).shape)=false):=by
   unfold KO at p;by_cases h0:0<=(s.T t).shape
   .right;simp[h0]at p ⊢;exact p
   left;simp[h0]
  clear p;obtain⟨x1,n⟩:∃x1:Si,x1={s.S i with AB:=D6 (s.S i).AB}:=⟨_,rfl⟩;have au:∃W,(((s.S i).AB<1000000000000/\W=w.setCell (G sb<|i*5+4) (J<|(s.S i).AB+1))\/(¬(s.S i).AB<1000000000000/\W=w))/\SM W c B (S9 fb s.nf fc) (S9 g s.nt cp) (S9 sb s.ns sp) H {s with S:=AX s.S i x1}/\BF (Bn c (S9 fb s.nf fc) (S9 g s.nt cp) (S9 sb s.ns sp) H s.nt) w (Bn c (S9 fb s.nf fc) (S9 g s.nt cp) (S9 sb s.ns sp) H s.nt) W:=by
   by_cases hl:(s.S i).AB<1000000000000
   .have hS:=SM.Fh (j:=4) (u:=J<|(s.S i).AB+1) (x':=x1) HM rfl hi oo (by rw[n,X5 hl];rfl);exact⟨_,.inl ⟨hl,rfl⟩,hS.1,hS.2⟩
   refine⟨w,.inr ⟨hl,rfl⟩,?_,BF.refl _ _⟩;rw[n,X4 hl o5,show({s.S i with AB:=(s.S i).AB}:Si)=s.S i from rfl,Iq];exact HM
  obtain⟨W,o,k,ae⟩:=au;have af:=O ae;obtain⟨g',bg,e1,bh,_,av,_⟩:=k.CU ht;cases e1;obtain⟨aw,ax,e2,ad,_,a,a6⟩:=k.GB hi;cases e2;rcases k.cells,k.lt,k.Ob Z with⟨⟨I,L,M,_⟩,a7,⟨bj,bk,e3,a8,_,ag⟩⟩;cases e3;rcases a 0 _ rfl,a 1 _ rfl,a 2 _ rfl,a 3 _ rfl,a 4 _ rfl with⟨u0,u1,u2,u3,u4⟩;simp only[Aau,Ai]at u0 u1 u2 u3 u4;have ah:x1.key=(s.S i).key:=by rw[n]
  rw[ah]at u0;rw[show x1.shape=(s.S i).shape by rw[n]]at u1;clear u2 u3 u4;have ai:=O ag;have P:=O n;clear ae av a ag n ah;go_enter func92,ntmps92;rcases ar with d1|⟨d1,d2⟩
  .have l:Hid<|Bh s i t=-1:=O (by
    have:¬0<=(s.T t).shape:=by simpa using d1
    rw[z b,Cs this])
   have r:Hid<|AY s i t={s with S:=AX s.S i x1}:=O (by
    have:¬0<=(s.T t).shape:=by simpa using d1
    unfold AY;rw[z d,Cs (λh=>this h.1),z P])
   have d4:decide ((s.T t).shape<0)=true:=by
    have:¬0<=(s.T t).shape:=by simpa using d1
    simp;omega
   clear b d;rcases o with⟨hl,o⟩|⟨hl,o⟩
   focus
    have d3:decide ((s.S i).AB<1000000000000)=true:=by simp[hl]
    clear hl u0 u1 I L M;go_upto_region 9 with fail
    rw[<-o];clear o s0 s1 s2 s3 s4
   rotate_left
   focus
    have d3:decide ((s.S i).AB<1000000000000)=false:=ot;clear hl u0 u1 I L M;subst o
   all_goals
    go_wp2;go_ret;rw[z r];exact⟨qg l,k,af⟩
  have h0:0<=(s.T t).shape:=by simpa using d1
  obtain⟨j,hj⟩:∃j:Nat,(s.T t).shape=j:=⟨(s.T t).shape.toNat,om⟩;have Q:j<s.nf:=by
   rcases(HG.t t ht).way with⟨e,_⟩|⟨j',e,bm,_⟩
   .omega
   omega
  have l:Hid<|Bh s i t=Bc s.F j (s.S i).key:=O (by rw[z b,C3 h0,hj,On]);have A:Hid<|DS s i t=if 0<=Bc s.F j (s.S i).key then⟨(s.S i).key,(s.T t).shape,Bc s.F j (s.S i).key,(s.S i).BZ,D6 (s.S i).AB⟩else{s.S i with AB:=D6 (s.S i).AB}:=O (by
   rw[z d,hj,On];by_cases hp:0<=Bc s.F j (s.S i).key
   .rw[C3 ⟨om,hp⟩,C3 hp]
   rw[Cs (λh=>hp h.2),Cs hp])
  have ay:Hid<|∀w',Bg w' fb s.nf s.F->C9 82 #[.agg #[S9 fb s.nf fc],J (s.T t).shape,.string (s.S i).key] w' λe az=>e=.returned (J<|Bc s.F j (s.S i).key)/\B9 w' az:=O (λw' hS=>by
   rw[hj];exact KS fc j (s.S i).key hS HR.1 HR.2.1 HR.2.2.1 HR.2.2.2 Q)
  have d4:decide ((s.T t).shape<0)=false:=ot;have aM:=O Q;clear h0 hj b d Q;rcases o with⟨hl,o⟩|⟨hl,o⟩
  case' inl=>
   have d3:decide ((s.S i).AB<1000000000000)=true:=by simp[hl]
   clear hl;go_upto_region 9 with fail
   rw[<-o];clear o s0 s1 s2 s3 s4 c0 c1 c2
  case' inr=>
   have d3:decide ((s.S i).AB<1000000000000)=false:=ot;clear hl;subst o;go_upto_region 9 with fail
   clear s0 s1 s2 s3 s4 c0 c1 c2
  all_goals
   go_upto_region 11 with fail
   refine qr W ?_;(iterate 9 refine N (h:=?_));refine GC λK hK=>?_;go_simp;refine⟨_,λw' aj=>qk aj<|ay _<|ai.below aj ai.lt,hK _ ?_⟩;clear hK K;refine N (h:=?_);refine GS ?_;intro w1 x;rcases O (k.below x),O<|af.below x,(x.cell ad).trans u1 with⟨R,ak,v1⟩;obtain⟨aw,ax,e4,_,_,C,v⟩:=R.GB hi;cases e4;rcases C 2 _ rfl,v<|i*5+1,v (i*5+2) with⟨v2,f1,f2⟩;clear x C v u0 u1 I L M;rcases JK HG.f aM (s.S i).key with hp|⟨q,hp,hq⟩
   .have r:Hid<|AY s i t={s with S:=AX s.S i x1}:=O (by
     unfold AY;rw[z A,Cs om,z P])
    rw[hp];have HP:=O hp;clear hp;go_wp2;go_ret;rw[z r];exact⟨by rw[z l,z HP];rfl,R,ak⟩
   have ao:=O<|SM.Fh (j:=1) (u:=J (s.T t).shape) (x':={x1 with shape:=(s.T t).shape}) R rfl hi oo (by show _=(GD<|AX s.S i x1 i).set 1 _;rw[Ai];rfl);have aq:=O<|SM.Fh (j:=2) (u:=J (q:Int)) (x':={x1 with shape:=(s.T t).shape,place:=(q:Int)}) ao.1 rfl hi oo (by show _=(GD<|AX (AX s.S i x1) i _ i).set 2 _;rw[Ai];rfl);have r:Hid<|AY s i t={s with S:=AX (AX (AX s.S i x1) i {x1 with shape:=(s.T t).shape}) i {x1 with shape:=(s.T t).shape,place:=(q:Int)}}:=O (by
    unfold AY;rw[GG,GG,z A,C3 om,hp,z P])
   rw[hp];have HP:=O hp;clear hp;go_wp2;go_ret;rw[z r];exact⟨by rw[z l,z HP];rfl,aq.1,ak.trans<|ao.2.trans aq.2⟩
def Yk{α}f i(a b:α):AU (AU f i a) i b=AU f i b:=by
 grind [AU,Au,Ao]
theorem oY f n i j u p(hi:i<n)(hj:j<11)(hp:De p=(De<|f i).set j u):(pL f n).set (i*11+j) u=pL (AU f i p) n:=by
 apply AaS;intro q;rw[List.getElem?_set];by_cases hq:q<n*11
 .have e1:q=q/11*11+q%11:=om;grind [De,pL,AU,L5,Au,DN,Ao]
 grind [De,pL,AU,DN]
def BP.uE{f}(h:BP w B (S9 g n a) n f){i}(hi:i<n)j(hj:j<11)u p(hp:De p=(De<|f i).set j u):BP (w.setCell (G g<|i*11+j) u) B (S9 g n a) n<|AU f i p:=by
 have h1:=(X0 h (i*11+j) u).1;grind [De,AU,oY]
def AQ.rT(h:AQ w c o B (S9 g d.n a) v1 v2 d){i}(hi:i<d.n)j(hj:j<11)u p(hp:De p=(De<|d.L i).set j u):AQ (w.setCell (G g<|i*11+j) u) c o B (S9 g d.n a) v1 v2 {d with L:=AU d.L i p}:=
 h.oZ (.inl rfl) rfl rfl rfl (h.log.uE hi j hj u p hp) (Bb h.ints _ λe=>DM h.log h.ints rfl e) (Bb h.index _ λe=>DM h.log h.index rfl e)
def bH{a b}{p}(c:a.x=b.x)(d:a.X=b.X)(hu:a.used=b.used):(AR hf a k p).X=(AR hf b k p).X/\(AR hf a k p).used=(AR hf b k p).used:=by
 grind [AR,Dp]
theorem eJ{a b}{x}:∀k,BV a k<x->BV b k<x->(∀i,i<k->(AP a i↔AP b i))->(∀i,i<k->(a.L i).key=(b.L i).key)->(Bl hf a x k).X=(Bl hf b x k).X/\(Bl hf a x k).used=(Bl hf b x k).used:=by
 intro k
 induction k with
 |zero=>intro _ _ _ _;exact⟨rfl,rfl⟩
 |succ k ih=>
  intro f hb hi hk;have c:=Aan (FN a (k:=k) om) f;have d:=Aan (FN b (k:=k) om) hb;obtain⟨e,i2⟩:=ih c d (λi h=>hi i om) λi h=>hk i om;by_cases h:AP a k
  .rw[E3 h,E3 ((hi k om).1 h),hk k om];exact bH ((Dj k c).2.2.2.1.trans (Dj k d).2.2.2.1.symm) e i2
  rw[E0 h,E0 (λh'=>h ((hi k om).2 h'))];exact⟨e,i2⟩
theorem Ow{a b}:∀k,(∀i,i<k->(AP a i↔AP b i))->BV a k=BV b k:=by
 intro k
 induction k with
 |zero=>intro _;rfl
 |succ k ih=>
  intro h;have e:=ih λi hi=>h i om;by_cases c:AP a k
  .rw[EE c,EE ((h k om).1 c),e]
  rw[Gu c,Gu (λh'=>c ((h k om).2 h')),e]
def Eg(c:Dc)(k v:Vl):Dc:={B3 c k v with L:=AU c.L c.n ⟨k,v,0⟩}
theorem NZ{c}(h:i<c.n):(Eg c k v).L i=c.L i:=Ao _ _ om
theorem Hv{c}(h:i<c.n):AP (Eg c k v) i↔AP c i:=by
 unfold AP;rw[NZ h];exact Iff.rfl
theorem LJ{c}:¬AP (Eg c k v) c.n:=by
 unfold AP;rw[show(Eg c k v).L c.n=⟨k,v,0⟩from Au _ _ _];grind [AP,Eg]
theorem LI{c}:BV (Eg c k v) (Eg c k v).n=BV c c.n:=by
 show BV (Eg c k v) (c.n+1)=_;rw[Gu LJ];exact Ow _ λi hi=>Hv hi
def RK{c}(a:BV c c.n+1<=500):{A3 hf (Eg c k v) 1 with L:=AU c.L c.n ⟨k,v,c.turns+1⟩}=B3 (A3 hf c 1) k v:=by
 grind [BV,A3,Eg,AU,B3,LI,Cy,Dn,Dj,Ck,Bl,E0,LJ,eJ,Hv,NZ,Ow,Dc.lS]
def CW.far(h:CW c o v0 v1 v2 w u0 u1 u2 w'){b}(hb:b<w.heap.size)(hc:b≠c)(a:¬GX v0 v1 v2 b):w'.heap[b]?=w.heap[b]?/\b<w'.heap.size/\¬GX u0 u1 u2 b:=
 ⟨h.block b hb hc a,A0 hb h.size,λe=>(h.sub b e).elim a λe'=>om⟩
structure sH (w:Y) (b:Nat) (v:Vl):Prop where
 lt:b<w.heap.size
 k0:w.cell? (G b 0)=some (J v.kind)
 k1:w.cell? (G b 1)=some (J v.num)
 k2:w.cell? (G b 2)=some (F9 v.Af)
 k3:w.cell? (G b 3)=some (.string v.str)
 k4:w.cell? (G b 4)=some (J v.ref)
def sH.keep(h:sH w b v)(hs:w.heap.size<=w'.heap.size)(e:w'.heap[b]?=w.heap[b]?):sH w' b v:=by
 have e':∀q,w'.cell? (G b q)=w.cell? (G b q):=λq=>As e;exact⟨A0 h.lt hs,(e' _).trans h.k0,(e' _).trans h.k1,(e' _).trans h.k2,(e' _).trans h.k3,(e' _).trans h.k4⟩
def cY(w:Y)(c o:Nat):Nat:=match w.cell? (G c<|o+1)with
 |some (.slice _ n _)=>n
 |_=>0
def Uh{a}(h:w.cell? (G c<|o+1)=some (.slice a n b)):cY w c o=n:=by unfold cY;rw[h]
def Pk{more}(b:BV d d.n+more<=500):Dx (A3 hf d more) d:=by
 by_cases e:BV d d.n+more=0
 .rw[D8 e];exact⟨rfl,rfl,rfl,rfl,rfl,rfl⟩
 rw[Cy e];obtain⟨s1,s2,i,j⟩:=Dn b;obtain⟨h1,h2,h3,h4,h5,c,f,g,h,a⟩:=Dj (hf:=hf) (d:=d) (x:=Ck<|BV d d.n+more) d.n om;exact⟨h5,c,f,g,h,a⟩
structure Tc (w:Y) (c:Nat) (v0 v1 v2:V9) (b:Nat) (v:Vl):Prop where
 box:sH w b v
 nc:b≠c
 no:¬GX v0 v1 v2 b
def Tc.step(h:Tc w c v0 v1 v2 b v)(k:CW c o v0 v1 v2 w u0 u1 u2 w'):Tc w' c u0 u1 u2 b v:=by
 obtain⟨h1,h2,h3⟩:=k.far h.box.lt h.nc h.no;exact⟨h.box.keep k.size h1,h.nc,h3⟩
def Oo{o}{row}(h:(W.drew.alloc o).grownBy w3 row):W.grownBy w3 row:=
 ⟨h.os,h.tape,h.output,by have:=h.size;simp at this;omega,λb hb a=>(h.block b ot a).trans<|DO _ _ _ hb⟩
def TN{o}{row}(h:(W.alloc o).grownBy w3 row):W.grownBy w3 row:=
 ⟨h.os,h.tape,h.output,by have:=h.size;simp at this;omega,λb hb a=>(h.block b ot a).trans<|DO _ _ _ hb⟩
def kI f n p:pL f n++De p=pL (AU f n p) (n+1):=by
 show _=pL (AU f n p) n++De (AU f n p n);rw[Au];congr 1;have:∀m,m<=n->pL f m=pL (AU f n p) m:=by
  intro m
  induction m with
  |zero=>intro _;rfl
  |succ m ih=>intro a;show pL f m++De (f m)=pL (AU f n p) m++De (AU f n p m);rw[ih om,Ao _ _ om]
 exact this n<|Be _
def XQ f n x:iL f n++[J x]=iL (AU f n x) (n+1):=by
 show _=iL (AU f n x) n++[J (AU f n x n)];rw[Au];congr 1;have:∀m,m<=n->iL f m=iL (AU f n x) m:=by
  intro m
  induction m with
  |zero=>intro _;rfl
  |succ m ih=>intro a;show iL f m++[_]=iL (AU f n x) m++[_];rw[ih om,Ao _ _ om]
 exact this n<|Be _
section
variable {w w3:Y} {c o B:Nat} {v0 v1 v2 u:V9} {d:Dc}
def AQ.qU(h:AQ w c o B v0 v1 v2 d)(a:w.grownBy w3 v0.ownBlock){n}{L}(hu:BP w3 B u n L)(hs:∀b,u.ownBlock=some b->v0.ownBlock=some b\/w.heap.size<=b):
  AQ (w3.setCell (G c o) u) c o B u v1 v2 {d with n:=n,L:=L}/\CW c o v0 v1 v2 w u v1 v2 (w3.setCell (G c o) u):=by
 have hc:v0.ownBlock≠some c:=λe=>h.nc<|.inl e;have e3:=a.block c h.lt λe=>hc e.symm;have f:∀q,w3.cell? (G c q)=w.cell? (G c q):=λq=>As e3;have g:u.ownBlock≠some c:=λe=>(hs c e).elim hc λe'=>oS h.lt;have hi:Bo w3 B v1 d.m d.I:=T3 h.ints a λb e=>DM h.log h.ints e;have i:Bo w3 B v2 d.x d.X:=T3 h.index a λb e=>DM h.log h.index e;refine⟨⟨by simpa using A0 h.lt a.size,Cv<|(f _).trans h.c0,(Aa om).trans<|(f _).trans h.c1,(Aa om).trans<|(f _).trans h.c2,(Aa om).trans<|(f _).trans h.c3,(Aa om).trans<|(f _).trans h.c4,(Aa om).trans<|(f _).trans h.c5,λq=>by rw[PC];exact(ID e3).trans (h.fz q),Bb hu _ g,Bb hi _ λe=>h.nc<|.inr<|.inl e,Bb i _ λe=>h.nc<|.inr<|.inr e,h.ap,λe=>e.elim g λe=>h.nc<|.inr e,by simpa using GP h.base a.size⟩,?_⟩;exact Mf u a (λb e=>.inl<|.inl e) h.lt hc om λb e=>e.elim (λe=>(hs b e).elim (λe=>.inl<|.inl e) .inr) λe=>.inl<|.inr e
def AQ.lT(h:AQ w c o B v0 v1 v2 d)(a:w.grownBy w3 v1.ownBlock){m}{I}(hu:Bo w3 B u m I)(hs:∀b,u.ownBlock=some b->v1.ownBlock=some b\/w.heap.size<=b):
  AQ (w3.setCell (G c<|o+1) u) c o B v0 u v2 {d with m:=m,I:=I}/\CW c o v0 v1 v2 w v0 u v2 (w3.setCell (G c<|o+1) u):=by
 have hc:v1.ownBlock≠some c:=λe=>h.nc<|.inr<|.inl e;have e3:=a.block c h.lt λe=>hc e.symm;have f:∀q,w3.cell? (G c q)=w.cell? (G c q):=λq=>As e3;have g:u.ownBlock≠some c:=λe=>(hs c e).elim hc λe'=>oS h.lt;have hl:BP w3 B v0 d.n d.L:=T3 h.log a λb e e'=>DM h.log h.ints e' e;have i:Bo w3 B v2 d.x d.X:=T3 h.index a λb e=>h.ap b e;refine⟨⟨by simpa using A0 h.lt a.size,(Aa om).trans<|(f _).trans h.c0,Cv<|(f _).trans h.c1,(Aa om).trans<|(f _).trans h.c2,(Aa om).trans<|(f _).trans h.c3,(Aa om).trans<|(f _).trans h.c4,(Aa om).trans<|(f _).trans h.c5,λq=>by rw[PC];exact(ID e3).trans (h.fz q),Bb hl _ λe=>h.nc<|.inl e,Bb hu _ g,Bb i _ λe=>h.nc<|.inr<|.inr e,?_,λe=>e.elim (λe=>h.nc<|.inl e) λe=>e.elim g λe=>h.nc<|.inr<|.inr e,by simpa using GP h.base a.size⟩,?_⟩
 .intro q e e';exact(hs q e).elim (λe1=>h.ap q e1 e') λe1=>oS (h.index.lt q e').2
 exact Mf u a (λb e=>.inl<|.inr<|.inl e) h.lt hc om λb e=>e.elim (λe=>.inl<|.inl e) λe=>e.elim (λe=>(hs b e).elim (λe=>.inl<|.inr<|.inl e) .inr) λe=>.inl<|.inr<|.inr e
end
def OH(KL:KeyLaw K hf){c o B}{v0 v1 v2}{d}{k}(v){w}(hM:AQ w c o B v0 v1 v2 d)(hS:Small d)(hI:BN K hf d)(hN:Next d)(hh:∀v,K v->Yo v (hf v))
  (hk:K k) (eX:Cc k=true) (hv:v.ok=true) (e7:v.kind≠0) (e8:∀i,i<d.n->(d.L i).turn≠0->AF (d.L i).key k=false) (hl:d.live<500) (ht:d.turns<1000000000000) (e9:d.m<=4000000):
  C9 127 #[Pc c o,V k.kind k.num k.Af k.str k.ref,V v.kind v.num v.Af v.str v.ref] w λe w'=>((∃u,e=.returned u)/\∃u0 u1 u2,AQ w' c o B u0 u1 u2 (IX hf d k v)/\CW c o v0 v1 v2 w u0 u1 u2 w'):=by
 obtain⟨i0,hi,fa,fb,fc⟩:=ON EF;obtain⟨j0,ji,dr,dt,du⟩:=ON Np;have df:B9 w<|(w.alloc<|.cells (qe k) 43).alloc<|.cells (qe v) 43:=(n9).alloc oq _;obtain⟨W,hW⟩:=o9<|(w.alloc<|.cells (qe k) 43).alloc<|.cells (qe v) 43;rw[<-hW]at df;have fe:=hM.below df;have bk:Tc W c v0 v1 v2 w.heap.size k:=⟨⟨by rw[hW];simp;omega,by rw[hW];simp[go_sem],by rw[hW];simp[go_sem],by rw[hW];simp[go_sem],by rw[hW];simp[go_sem],by rw[hW];simp[go_sem]⟩,λe=>oS hM.lt,λe=>oS (hM.Wn e).2⟩;have bv:Tc W c v0 v1 v2 (w.heap.size+1) v:=⟨⟨by rw[hW];simp,by rw[hW];simp[go_sem],by rw[hW];simp[go_sem],by rw[hW];simp[go_sem],by rw[hW];simp[go_sem],by rw[hW];simp[go_sem]⟩,λe=>oS hM.lt,λe=>oS (hM.Wn e).2⟩;have ff:CW c o v0 v1 v2 w v0 v1 v2 W:=CW.Ax df hM.lt;rcases DJ hI,DZ (hf:=hf) hI.core hN,BO (hf:=hf) hI.core with⟨fg,fh,⟨fj,fk,dv,fl⟩⟩;have ct:∀i,i<(Ap hf d).n->((Ap hf d).L i).turn≠0->AF ((Ap hf d).L i).key k=false:=by
  intro i hi gT;cases e:AF ((Ap hf d).L i).key k
  .rfl
  obtain⟨j,g1,g2,g3⟩:=(DE hI.core λp=>AF p.key k=true).1 ⟨i,hi,gT,e⟩;rw[e8 j g1 g2]at g3;cases g3
 have a6:=hI.core;have hm:=e9;rcases O fg,O fh,O ct,O fe,O bk,O bv,O ff,O hS,O a6,O hh,O KL,O (qj hk<|qj eX<|qj hv e7) with⟨R,fm,dw,fo,fq,fr,ft,HS,fu,HH,dh,HK⟩;have b3:Hid<|IX hf d k v=Bx hf (Ap hf d) k v:=O rfl;clear hM fe bk bv ff hS hI hN hh KL hk eX hv e7 e8 ct fg fh df a6;go_enter func127,ntmps127;go_wp2_with fail;rw[<-hW];clear hW;refine(E8 hf fo HS fu HH).mono ?_;rintro e w1 ⟨⟨u,rfl⟩,t0,t2,S,aw⟩;rcases O (fq.step aw),O<|fr.step aw,O (ft.trans aw) with⟨cu,cv,fw⟩;generalize ha:Ap hf d=l at S R fm dw b3 fj fk dv fl;have h9:l.n<=1000:=om;have hb:0<=l.turns/\l.turns<1000000000000:=⟨R.turns.1,om⟩;have dx:l.live<500/\0<=l.live:=⟨om,oS R.log.CI⟩;have hg:l.m<=4000000:=by rw[dv];exact hm
 obtain⟨la,lc,e0,_⟩:=S.log.at;subst e0;rcases S.c0,S.c4,S.c5,S.fz o,S.fz<|o+4,S.fz<|o+5,S.lt,O S with⟨c0,c4,c5,f0,f4,f5,C,fx⟩;clear aw S ha fq fr ft fo fj fk dv fl hl ht hm e9;obtain⟨W2,dy⟩:=o9<|(w1.setCell (G c<|o+5)<|J<|l.turns+1).setCell (G c<|o+4)<|J<|l.live+1;have dz:=(fx.Pt<|l.turns+1).Im<|l.live+1;have bh:=(fw.trans<|C7 (o:=o) (v0:=.slice la l.n lc) (v1:=v1) (v2:=t2) (w:=w1) (q:=o+5) (J<|l.turns+1) om λb e=>.inl e).trans<|C7 (q:=o+4) (J<|l.live+1) om λb e=>.inl e;have ak:CW c o (.slice la l.n lc) v1 t2 w1 (.slice la l.n lc) v1 t2<|(w1.setCell (G c<|o+5)<|J<|l.turns+1).setCell (G c<|o+4)<|J<|l.live+1:=(C7 (q:=o+5) (J<|l.turns+1) om λb e=>.inl e).trans<|C7 (q:=o+4) (J<|l.live+1) om λb e=>.inl e;have ae:=O<|cu.step ak;have af:=O<|cv.step ak;rw[<-dy]at dz bh ae af;have U:=O dz;have dC:=O bh;clear dz bh ak fx fw cu cv;go_wp2_with fail;rw[<-dy];clear dy c0 c4 c5 f0 f4 f5 C;rcases U.c0,U.c5,U.fz o,U.lt,ae.box,af.box with⟨c0,c5,f0,C,⟨bl,k0,k1,k2,k3,k4⟩,⟨hn,q0,q1,q2,q3,q4⟩⟩;have b8:Hid<|BP W2.drew B (.slice la l.n lc) l.n l.L:=O U.log.drew;have ho:=U.base;have HG:Hid (∀(g3 t:Nat) (w3:Y),w3.ownsRow B 166 11 (S9 g3 (l.n+1) t) (l.n+1) (pL l.L l.n++De ⟨k,v,l.turns+1⟩)->W2.grownBy w3 (Value.slice la l.n lc).ownBlock->((Value.slice la l.n lc).ownBlock=some g3\/W2.heap.size<=g3)->
   AQ (w3.setCell (G c o) (S9 g3 (l.n+1) t)) c o B (S9 g3 (l.n+1) t) v1 t2 (B3 l k v)/\CW c o (.slice la l.n lc) v1 t2 W2 (S9 g3 (l.n+1) t) v1 t2 (w3.setCell (G c o) (S9 g3 (l.n+1) t))):=O (λg3 t w3 h1 h2 h3=>by
  rw[kI]at h1;exact U.qU h2 h1 (λb e=>by rw[<-ownB e];exact h3))
 have ax:(Value.slice la l.n lc).ownBlock≠some c:=λe=>U.nc<|.inl e;have ay:=O ax;clear ax
 go_cut [44] λ_ wx=>∃g3 t:Nat,AQ wx c o B (S9 g3 (l.n+1) t) v1 t2 (B3 l k v)/\CW c o (.slice la l.n lc) v1 t2 W2 (S9 g3 (l.n+1) t) v1 t2 wx
 case first=>
  clear R fm dw HS fu HH dh HK b3 dC ae af U dx hg j0 ji dr dt du
  go_region_law (refine To _ rfl (.tmp 33) (.tmp 41) 101 rfl B 166 i0 PZ 11 104 underlying101 hi fa fb fc rfl oo (.slice la l.n lc) l.n (pL l.L l.n) og (b8.alloc _) (G W2.heap.size 0) 1 1 (De ⟨k,v,l.turns+1⟩) og rfl (Is<|DD _ _) (Ff _) oo od om ot _ rfl ?_;intro g3 t w3 a7 cw a8 ag;have bt:=Oo cw;have fy:=z HG g3 t w3 a7 bt<|a8.imp id (λe=>by rw[e];simp);have e3:w3.heap[c]?=W2.heap[c]?:=bt.block c C λe=>ay e.symm;have x3:=(As (a:=G c o) e3).trans c0;have f3:=(ID (a:=G c o) e3).trans f0;have fE:=O fy;clear a7 cw bt fy e3 a8 HG b8 hi fa fb fc k0 k1 k2 k3 k4 q0 q1 q2 q3 q4 c0 c5)
  all_goals(go_wp2_with fail;go_meet;exact⟨_,_,fE.1,fE.2⟩)
 case rest=>
 obtain⟨g3,t,F,bj⟩:=hcut;obtain⟨W3,e⟩:=o9 wc;subst e;clear HG b8 ay c0 c5 f0 C k0 k1 k2 k3 k4 q0 q1 q2 q3 q4 bl hn ho;rcases O (ae.step bj),O<|af.step bj,O (dC.trans bj) with⟨bu,cx,fF⟩;have fI:Small<|B3 l k v:=⟨by show l.n+1<=_;omega,by show l.m<=_;omega,by show l.x<=_;have h:=R.sz;unfold Gr at h;omega⟩;rcases O fI,F.ints.at,F.index.at with⟨hp,⟨ia,ic,e1,b9⟩,⟨xa,xc,e2,ca⟩⟩;replace e1:v1=.slice ia l.m ic:=e1;replace e2:t2=.slice xa l.x xc:=e2;have di:Hid (0<l.m->∃g cp,v1=S9 g l.m cp):=O (λh=>by obtain⟨g,cp,h,_⟩:=F.ints.form h;exact⟨g,cp,h⟩);have b4:Hid (0<l.x->∃g cp,t2=S9 g l.x cp):=O (λh=>by obtain⟨g,cp,h,_⟩:=F.index.form h;exact⟨g,cp,h⟩);have fL:=O F;obtain⟨bl,k0,k1,k2,k3,k4⟩:=bu.box;have fS:Hl W3 c o (some<|G g3 0) t ia ic xa xc<|B3 l k v:=⟨F.lt,F.c0,by rw[F.c1,e1];rfl,by rw[F.c2,e2];rfl,F.c3,F.c4,F.c5,by obtain⟨a,cp,e,h⟩:=F.log.at;cases e;exact h,b9,ca⟩;subst e1 e2;have fT:=O fS;have ag:=F.lt;clear F bj fI b9 ca fS ae af U dC;go_wp2_with fail;refine m9 (Gw k fT hp) λw4 cb=>?_;rcases O (fL.below cb),O<|fF.trans<|CW.Ax cb ag,O<|bu.step<|CW.Ax (o:=o) cb ag,O (cx.step<|CW.Ax (o:=o) cb ag) with⟨H,cc,ar,cy⟩;clear cb fL fF bu cx fT ag bl k0 k1 k2 k3 k4;rcases ar.box,H.lt,H.c1 with⟨⟨bl,k0,k1,k2,k3,k4⟩,C,c1⟩;by_cases hs:Ay l.m k
 .rw[show tells (Ay (B3 l k v).m k)=true from Aj hs];have HR:Hid<|Bx hf l k v=Co l k v:=O (by unfold Bx;rw[C3 hs]);obtain⟨s1,s2,s3⟩:=hs;obtain⟨q,hq⟩:∃q:Nat,k.num=(q:Int)+1:=⟨(k.num-1).toNat,om⟩;have fV:q<l.m:=om;obtain⟨g,cp,eg⟩:=z di om;cases eg;obtain⟨g',hr,dU,hB,ea,hC,hcs,cd⟩:=H.ints.form (by show 0<l.m;omega);cases dU;have e0:=hcs q fV;have f0:=cd q;have eb:g≠c:=λe=>H.nc<|.inr<|.inl (by rw[<-e];rfl);have ib:IntKind.i64.wrap (q:Int)=q:=oj;have hd:=AQ.Zr (d:=B3 l k v) H fV<|(l.n:Int)+1;have cg:=cc.trans<|Fi (q:=q) (J<|(l.n:Int)+1) (.inr<|.inl rfl) eb;have HE:Hid<|{B3 l k v with I:=AU (B3 l k v).I q ((l.n:Int)+1)}=Co l k v:=O (by unfold Co;rw[hq,show((q:Int)+1-1).toNat=q by omega];rfl);have HD:=O hd;have dj:=O cg;rw[hq]at k1;clear hd cg hcs cd hq s1 s2 s3 di b4;go_wp2_with fail
  go_region
  go_wp2;refine GO (Aaw rfl _ _ _) rfl ?_;refine⟨⟨_,rfl⟩,_,_,_,?_,dj.trans<|CW.Ax (BE _ _).drew<|by simpa using C⟩;rw[z b3,z HR,<-z HE];exact HD.below (BE _ _).drew
 rw[show tells (Ay (B3 l k v).m k)=false from Ae hs];have fW:=O hs;clear hs;have ie:IntKind.i64.wrap ((l.m:Int)+1)=(l.m:Int)+1:=oj;by_cases hx:k.kind=2/\k.num=(l.m:Int)+1
 .have HR:Hid<|Bx hf l k v=CP hf (l.x+1) (Ch l k v):=O (by unfold Bx;rw[Cs (z fW),C3 hx]);have fX:=O<|IU dh R HK.1 HK.2.1 HK.2.2.1 HK.2.2.2 dw hx.1 hx.2 dx.1 hb.2;have au:(k.kind==2)=true:=by simp[hx.1]
  have bw:(k.num==(l.m:Int)+1)=true:=by simp[hx.2]
  clear hx;go_wp2_with fail;go_quiet (fail);obtain⟨W5,bm⟩:=o9<|w4.drewN nq;rw[<-bm];have T:B9 w4 W5:=by rw[bm];exact AH (BE _ _) _
  clear bm;have E:=O<|H.below T;have bn:=O<|cc.trans<|CW.Ax T C;clear T H cc ar cy c1 C bl k0 k1 k2 k3 k4 au bw;rcases E.c1,E.fz<|o+1,E.lt,E.base with⟨c1,f1,C,hD⟩;have ax:(Value.slice ia l.m ic).ownBlock≠some c:=λe=>E.nc<|.inr<|.inl e;have ay:=O ax;clear ax;have HG:Hid (∀(g4 aq:Nat) (w5:Y),w5.ownsRow B 3 1 (S9 g4 (l.m+1) aq) (l.m+1) (iL l.I l.m++[J ((l.n:Int)+1)])->W5.grownBy w5 (Value.slice ia l.m ic).ownBlock->((Value.slice ia l.m ic).ownBlock=some g4\/W5.heap.size<=g4)->
    AQ (w5.setCell (G c (o+1)) (S9 g4 (l.m+1) aq)) c o B (S9 g3 (l.n+1) t) (S9 g4 (l.m+1) aq) (.slice xa l.x xc) (Ch l k v)/\CW c o (S9 g3 (l.n+1) t) (.slice ia l.m ic) (.slice xa l.x xc) W5 (S9 g3 (l.n+1) t) (S9 g4 (l.m+1) aq) (.slice xa l.x xc) (w5.setCell (G c (o+1)) (S9 g4 (l.m+1) aq))):=O (λg4 aq w5 h1 h2 h3=>by
   rw[XQ]at h1;exact E.lT h2 h1 (λb e=>by rw[<-ownB e];exact h3))
  have ga:=O E.ints;have hE:Hid<|W5.heap.size=W5.heap.size:=O rfl;go_wp2_with (first|(at_builtin;refine RC _ rfl _ _ 91 rfl B 3 j0 (J 0) 1 8 underlying91 ji dr dt du rfl oo (.slice ia l.m ic) l.m (iL l.I l.m) rfl (ga.alloc _) (G W5.heap.size 0) 1 1 [J ((l.n:Int)+1)] rfl rfl (Is<|DD _ _) oh oo od om ot _ rfl ?_;intro g4 aq w5 bb cz bc eA;have dk:=TN cz;have gb:=z HG g4 aq w5 bb dk<|bc.imp id (λe=>by rw[e];simp);have e4:w5.heap[c]?=W5.heap[c]?:=dk.block c C λe=>ay e.symm;have x4:=(As (a:=G c<|o+1) e4).trans c1;have f4:=(ID (a:=G c<|o+1) e4).trans f1;have dm:=O gb;have eB:c<w5.heap.size:=A0 C dk.size;clear bb cz dk gb e4 bc)|go_in);obtain⟨WL,ec⟩:=o9<|w5.setCell (G c<|o+1)<|S9 g4 (l.m+1) aq;rw[<-ec]at dm;rw[<-ec];clear ec;have ch:=O dm.1;have bp:=O<|bn.trans dm.2;clear dm bn E HG ga ay hE x4 f4 eB c1 f1 C hD eA di b4;have hF:l.x<=4000:=by have h:=R.sz;unfold Gr at h;omega
  go_loopw [7] (λ_ wr=>∃(f:Nat) (r:Dc) (u1 u2:V9),CP hf f r=CP hf (l.x+1) (Ch l k v)/\FJ r.X r.x<f/\r.m+f=l.m+1+(l.x+1)/\BN K hf r/\r.n=l.n+1/\AQ wr c o B (S9 g3 (l.n+1) t) u1 u2 r/\CW c o v0 (.slice ia l.m ic) v2 w (S9 g3 (l.n+1) t) u1 u2 wr) λ_ wr=>(l.m+1+(l.x+1))-cY wr c o
  .exact⟨l.x+1,Ch l k v,_,_,rfl,by have:=Nx l.X l.x;show FJ l.X l.x<_;omega,rfl,fX,rfl,ch,bp⟩
  clear ch bp fX;obtain⟨f,r,u1,u2,gd,hX,ig,bx,dn,hd,cg⟩:=hrel;rcases hd.ints.at,hd.index.at,bx.sz with⟨⟨bq,br,e1,b9⟩,⟨hG,ef,e2,ca⟩,gf⟩;have ih:r.x<=4000:=by unfold Gr at gf;omega
  have b4:Hid (0<r.x->∃g cp,u2=S9 g r.x cp):=O (λh=>by obtain⟨g,cp,h,_⟩:=hd.index.form h;exact⟨g,cp,h⟩);have hP:Hl wr c o (some<|G g3 0) t bq br hG ef r:=⟨hd.lt,by rw[hd.c0,dn],by rw[hd.c1,e1],by rw[hd.c2,e2],hd.c3,hd.c4,hd.c5,by have hl:=hd.log;rw[dn]at hl;obtain⟨a,cp,e,h⟩:=hl.at;cases e;rw[dn];exact h,b9,ca⟩;have gg:Small r:=⟨om,om,om⟩;subst e1 e2;rcases O hP,O gg,O hd,O cg,O bx,O gd,hd.c1,hd.lt,O<|Uh hd.c1,O (HH _<|dh.own<|(r.m:Int)+1) with⟨HP,hH,HD,dj,av,eh,c1,C,eF,hJ⟩;have hY:IntKind.i64.wrap ((r.m:Int)+1)=(r.m:Int)+1:=oj;clear b9 ca hP gg hd cg bx gd gf;go_wp2_with fail;refine m9 (QX ((r.m:Int)+1) _) λw6 cj=>?_;rcases O (HP.below cj),O<|HD.below cj,O<|dj.trans<|CW.Ax cj C,A0 C cj.size with⟨gh,ch,cN,ah⟩;clear cj HP HD dj c1 C;go_wp2_with fail;have a9:=Km gh hH av.d4 hJ;refine m9 a9 λw7 ei=>?_;clear a9;have M:=O<|ch.below ei;have bz:=O<|cN.trans<|CW.Ax ei ah;clear ei gh ch cN ah;rcases M.c1,M.c2,M.fz<|o+1,M.lt,M.base with⟨c1,c2,f1,C,ij⟩;cases b5:A5 r (Dq<|(r.m:Int)+1) (hf<|Dq<|(r.m:Int)+1)with
  |none=>
   have eI:Hid<|r=CP hf (l.x+1) (Ch l k v):=O (by rw[<-z eh,F7 b5]);simp only[FF];clear b5 c1 c2 f1;go_wp2;refine GO (Aaw rfl _ _ _) rfl ?_;refine⟨⟨_,rfl⟩,_,_,_,?_,bz⟩;rw[z b3,z HR,<-z eI];exact M
  |some s=>
   obtain⟨aw,bh,bj,hO⟩:=av.slot b5;obtain⟨f',rfl⟩:∃f',f=f'+1:=⟨f-1,om⟩;have eP:Hid<|CP hf f' (DT r s)=CP hf (l.x+1) (Ch l k v):=O (by rw[<-z eh,F8 b5]);have dc:=O<|L0 dh av b5;have gi:=Ku bh r.x;rw[C3 aw]at gi;have eS:Hid<|FJ (DT r s).X (DT r s).x<f':=O (by show FJ (AU r.X s (-1)) r.x<f';omega);obtain⟨g,cp,eg⟩:=z b4 om;cases eg;obtain⟨g',hr,dU,hB,ea,hC,hcs,cd⟩:=M.index.form om;cases dU;have e0:=hcs s aw;have f0:=cd s;have eb:g≠c:=λe=>M.nc<|.inr<|.inr (by rw[<-e];rfl);have hQ:0<r.X s/\r.X s<=1001:=⟨bh,oS bj.1⟩;simp only[FF];clear b5 bh bj hO hcs cd gi hQ;go_wp2_with fail;have b8:Hid<|Bo w7.drew B (.slice bq r.m br) r.m r.I:=O M.ints.drew;have ax:(Value.slice bq r.m br).ownBlock≠some c:=λe=>M.nc<|.inr<|.inl e;have gj:(Value.slice bq r.m br).ownBlock≠some g:=λe=>M.ap g e rfl;have ay:=O<|qj ax gj;have HG:Hid (∀(g5 az:Nat) (w9:Y),w9.ownsRow B 3 1 (S9 g5 (r.m+1) az) (r.m+1) (iL r.I r.m++[J (r.X s)])->w7.grownBy w9 (Value.slice bq r.m br).ownBlock->((Value.slice bq r.m br).ownBlock=some g5\/w7.heap.size<=g5)->
     AQ ((w9.setCell (G c (o+1)) (S9 g5 (r.m+1) az)).setCell (G g s) (J (-1))) c o B (S9 g3 (l.n+1) t) (S9 g5 (r.m+1) az) (S9 g r.x ef) (DT r s)/\CW c o v0 (.slice ia l.m ic) v2 w (S9 g3 (l.n+1) t) (S9 g5 (r.m+1) az) (S9 g r.x ef) ((w9.setCell (G c (o+1)) (S9 g5 (r.m+1) az)).setCell (G g s) (J (-1)))):=O (λg5 az w9 h1 h2 h3=>by
    rw[XQ]at h1;obtain⟨a1,a2⟩:=M.lT h2 h1 (λb e=>by rw[<-ownB e];exact h3);exact⟨AQ.Uz (d:={r with m:=r.m+1,I:=AU r.I r.m (r.X s)}) a1 (i:=s) aw (-1),(bz.trans a2).trans (Fi (q:=s) (J (-1)) (.inr (.inr rfl)) eb)⟩)
   clear ax gj M bz av eh b4
   go_region_law (refine To _ rfl (.tmp 98) (.tmp 106) 91 rfl B 3 j0 (J 0) 1 8 underlying91 ji dr dt du rfl oo (.slice bq r.m br) r.m (iL r.I r.m) og (b8.alloc _) (G w7.heap.size 0) 1 1 [J (r.X s)] og rfl (Is<|DD _ _) oh oo od om ot _ rfl ?_;intro g5 az w9 bd c6 bf hZ;have b6:=Oo c6;have gl:=z HG g5 az w9 bd b6<|bf.imp id (λe=>by rw[e];simp);have e5:w9.heap[c]?=w7.heap[c]?:=b6.block c C λe=>ay.1 e.symm;have e6:w9.heap[g]?=w7.heap[g]?:=b6.block g ea λe=>ay.2 e.symm;have x5:=(As (a:=G c<|o+1) e5).trans c1;have x6:=(As (a:=G c<|o+2) e5).trans c2;have y5:=(As (a:=G g s) e6).trans e0;have z5:=(ID (a:=G g s) e6).trans f0;have f5:=(ID (a:=G c<|o+1) e5).trans f1;have h0:=A0 C b6.size;have h4:=A0 ea b6.size;have ej:=O gl;clear bd c6 b6 gl e5 e6 bf HG)
   all_goals
    go_wp2;go_roundw
    .exact⟨f',DT r s,_,_,eP,eS,by show r.m+1+f'=_;omega,dc,dn,ej.1,ej.2⟩
    rw[Uh (z ej).1.c1,z eF];omega
 have HR:Hid<|Bx hf l k v=AR hf (B3 (C4 hf l) k v) k l.n:=O (by unfold Bx;rw[Cs (z fW),Cs hx]);have hF:l.x<=4000:=by have h:=R.sz;unfold Gr at h;omega
 have ik:0<=l.used/\l.used<=4000:=by have h1:=R.used;have h2:=Yl l.X l.x;omega
 have ao:Hid<|∀(Q:Prop),(k.kind≠2->Q)->(k.kind=2->k.num≠(l.m:Int)+1->Q)->Q:=O (λQ h1 h2=>by
  by_cases e:k.kind=2
  .exact h2 e λe'=>hx ⟨e,e'⟩
  exact h1 e)
 clear hx;have c2:=H.c2;have c3:=H.c3;have bg:(B3 l k v).used=l.used:=rfl;rw[bg]at c3;obtain⟨lb,hR,ek,hT,gm,eT,ai,aj⟩:=H.log.form (by show 0<l.n+1;omega);cases ek;have ck:=(ai l.n<|by show l.n<l.n+1;omega).tn;have hL:(B3 l k v).L l.n=⟨k,v,l.turns+1⟩:=BX;rw[hL]at ck;have ck:w4.cell? (G g3<|l.n*11+10)=some (J<|l.turns+1):=ck;have gn:=aj<|l.n*11+10;have il:IntKind.i64.wrap (l.used+1)=l.used+1:=oj;have im:IntKind.i64.wrap (2*(l.used+1))=2*(l.used+1):=oj;have c0:=H.c0;have iq:(B3 l k v).n=l.n+1:=rfl;have b0:g3≠c:=λe=>H.nc<|.inl (by rw[<-e];rfl);have ad:=O<|Hb R dx.1;clear ai aj hL bg di b4;refine ao _ (λDt=>?_) λDt gp=>?_
 focus
  have au:(k.kind==2)=false:=by simp[Dt]
  clear Dt ao;go_wp2_with fail;go_quiet (fail)
 rotate_left
 focus
  have au:(k.kind==2)=true:=by simp[Dt]
  have bw:(k.num==(l.m:Int)+1)=false:=by simp[gp]
  clear Dt gp ao;go_wp2_with fail;go_quiet (fail);clear bw
 all_goals
  obtain⟨W5,bm⟩:=o9<|w4.drewN nq;rw[<-bm];have T:B9 w4 W5:=by rw[bm];exact AH (BE _ _) _
  clear bm;rcases O (H.below T),O<|cc.trans<|CW.Ax T C,O (ar.step<|CW.Ax (o:=o) T C) with⟨E,bn,b1⟩;have c0:=E.c0;have c2:=E.c2;have c3:W5.cell? (G c<|o+3)=some (J l.used):=E.c3;rcases (T.cell gm).trans ck,(T.frozen gm).trans gn,A0 C T.size with⟨ck,gn,C⟩;clear bl k0 k1 k2 k3 k4;obtain⟨bl,k0,k1,k2,k3,k4⟩:=b1.box;clear T H cc ar cy au;by_cases P:(l.x:Int)<2*(l.used+1)
  .have dp:Hid<|C4 hf l=A3 hf l 1:=O<|C3 P;have hU:decide ((l.x:Int)<2*(l.used+1))=true:=by simp[P]
   have h5:=R.core.cG;have eo:BV l l.n+1<=500:=om;have hz:AQ (W5.setCell (G g3<|l.n*11+10)<|J 0) c o B (S9 g3 (l.n+1) t) (.slice ia l.m ic) (.slice xa l.x xc)<|Eg l k v:=by
    have h:=AQ.rT (d:=B3 l k v) E (i:=l.n) (by show l.n<l.n+1;omega) 10 om (J 0) ⟨k,v,0⟩<|qh BX;refine h.of_same rfl (λi _=>?_) rfl (λ_ _=>rfl) rfl (λ_ _=>rfl) rfl rfl rfl;show AU l.L l.n ⟨k,v,0⟩ i=AU (AU l.L l.n ⟨k,v,l.turns+1⟩) l.n ⟨k,v,0⟩ i;rw[Yk]
   have gq:=bn.trans<|Fi (v2:=.slice xa l.x xc) (q:=l.n*11+10) (J 0) (.inl rfl) b0;have c7:CW c o (S9 g3 (l.n+1) t) (.slice ia l.m ic) (.slice xa l.x xc) W5 (S9 g3 (l.n+1) t) (.slice ia l.m ic) (.slice xa l.x xc)<|W5.setCell (G g3<|l.n*11+10)<|J 0:=Fi (q:=l.n*11+10) (J 0) (.inl rfl) b0;have HZ:=O<|hz.below (BE _ _).drew;have gu:=O<|gq.trans<|CW.Ax (BE _ _).drew (by simpa using C);have gv:=O<|(b1.step c7).step<|CW.Ax (o:=o) (BE _ _).drew (by simpa using C);have gw:Small<|Eg l k v:=⟨by show l.n+1<=_;omega,by show l.m<=_;omega,by show l.x<=_;omega⟩;have gx:=O gw;have gy:Hid<|∀i,i<(Eg l k v).n->AP (Eg l k v) i->Yo ((Eg l k v).L i).key (hf ((Eg l k v).L i).key):=O (λi hi hx=>by
    have hi:i<l.n+1:=hi;by_cases e:i=l.n
    .subst e;exact absurd hx LJ
    have ep:i<l.n:=om;rw[NZ ep];exact HH _ (R.keys i ep (oS ((Hv ep).1 hx).1)))
   clear hz gq c7 gw P E bn b1 bl k0 k1 k2 k3 k4;go_wp2_with fail
   go_region
   go_wp2_with fail
   refine(JZ hf 1 HZ gx (by rw[LI];exact eo) gy).mono ?_;rintro e w6 ⟨⟨u9,rfl⟩,t9,gE,eu⟩;have c8:=O<|gv.step eu;have bp:=O<|gu.trans eu;have A:=Pk (hf:=hf) (d:=Eg l k v) (by rw[LI];exact eo);have iu:(A3 hf (Eg l k v) 1).n=l.n+1:=A.n;have b7:AQ w6 c o B (S9 g3 (l.n+1) t) (.slice ia l.m ic) t9 {Eg l k v with x:=(A3 hf (Eg l k v) 1).x,X:=(A3 hf (Eg l k v) 1).X,used:=(A3 hf (Eg l k v) 1).used}:=gE.of_same A.n.symm (λi _=>by rw[A.L]) A.m.symm (λi _=>by rw[A.I]) rfl (λ_ _=>rfl) rfl A.live.symm A.turns.symm;obtain⟨lb,hR,ek,hT,h6,eT,ai,aj⟩:=b7.log.form (by show 0<l.n+1;omega);cases ek;have c9:=(ai l.n<|by show l.n<l.n+1;omega).tn;have h7:=aj<|l.n*11+10;have iv:w6.cell? (G g3<|l.n*11+10)=some (J 0):=by
    have hL:(Eg l k v).L l.n=⟨k,v,0⟩:=Au _ _ _;have h:=c9;rw[hL]at h;exact h
   have ah:=b7.lt;have iw:=b7.c0;have ix:w6.cell? (G c<|o+5)=some (J<|l.turns+1):=b7.c5;have h8:AQ (w6.setCell (G g3<|l.n*11+10)<|J<|l.turns+1) c o B (S9 g3 (l.n+1) t) (.slice ia l.m ic) t9<|B3 (C4 hf l) k v:=by
    have h:=AQ.rT (d:={Eg l k v with x:=(A3 hf (Eg l k v) 1).x,X:=(A3 hf (Eg l k v) 1).X,used:=(A3 hf (Eg l k v) 1).used}) b7 (by show l.n<l.n+1;omega) 10 om (J<|l.turns+1) ⟨k,v,l.turns+1⟩ (by show _=(De<|(Eg l k v).L l.n).set 10 _;rw[show(Eg l k v).L l.n=⟨k,v,0⟩from Au _ _ _];rfl);rw[z dp,<-RK eo];refine h.of_same A.n (λi _=>?_) A.m (λi _=>by rw[show({A3 hf (Eg l k v) 1 with L:=AU l.L l.n ⟨k,v,l.turns+1⟩}:Dc).I=(A3 hf (Eg l k v) 1).I from rfl,A.I]) rfl (λ_ _=>rfl) rfl A.live A.turns;show AU l.L l.n ⟨k,v,l.turns+1⟩ i=AU (AU l.L l.n ⟨k,v,0⟩) l.n ⟨k,v,l.turns+1⟩ i;rw[Yk]
   have b2:CW c o (S9 g3 (l.n+1) t) (.slice ia l.m ic) t9 w6 (S9 g3 (l.n+1) t) (.slice ia l.m ic) t9<|w6.setCell (G g3<|l.n*11+10)<|J<|l.turns+1:=Fi (q:=l.n*11+10) (J<|l.turns+1) (.inl rfl) b0;have gN:=O<|h8.below (BE _ _).drew;have gS:=O<|(bp.trans b2).trans<|CW.Ax (BE _ _).drew (by simpa using ah);have da:=O<|(c8.step b2).step<|CW.Ax (o:=o) (BE _ _).drew (by simpa using ah);clear gE eu b7 h8 b2 ai aj c9 A HZ gu gv c8 bp gy gx;go_wp2_with fail
   go_region
   obtain⟨W8,ev⟩:=o9<|(w6.setCell (G g3<|l.n*11+10)<|J<|l.turns+1).drew;rw[<-ev];rw[<-ev]at gN gS da;clear ev;rcases da.box,ad.1,ad.2.1 with⟨⟨bl,k0,k1,k2,k3,k4⟩,aM,dq⟩;have cl:=aM.sz;have ew:=aM.used;have cm:=cl.resolve_left om;have cn:=z HH k HK.1;have D:=O<|qj cm<|qj (show B1 (C4 hf l).X (C4 hf l).x<(C4 hf l).x by omega)<|qj (show 0<=(C4 hf l).used/\(C4 hf l).used<=4000 by omega) cn;clear aM dq cl ew cm cn;go_wp2_with fail;refine(I5 hf c o B _ _ t9 (B3 (C4 hf l) k v) k l.n _ gN D.1 D.2.1 D.2.2.1 om D.2.2.2).mono ?_;rintro e w9 ⟨⟨⟨u8,rfl⟩,cq⟩,cr⟩;have ey:=O cq;have ez:=O<|gS.trans cr;clear cq cr;go_wp2;go_end0;exact⟨⟨_,rfl⟩,_,_,_,by rw[z b3,z HR];exact ey,ez⟩
  have dp:Hid<|C4 hf l=l:=O<|Cs P;have hU:decide ((l.x:Int)<2*(l.used+1))=false:=by simp[P]
  have aM:=ad.1;have dq:=ad.2.1;rw[z dp]at aM dq;have cl:=aM.sz;have ew:=aM.used;have cm:=cl.resolve_left om;have cn:=z HH k HK.1;rcases O (qj cm<|qj (show B1 l.X l.x<l.x by omega)<|qj (show 0<=l.used/\l.used<=4000 by omega) cn),O<|E.below (BE _ _).drew,O (bn.trans<|CW.Ax (BE _ _).drew C) with⟨D,hV,bp⟩;clear aM dq cl ew cm cn P E bn;go_wp2_with fail
  go_region
  go_wp2_with fail
  refine(I5 hf c o B _ _ (.slice xa l.x xc) (B3 l k v) k l.n _ hV D.1 D.2.1 D.2.2.1 om D.2.2.2).mono ?_;rintro e w9 ⟨⟨⟨u8,rfl⟩,cq⟩,cr⟩;have ey:=O cq;have ez:=O<|bp.trans cr;clear cq cr;go_wp2;go_end0;exact⟨⟨_,rfl⟩,_,_,_,by rw[z b3,z HR,z dp];exact ey,ez⟩
def AQ.mE{k}(h:AQ w c o B (S9 g d.n k) v1 v2 d){i}(hi:i<d.n)a us p(s:a+us.length<=11)(hp:∀j,(De p)[j]?=if a<=j/\j<a+us.length then us[j-a]? else(De<|d.L i)[j]?):
  AQ (He g w (i*11+a) us) c o B (S9 g d.n k) v1 v2 {d with L:=AU d.L i p}/\CW c o (S9 g d.n k) v1 v2 w (S9 g d.n k) v1 v2 (He g w (i*11+a) us):=by
 obtain⟨s1,s2,l,m⟩:=Rl (g:=g) us w<|i*11+a;have hc:c≠g:=λe=>h.nc<|.inl<|qh e;have eb:=Pu (g:=g) us w<|i*11+a;have f:∀q,(He g w (i*11+a) us).cell? (G c q)=w.cell? (G c q):=λq=>As<|eb c hc;have hl:=Us us w (i*11+a) _ h.log;rw[kH d.L i a us p hi s hp]at hl;have r:w.grownBy (He g w (i*11+a) us)<|some g:=⟨s2,l,m,Nat.le_of_eq s1.symm,λb _ hb=>eb b λe=>hb<|by rw[e]⟩;have t:=T3 h.ints r (λb e=>by cases e;exact DM h.log h.ints rfl);have kx:=T3 h.index r (λb e=>by cases e;exact DM h.log h.index rfl);exact⟨⟨by rw[s1];exact h.lt,(f _).trans h.c0,(f _).trans h.c1,(f _).trans h.c2,(f _).trans h.c3,(f _).trans h.c4,(f _).trans h.c5,λq=>(ID<|eb c hc).trans<|h.fz q,hl,t,kx,h.ap,h.nc,by rw[s1];exact h.base⟩,⟨s2,l,m,Nat.le_of_eq s1.symm,λb _ _ u=>eb b λe=>u<|.inl<|qh e,λq _=>f q,λb e=>.inl e,.same<|eb c hc⟩⟩
def AQ.kill(h:AQ w c o B (S9 g d.n a) v1 v2 d){i}(hi:i<d.n):
  AQ (He g w (i*11+0)<|De default) c o B (S9 g d.n a) v1 v2 {d with L:=AU d.L i default}/\CW c o (S9 g d.n a) v1 v2 w (S9 g d.n a) v1 v2 (He g w (i*11+0)<|De default):=
 h.mE hi 0 (De default) default (by simp[De]) (λj=>by
  by_cases e:j<11
  .rw[C3 (by simp[De];omega),Nat.sub_zero]
  rw[List.getElem?_eq_none (by simp[De];omega),Cs (by simp[De];omega),List.getElem?_eq_none (by simp[De];omega)])
abbrev vL(v:Vl):List Value:=[J v.kind,J v.num,F9 v.Af,.string v.str,J v.ref]
def AQ.uA(h:AQ w c o B (S9 g d.n a) v1 v2 d){i}(hi:i<d.n)v:
  AQ (He g w (i*11+5)<|vL v) c o B (S9 g d.n a) v1 v2 (Jf d i v)/\CW c o (S9 g d.n a) v1 v2 w (S9 g d.n a) v1 v2 (He g w (i*11+5)<|vL v):=
 h.mE hi 5 (vL v) ⟨(d.L i).key,v,(d.L i).turn⟩ oq (λj=>by
  match j with
  |0|1|2|3|4|5|6|7|8|9|10=>rfl
  |n+11=>rw[Cs oq,List.getElem?_eq_none (by simp[De]),List.getElem?_eq_none (by simp[De])])
def eN{m}{f}(hf:∀i,(f i).length=m){n}i a us p(hi:i<n)(l:a+us.length<=m)(hl:p.length=m)(hp:∀j,p[j]?=if a<=j/\j<a+us.length then us[j-a]? else(f i)[j]?):Ma (Je f n) (i*m+a) us=Je (AX f i p) n:=by
 have c:∀k,(AX f i p k).length=m:=λk=>by
  by_cases e:k=i
  .rw[e,Ai];exact hl
  rw[Ak _ _ e];exact hf k
 have b:=Cm hf n;have d:i*m+m<=n*m:=by rw[<-Nat.succ_mul];exact Aap _ hi
 apply AaS;intro q;rw[UN _ _ _ _ (by rw[b];omega)];by_cases hq:q<n*m
 .have g:0<m:=by grind [Ma,Je,AX]
  have h2:q%m<m:=VC _ g;have e1:q=q/m*m+q%m:=by have:=Nat.div_add_mod q m;rw[AaL]at this;omega
  have h1:q/m<n:=by
   refine Nat.lt_of_not_le λh=>?_;have:=Aap m h;omega
  have g1:(Je f n)[q]?=(f<|q/m)[q%m]?:=by have:=Ik hf h1 h2;rwa [<-e1]at this
  have g2:(Je (AX f i p) n)[q]?=(AX f i p<|q/m)[q%m]?:=by have:=Ik c h1 h2;rwa [<-e1]at this
  rw[g2];by_cases e:q/m=i
  .grind [Ma,Je,AX,Ai]
  rw[Ak _ _ e,g1,Cs];rcases Nat.lt_or_gt_of_ne e with h|h
  .have:=Aap m h;grind
  have:=Aap m h;grind
 grind [Ma,Je,AX,Cm]
def gH H T{n}i h t a us(hi:i<n)(b:a+us.length<=8)(hp:∀j,(Ip h t)[j]?=if a<=j/\j<a+us.length then us[j-a]? else(Ip (H i)<|T i)[j]?):Ma (Ro H T n) (i*8+a) us=Ro (AX H i h) (AX T i t) n:=by
 unfold Ro;rw[eN (m:=8) (λ_=>rfl) i a us (Ip h t) hi b rfl hp];grind [Ip,Ma,Ro,AX,C6,Ai,Ak]
section
variable {w W:Y} {c B:Nat} {vF vT vS:V9} {H:Nat->Hs} {s:AK}
def SM.Gi(h:SM w c B vF vT vS H s){t g E}(o:t<s.nt)(A:vT=S9 g s.nt E)(hb:∀k,k<w.heap.size->¬(H t).own k->W.heap[k]?=w.heap[k]?)(b:W.os=w.os/\W.tape=w.tape/\W.output=w.output/\w.heap.size<=W.heap.size)(a)(us){h'}{t'}(F:a+us.length<=8)(hp:∀j,(Ip h' t')[j]?=if a<=j/\j<a+us.length then us[j-a]? else(Ip (H t)<|s.T t)[j]?)
  (h1:BW W B h'.v t'.nv t'.V) (h2:BP W B h'.l t'.d.n t'.d.L) (h3:Bo W B h'.i t'.d.m t'.d.I) (h4:Bo W B h'.x t'.d.x t'.d.X) (h5:∀q,h'.i.ownBlock=some q->h'.x.ownBlock≠some q) (C:∀q,h'.own q->(H t).own q\/w.heap.size<=q):
  SM (He g W (t*8+a) us) c B vF vT vS (AX H t h') (BJ s t t')/\BF (Bn c vF vT vS H s.nt) w (Bn c vF vT vS (AX H t h') s.nt) (He g W (t*8+a) us):=by
 obtain⟨s1,s2,K,M⟩:=Rl (g:=g) us W<|t*8+a;have eb:=Pu (g:=g) us W<|t*8+a;have f:vT.ownBlock=some g:=qh A
 have r:=(h.t.lt g f).2;have p:∀q,h'.own q->q≠g:=λq e e'=>by
  rcases C q e with h7|h7
  .exact(h.apart o h7).2.2.1 (by rw[e'];exact f)
  omega
 have u:¬(H t).own g:=λe=>(h.apart o e).2.2.1 f;refine h.table o ⟨s2.trans b.1,K.trans b.2.1,M.trans b.2.2.1,by rw[s1];exact b.2.2.2⟩ (λk k1 k2 k3=>(eb k λe=>k2<|by rw[e];exact f).trans<|hb k k1 k3) ?_ (Ab h1 λq e=>eb q<|p q<|.inl e) (Ab h2 λq e=>eb q<|p q<|.inr<|.inl e) (Ab h3 λq e=>eb q<|p q<|.inr<|.inr<|.inl e) (Ab h4 λq e=>eb q<|p q<|.inr<|.inr<|.inr e) h5 C;have D:Ti W B vT s.nt H s.T:=Ab h.t λq e=>by
  rw[f]at e;cases e;exact hb g r u
 rw[A]at D ⊢;have:=Us (g:=g) us W (t*8+a) _ D
 rwa [gH H s.T t h' t' a us o F hp]at this
end
def IJ(b a nv vc k:Nat)(v:Vl)(W:Y):Prop:=W.cell? (G b 1)=some (S9 a nv vc)/\W.cell? (G a<|k*5)=some (J v.kind)/\W.cell? (G a<|k*5+1)=some (J v.num)/\W.cell? (G a<|k*5+2)=some (F9 v.Af)/\W.cell? (G a<|k*5+3)=some (.string v.str)/\W.cell? (G a<|k*5+4)=some (J v.ref)
def IJ.of{nv vc k}{W'}(h:IJ a b nv vc k v W)(h1:W'.heap[a]?=W.heap[a]?)(h2:W'.heap[b]?=W.heap[b]?):IJ a b nv vc k v W':=
 ⟨(As h1).trans h.1,(As h2).trans h.2.1,(As h2).trans h.2.2.1,(As h2).trans h.2.2.2.1,(As h2).trans h.2.2.2.2.1,(As h2).trans h.2.2.2.2.2⟩
def Vq(c db g nt a:Nat)(u0 u1 u2:V9)(d:Dc)(W:Y):Prop:=W.cell? (G c 1)=some (S9 g nt a)/\W.cell? (G db 0)=some u0/\W.cell? (G db 1)=some u1/\W.cell? (G db 2)=some u2/\W.cell? (G db 3)=some (J d.used)/\W.cell? (G db 4)=some (J d.live)/\W.cell? (G db 5)=some (J d.turns)
def Sd(t j:Nat){w}(hM:SM w c B vF vT vS H s)(hG:Ls s)(ht:t<s.nt)(az:(s.T t).shape=j)(hj:j<s.nf)(ao:(s.T t).nv=nf s.F j)(aq:∀i,i<(s.T t).nv->J2 ((s.T t).V i)=true):
  C9 88 #[Q9 c,J t] w λe w'=>(∃u,e=.returned u)/\∃h',SM w' c B vF vT vS (AX H t h') (BJ s t ⟨-1,0,(s.T t).V,AA s.F j (s.T t).V (s.T t).nv⟩)/\BF (Bn c vF vT vS H s.nt) w (Bn c vF vT vS (AX H t h') s.nt) w':=by
 obtain⟨aM,bq,br,_,bt⟩:=Av hG.f;have bu:0<s.nf:=oS aM.1;obtain⟨g,cp,rfl,hg,_,hc,a6⟩:=hM.CU ht;obtain⟨fb,fc,rfl,bw,_,hF⟩:=hM.Ob bu;rcases hM.cells,hM.lt,AE<|hM.v t ht,(hM.l t ht).at,(hM.i t ht).at,(hM.x t ht).at,hM.v t ht with⟨⟨c0,c1,c2,_⟩,a7,⟨va,vc,ev⟩,⟨la,lc,el,bx⟩,⟨ia,ic,ei,bz⟩,⟨xa,xc,ex,b0⟩,au⟩;rw[ev]at au;obtain⟨y0,y1,y2,y3,y4,y5,y6,y7⟩:=qd hc;rw[ev]at y1;rw[el]at y2;rw[ei]at y3;rw[ex]at y4;rw[az]at y0;simp only[Aau]at y0;have cj:(s.T t).nv<=12:=by rw[ao];exact IB hG.f hj
 have a8:Hid<|∀i,i<=(s.T t).nv->RB s.F j (s.T t).V i (AA s.F j (s.T t).V i):=O λi hi=>FQ hG.f hj (λq hq=>aq q om) i om;have ax:Hid<|∀k,k<(s.T t).nv->AA s.F j (s.T t).V (k+1)=IX hN (AA s.F j (s.T t).V k) (BL<|DK s.F j k) ((s.T t).V k)/\Ky (BL<|DK s.F j k)/\((s.T t).V k).ok=true/\((s.T t).V k).kind≠0/\(∀i,i<(AA s.F j (s.T t).V k).n->((AA s.F j (s.T t).V k).L i).turn≠0->AF ((AA s.F j (s.T t).V k).L i).key (BL<|DK s.F j k)=false):=O (λk hk=>by
  have hl:=(a8 k om).ls;have hky:=GK<|G3 hG.f hj (show k<nf s.F j by omega);have hv':((s.T t).V k).ok=true/\((s.T t).V k).kind≠0:=by simpa[J2]using aq k hk
  exact⟨(Kp hG.f hj hl om (aq k hk)).1,hky,hv'.1,hv'.2,hl.no hG.f hj om⟩)
 obtain⟨W,hW,C,ck,o0,_⟩:=S7 w (.cells #[J (j:Int),.slice va (s.T t).nv vc,.slice la (s.T t).d.n lc,.slice ia (s.T t).d.m ic,.slice xa (s.T t).d.x xc,J (s.T t).d.used,J (s.T t).d.live,J (s.T t).d.turns] 105)<|.cells #[N9,N9,N9,J 0,J 0,J 0] 103;obtain⟨x0,x1,_⟩:=v8 o0;have bb:AQ W (w.heap.size+1) 0 B N9 N9 N9 kD:=⟨om,by rw[hW];simp[go_sem],by rw[hW];simp[go_sem],by rw[hW];simp[go_sem],by rw[hW];simp[go_sem,kD],by rw[hW];simp[go_sem,kD],by rw[hW];simp[go_sem,kD],λq=>by rw[hW];simp[go_sem],NB _ _ _ _,NB _ _ _ _,NB _ _ _ _,λq e=>(by cases e),(by rintro(e|e|e)<;>cases e),oS hM.base⟩;have z0:=(C.cell a7).trans c0;have z1:=(C.cell a7).trans c1;have lw:w.heap.size<W.heap.size:=om;have b1:c<W.heap.size:=om;have b2:fb<W.heap.size:=om;rcases O (hF.below C bw),Wo au C,O hc,O (λq=>(C.frozen hg).trans<|a6 q) with⟨b3,bc,HY,b4⟩;clear hG bt hF bx bz b0 hc aq az ev el ei ex a6;obtain⟨n,hn⟩:=o9<|nf s.F j;rw[<-hn]at ao;have b5:=O hn;have ai:=O ao;clear ao;go_enter func88,ntmps88;go_upto_region 2 with fail
 rw[<-hW];clear hW y0 y1 y2 y3 y4 y5 y6 y7 c0 c1 c2
 go_region_law (go_simp;go_at_call 95;refine(Hz fc j (b3.below (BE _ _).drew b2) aM bq br hj).mono ?_;rintro e w1 ⟨⟨m',rfl,hm,ad⟩,D⟩;rw[<-hn]at ad;have y1:=oT D lw x1;have cl:w.heap.size+1<w1.heap.size:=(by have:W.heap.size<=w1.heap.size:=D.size;omega);have b6:=H8 ad;have ae:B9 W w1:=⟨D.os,D.tape,D.output,D.size,λk hk=>D.block k hk⟩;have b7:=O<|bb.below ae;have b8:=O<|Wo bc ae;have ah:=O ae;have b9:=O ad;have cm:W.heap.size<=m':=hm;clear D ae ad hm)
 all_goals
  clear hn x0 x1 z0 bc bb;go_wp2;simp only[Act.put,AaQ,AaF,AaE,Aac,AaY,AaX];rw[<-z b5];go_loopw [23] (λi wr=>∃(k:Nat) (u0 u1 u2:V9),k<=n/\i=J k/\AQ wr (w.heap.size+1) 0 B u0 u1 u2 (AA s.F j (s.T t).V k)/\CW (w.heap.size+1) 0 N9 N9 N9 w1 u0 u1 u2 wr) (λi _=>n-(intOf i).toNat)
  .exact⟨0,_,_,_,om,rfl,b7,CW.refl _ _ _ _ _ _⟩
  obtain⟨k,u0,u1,u2,hk,rfl,A,o⟩:=hrel;have a:∀b,b<w1.heap.size->b≠w.heap.size+1->wr.heap[b]?=w1.heap[b]?:=λb h1 h2=>o.block b h1 h2 (by rintro(e|e|e)<;>cases e);have cn:=o.size;by_cases ca:k<n
  case neg=>
   have cb:k=n:=om;subst cb;have cq:=O o;obtain⟨E,I,M,P,Q,R,rfl,rfl,rfl,_⟩:=A.ptr;have r:∀b,b<w.heap.size->wr.heap[b]?=w.heap[b]?:=λb h=>(a b om om).trans<|(ah.block b om).trans<|C.block b h;rcases (As<|r g hg).trans (HY 0 _ rfl),(As<|r g hg).trans<|HY 1 _ rfl,(As<|r g hg).trans<|HY 2 _ rfl,(As<|r g hg).trans<|HY 3 _ rfl,(As<|r g hg).trans<|HY 4 _ rfl,(As<|r g hg).trans<|HY 5 _ rfl,(As<|r g hg).trans<|HY 6 _ rfl,(As<|r g hg).trans (HY 7 _ rfl) with⟨y0,y1,y2,y3,y4,y5,y6,y7⟩;simp only[Aau]at y0;have aj:=O (SM.Gi hM (t:=t) (W:=wr) ht rfl (λb h _=>r b h) ⟨o.os.trans<|ah.os.trans C.os,o.tape.trans<|ah.tape.trans C.tape,o.output.trans<|ah.output.trans C.output,om⟩ 0 (Ip ⟨N9,.slice E (AA s.F j (s.T t).V k).n I,.slice M (AA s.F j (s.T t).V k).m P,.slice Q (AA s.F j (s.T t).V k).x R⟩ ⟨-1,0,(s.T t).V,AA s.F j (s.T t).V k⟩) (h':=⟨N9,.slice E (AA s.F j (s.T t).V k).n I,.slice M (AA s.F j (s.T t).V k).m P,.slice Q (AA s.F j (s.T t).V k).x R⟩) (t':=⟨-1,0,(s.T t).V,AA s.F j (s.T t).V k⟩) (by simp[Ip]) (λq=>by
    by_cases e:q<8
    .rw[C3 (by simp[Ip];omega),Nat.sub_zero]
    .rw[Cs (by simp[Ip];omega),List.getElem?_eq_none (by simp[Ip];omega),List.getElem?_eq_none (by simp[Ip];omega)]) (NB _ _ _ _) A.log A.ints A.index A.ap (by
    rintro q (e|e)
    .cases e
    rcases o.sub q e with e'|e'
    .rcases e' with e'|e'|e'<;>cases e'
    exact .inr om))
   have bd:=a g om om;have bf:=a c om om;have Z:Vq c (w.heap.size+1) g s.nt cp (.slice E (AA s.F j (s.T t).V k).n I) (.slice M (AA s.F j (s.T t).V k).m P) (.slice Q (AA s.F j (s.T t).V k).x R) (AA s.F j (s.T t).V k) wr.drew:=⟨(As bf).trans<|(ah.cell (p:=G c 1) b1).trans z1,A.c0,A.c1,A.c2,A.c3,A.c4,A.c5⟩;have cc:Hid<|∀q,wr.frozen? (G g q)=false:=O λq=>(ID bd).trans<|o7 ah (by show g<W.heap.size;omega)<|b4 q;have cr:=z cc;have cd:c≠g:=λe=>hM.Ba hM.t oo<|qh e;obtain⟨W8,ar⟩:∃W8:World,W8=((((((((wr.setCell (G g<|t*8)<|J (-1)).setCell (G g<|t*8+1) N9).setCell (G g<|t*8+2)<|.slice E (AA s.F j (s.T t).V k).n I).setCell (G g<|t*8+3)<|.slice M (AA s.F j (s.T t).V k).m P).setCell (G g<|t*8+4)<|.slice Q (AA s.F j (s.T t).V k).x R).setCell (G g<|t*8+5)<|J (AA s.F j (s.T t).V k).used).setCell (G g<|t*8+6)<|J (AA s.F j (s.T t).V k).live).setCell (G g<|t*8+7)<|J (AA s.F j (s.T t).V k).turns):=⟨_,rfl⟩;have S:∀b,b≠g->W8.heap[b]?=wr.heap[b]?:=λb hb=>by
    rw[ar];iterate 8 rw[At _ _ _ _ (by exact hb)]
   have cg:Hid<|Vq c (w.heap.size+1) g s.nt cp (.slice E (AA s.F j (s.T t).V k).n I) (.slice M (AA s.F j (s.T t).V k).m P) (.slice Q (AA s.F j (s.T t).V k).x R) (AA s.F j (s.T t).V k) W8.drew:=O ⟨(As<|S c cd).trans Z.1,(As<|S (w.heap.size+1) om).trans A.c0,(As<|S (w.heap.size+1) om).trans A.c1,(As<|S (w.heap.size+1) om).trans A.c2,(As<|S (w.heap.size+1) om).trans A.c3,(As<|S (w.heap.size+1) om).trans A.c4,(As<|S (w.heap.size+1) om).trans A.c5⟩;have ag:Hid<|SM W8 c B (S9 fb s.nf fc) (S9 g s.nt cp) vS (AX H t ⟨N9,.slice E (AA s.F j (s.T t).V k).n I,.slice M (AA s.F j (s.T t).V k).m P,.slice Q (AA s.F j (s.T t).V k).x R⟩) (BJ s t ⟨-1,0,(s.T t).V,AA s.F j (s.T t).V k⟩)/\BF (Bn c (S9 fb s.nf fc) (S9 g s.nt cp) vS H s.nt) w (Bn c (S9 fb s.nf fc) (S9 g s.nt cp) vS (AX H t ⟨N9,.slice E (AA s.F j (s.T t).V k).n I,.slice M (AA s.F j (s.T t).V k).m P,.slice Q (AA s.F j (s.T t).V k).x R⟩) s.nt) W8:=O (by rw[ar];exact aj);have ch:=O ar;clear A o a bd bf r S ar aj;go_wp2_with fail;refine Gq (Vq c (w.heap.size+1) g s.nt cp (.slice E (AA s.F j (s.T t).V k).n I) (.slice M (AA s.F j (s.T t).V k).m P) (.slice Q (AA s.F j (s.T t).V k).x R)<|AA s.F j (s.T t).V k) ?_;refine tz 0 (h:=tz 1 (h:=tz 2 (h:=tz 3 (h:=tz 4 (h:=tz 5 (h:=tz 6 (h:=tz 7 (h:=?_))))))));refine ry 8 λK hK=>?_;go_simp;rw[<-z ch];refine hK.out _ _ cg λ_=>?_;clear hK K Z;refine Fj ?_;go_wp2;go_end0;rw[z ai];exact⟨⟨_,rfl⟩,_,ag.1.keep λ_ _=>rfl,ag.2.os,ag.2.tape,ag.2.output,ag.2.size,ag.2.block,ag.2.own⟩
  have bg:k<(s.T t).nv:=oS<|z ai;obtain⟨f1,f2,f3,f4,f5⟩:=z ax k bg;have U:=z a8 k om;obtain⟨vb,rfl,ct⟩:∃vb,va=some (G vb 0)/\vb<w.heap.size:=by
   obtain⟨hl,⟨hv,h0⟩|⟨g,cp,cur,hv,_,ay,_⟩⟩:=id au
   .omega
   cases hv;exact⟨_,rfl,Ah ay⟩
  obtain⟨e0,e1,e2,e3,e4⟩:=BW.at b8 bg;have bh:=a w.heap.size om om;have bj:=a vb om om;have Z:=IJ.of (W:=w1) ⟨y1,e0,e1,e2,e3,e4⟩ bh bj;have q0:wr.cell? (G m' k)=some (.string<|DK s.F j k):=(As<|a m' b6 om).trans<|World.rowIs.cell b9 ca;have cu:m'<wr.heap.size:=om;have af:Hid<|∀w2,B9 wr w2->C9 127 #[Q9 (w.heap.size+1),V 4 0 0 (DK s.F j k) 0,GR ((s.T t).V k)] w2 λe w3=>((∃u,e=.returned u)/\∃a0 a1 a2,AQ w3 (w.heap.size+1) 0 B a0 a1 a2 (AA s.F j (s.T t).V<|k+1)/\CW (w.heap.size+1) 0 N9 N9 N9 w1 a0 a1 a2 w3)/\IJ w.heap.size vb (s.T t).nv vc k ((s.T t).V k) w3:=O (λw2 h2=>by
   refine(OH B6 ((s.T t).V k) (A.below h2) (U.ls.inv.small (by rw[U.m];omega)) U.ls.inv.i0 U.ls.inv.next XP f2 f2.1 f3 f4 f5 (by rw[U.live];omega) (by rw[U.turns];omega) (by rw[U.m];omega)).mono ?_;rintro e w3 ⟨hu,a0,a1,a2,av,aw⟩;have hS:=(o.trans (CW.Ax h2 om)).trans aw;have bk:∀b,b<w1.heap.size->b≠w.heap.size+1->w3.heap[b]?=w1.heap[b]?:=λb h1 h2=>hS.block b h1 h2 (by rintro(e|e|e)<;>cases e);exact⟨⟨hu,a0,a1,a2,by rw[f1];exact av,hS⟩,IJ.of (W:=w1) ⟨y1,e0,e1,e2,e3,e4⟩ (bk _ om om) (bk _ om om)⟩)
  clear A o a U f1 f2 f3 f4 f5 e0 e1 e2 e3 e4 bh bj;go_wp2_with fail;have Z:IJ w.heap.size vb (s.T t).nv vc k ((s.T t).V k) wr.drew:=Z;refine Gq (IJ w.heap.size vb (s.T t).nv vc k<|(s.T t).V k) ?_;refine tz 0 (h:=tz 2 (h:=tz 3 (h:=tz 4 (h:=tz 5 (h:=tz 6 (h:=?_))))));refine ry 1 λK hK=>?_;go_simp;refine m9 (cS (DK s.F j k) _) λw2 X=>?_;have ak:B9 wr w2:=⟨X.os,X.tape,X.output,X.size,λk hk=>X.block k hk⟩;have bm:=Z.of (X.block _<|by show w.heap.size<wr.heap.size;omega)<|X.block _ (by show vb<wr.heap.size;omega);have bn:=O<|af w2 ak;refine hK.out _ _ bm λ_=>?_;clear hK K Z af X ak;refine ry 7 λK hK=>?_;go_simp;refine bn.mono ?_;rintro e w3 ⟨⟨⟨uu,rfl⟩,a0,a1,a2,av,aw⟩,bp⟩;refine hK.out _ _ bp λ_=>?_;clear hK K bp bm bn;refine Fj ?_;go_wp2;go_roundw
  .exact⟨k+1,a0,a1,a2,om,ov,av,aw⟩
  exact ow
def cR(KL:KeyLaw K hf){c o B}{v0 v1 v2}{d}p{w}(hM:AQ w c o B v0 v1 v2 d)(hS:Small d)(hI:BN K hf d)(hN:Next d)(hh:∀v,K v->Yo v (hf v))(hp:p<d.n)(br:(d.L p).turn≠0):
  C9 128 #[Pc c o,J p] w λe w'=>((∃u,e=.returned u)/\∃u0 u1 u2,AQ w' c o B u0 u1 u2 (aE hf d p)/\CW c o v0 v1 v2 w u0 u1 u2 w'):=by
 obtain⟨g,r,rfl,dv,dw,dx,U,ag⟩:=hM.log.form om;rcases U p hp,hS.n,hS.m,hI.le with⟨⟨p0,p1,p2,p3,p4,_,_,_,_,_,_⟩,hn,hm,dq⟩;have dr:0<=d.live:=oS hI.log.CI;have dy:g≠c:=λe=>hM.nc<|.inl (by rw[<-e];rfl);obtain⟨k,hk⟩:=o9<|(d.L p).key;rw[<-hk]at p0 p1 p2 p3 p4;have hK:K k:=by rw[hk];exact hI.keys p hp br
 obtain⟨W,hW,bt,_⟩:=JQ w<|.cells (qe k) 43;have bk:Tc W c (S9 g d.n r) v1 v2 w.heap.size k:=⟨⟨by rw[hW];simp,by rw[hW];simp[go_sem],by rw[hW];simp[go_sem],by rw[hW];simp[go_sem],by rw[hW];simp[go_sem],by rw[hW];simp[go_sem]⟩,λe=>oS hM.lt,λe=>oS (hM.Wn e).2⟩;rcases hM.c0,hM.lt,hM.below bt with⟨c0,R,A⟩;have cm:CW c o (S9 g d.n r) v1 v2 w (S9 g d.n r) v1 v2 W:=CW.Ax bt hM.lt;rcases O hh,O hK,O br,A.ints.at,A.index.at with⟨HH,HK,ah,⟨ia,ic,e1,b7⟩,⟨xa,xc,e2,b8⟩⟩;have cn:Hid (0<d.m->∃g r,v1=S9 g d.m r):=O (λh=>by obtain⟨g,r,h,_⟩:=A.ints.form h;exact⟨g,r,h⟩);have cq:Hid (0<d.x->∃g r,v2=S9 g d.x r):=O (λh=>by obtain⟨g,r,h,_⟩:=A.index.form h;exact⟨g,r,h⟩);have b9:Hid<|Hl W c o (some<|G g 0) r ia ic xa xc d:=O ⟨A.lt,A.c0,by rw[(z A).c1,e1],by rw[(z A).c2,e2],A.c3,A.c4,A.c5,by obtain⟨a,r,e,h⟩:=A.log.at;cases e;exact h,b7,b8⟩;subst e1 e2;have ai:=O hk;clear hM bt hh hK br b7 b8 U ag hk;go_enter func128,ntmps128;go_wp2_with fail;rw[<-hW];obtain⟨bl,k0,k1,k2,k3,k4⟩:=bk.box;refine m9 (Gw k b9 hS) λw1 bu=>?_;have af:CW c o (S9 g d.n r) (.slice ia d.m ic) (.slice xa d.x xc) W (S9 g d.n r) (.slice ia d.m ic) (.slice xa d.x xc) w1:=CW.Ax bu A.lt;rcases A.below bu,cm.trans af,bk.step af,b9.below bu with⟨S,ca,a8,cr⟩;rcases a8.box,S.lt,S.c1,S.c2 with⟨⟨bl,k0,k1,k2,k3,k4⟩,R,c1,c2⟩;by_cases hs:Ay d.m k
 .rw[Aj hs];have HR:Hid<|Hj hf d p=goSmall d p:=O<|Ju (by rw[<-z ai];exact hs);obtain⟨s1,s2,s3⟩:=hs;obtain⟨q,hq⟩:∃q:Nat,k.num=(q:Int)+1:=⟨(k.num-1).toNat,om⟩;have cb:q<d.m:=om;have ct:((d.L p).key.num-1).toNat=q:=by rw[<-z ai,hq];omega
  obtain⟨C,dz,eg⟩:=z cn om;cases eg;obtain⟨g',ak,D,cu,cv,b2,hcs,ag⟩:=S.ints.form om;cases D;have e0:=hcs q cb;have f0:=ag q;have cc:C≠c:=λe=>S.nc<|.inr<|.inl (by rw[<-e];rfl);have dC:IntKind.i64.wrap (q:Int)=q:=oj;have cw:=S.Zr cb 0;have b3:CW c o (S9 g d.n r) (S9 C d.m ic) (.slice xa d.x xc) w1 (S9 g d.n r) (S9 C d.m ic) (.slice xa d.x xc)<|w1.setCell (G C q)<|J 0:=Fi (q:=q) (J 0) (.inr<|.inl rfl) cc;obtain⟨W2,bj⟩:=o9<|(w1.setCell (G C q)<|J 0).drew;have cx:AQ W2 c o B (S9 g d.n r) (S9 C d.m ic) (.slice xa d.x xc) {d with I:=AU d.I q 0}:=by rw[bj];exact cw.below (BE _ _).drew
  have bw:=ca.trans<|b3.trans<|CW.Ax (BE _ _).drew (by simpa using R);rw[<-bj]at bw;have T:=O cx;have bx:=O bw;rw[hq]at k1;go_wp2_with fail
  go_region
  rw[<-bj];clear bj e0 f0 c1 c2 R bl k0 k1 k2 k3 k4;have c1:=T.c1;have R:=T.lt;obtain⟨g',ak,D,cu,cv,b2,hcs,ag⟩:=T.ints.form (by show 0<d.m;omega);cases D;have hcs:∀i,i<d.m->W2.cell? (G C i)=some (J<|AU d.I q 0 i):=hcs;have bm:=O hcs;clear hcs ag;go_wp2_with fail;go_loopw [5] (λa wr=>∃j:Nat,a=J (j:Int)/\j<=d.m/\shrink (AU d.I q 0) d.m=shrink (AU d.I q 0) j/\wr=W2) λa _=>(intOf a).toNat
  .exact⟨d.m,rfl,Be _,rfl,rfl⟩
  obtain⟨j,rfl,hj,cd,rfl⟩:=hrel;by_cases bz:∃i,j=i+1/\AU d.I q 0 i=0
  .obtain⟨i,rfl,hz⟩:=bz;have e0:=z bm i om;rw[hz]at e0;have ao:=O<|cd.trans<|Jj hz;go_wp2;go_roundw
   .exact⟨i,ov,om,ao,by first|rfl|trivial⟩
   simp[intOf]
  have ao:Hid<|shrink (AU d.I q 0) d.m=j:=O (by
   rw[cd];cases j with
   |zero=>rfl
   |succ i=>exact Ji (λe=>bz ⟨i,rfl,e⟩))
  have b0:Hid<|∀(Q:Prop),(j=0->Q)->(∀i,j=i+1->AU d.I q 0 i≠0->Q)->Q:=O (λQ h1 h2=>by
   cases j with
   |zero=>exact h1 rfl
   |succ i=>exact h2 i rfl (λe=>bz ⟨i,rfl,e⟩))
  have cy:=AQ.SC T (Bo.cut T.ints hj) (λe=>cc<|ownB e) λq' e e'=>T.ap q' (by rw[<-ownB e];rfl) e';have bn:=bx.trans<|C7 (o:=o) (v0:=S9 g d.n r) (v1:=S9 C d.m ic) (v2:=.slice xa d.x xc) (u0:=S9 g d.n r) (u1:=S9 C j ic) (u2:=.slice xa d.x xc) (w:=wr) (q:=o+1) (S9 C j ic) om λb e=>.inl<|e.elim .inl λe=>e.elim (λe=>.inr<|.inl<|by rw[<-ownB e];rfl) λe=>.inr<|.inr e;have l:=O cy;have bp:=O bn;have aj:Hid<|Hj hf d p={d with I:=AU d.I q 0,m:=j,L:=AU d.L p default,live:=d.live-1}:=O (by
   rw[z HR];unfold goSmall;rw[ct,z ao];rfl)
  have bq:Hid<|(Hj hf d p).m<=d.m:=O (by rw[z aj];exact hj);have dU:=T.fz<|o+1;refine b0 _ (λcz=>?_) λi cD hz=>?_
  .clear b0 ao bm;subst cz;obtain⟨g',ak,D,bb,bc,bd,U,f⟩:=l.log.form (by show 0<d.n;omega);cases D;rcases U p hp,f<|p*11,f<|p*11+1,f<|p*11+2,f<|p*11+3,f<|p*11+4,f<|p*11+5,f<|p*11+6,f<|p*11+7,f<|p*11+8,f<|p*11+9,f<|p*11+10,l.c0 with⟨⟨y0,y1,y2,y3,y4,y5,y6,y7,y8,y9,cg⟩,z0,z1,z2,z3,z4,z5,z6,z7,z8,z9,ch,c0⟩;have c4:(wr.setCell (G c<|o+1)<|S9 C 0 ic).cell? (G c<|o+4)=some (J d.live):=l.c4;rcases l.fz (o+4),l.lt,AQ.kill (d:={d with I:=AU d.I q 0,m:=0}) l hp with⟨f4,R,⟨aq,Dt⟩⟩;have ar:=AQ.Im aq<|d.live-1;have au:=(bp.trans Dt).trans<|C7 (o:=o) (v0:=S9 g d.n r) (q:=o+4) (J<|d.live-1) om λb e=>.inl e;have Z:AQ ((He g (wr.setCell (G c<|o+1)<|S9 C 0 ic) (p*11+0)<|De default).setCell (G c<|o+4)<|J<|d.live-1) c o B (S9 g d.n r) (S9 C 0 ic) (.slice xa d.x xc)<|Hj hf d p:=by rw[z aj];exact ar
   obtain⟨Y,E⟩:=o9<|((((((((((((wr.setCell (G c<|o+1)<|S9 C 0 ic).setCell (G g<|p*11)<|J 0).setCell (G g<|p*11+1)<|J 0).setCell (G g<|p*11+2)<|F9 0).setCell (G g<|p*11+3) E9).setCell (G g<|p*11+4)<|J 0).setCell (G g<|p*11+5)<|J 0).setCell (G g<|p*11+6)<|J 0).setCell (G g<|p*11+7)<|F9 0).setCell (G g<|p*11+8) E9).setCell (G g<|p*11+9)<|J 0).setCell (G g<|p*11+10)<|J 0).setCell (G c<|o+4)<|J<|d.live-1;have av:AQ Y c o B (S9 g d.n r) (S9 C 0 ic) (.slice xa d.x xc)<|Hj hf d p:=by rw[E];exact Z
   have aw:CW c o (S9 g d.n r) (S9 C d.m ic) (.slice xa d.x xc) w (S9 g d.n r) (S9 C 0 ic) (.slice xa d.x xc) Y:=by rw[E];exact au
   have t:=(E7 KL hI hN hp ah).1;rcases O t.core,t.sz,(E7 KL hI hN hp ah).2.2.1,z bq with⟨ax,ay,az,cj⟩;have aM:Hid<|Small<|Hj hf d p:=O ⟨by rw[az];exact hn,om,by unfold Gr at ay;omega⟩;go_wp2_with fail;rw[<-E];refine(E8 hf av aM ax HH).mono ?_;rintro e ck ⟨⟨u,rfl⟩,t0,t2,H,M⟩;have ad:=O H;have ae:=aw.trans M;clear H M;go_wp2;go_end0;exact⟨⟨_,rfl⟩,_,_,_,ad,ae⟩
  have e0:=z bm i om;have ea:(AU d.I q 0 i==0)=false:=by simp[hz]
  have dt:(j:Int)-1=(i:Int):=om;clear b0 ao bm cD hz;obtain⟨g',ak,D,bb,bc,bd,U,f⟩:=l.log.form (by show 0<d.n;omega);cases D;rcases U p hp,f<|p*11,f<|p*11+1,f<|p*11+2,f<|p*11+3,f<|p*11+4,f<|p*11+5,f<|p*11+6,f<|p*11+7,f<|p*11+8,f<|p*11+9,f<|p*11+10,l.c0 with⟨⟨y0,y1,y2,y3,y4,y5,y6,y7,y8,y9,cg⟩,z0,z1,z2,z3,z4,z5,z6,z7,z8,z9,ch,c0⟩;have c4:(wr.setCell (G c<|o+1)<|S9 C j ic).cell? (G c<|o+4)=some (J d.live):=l.c4;rcases l.fz (o+4),l.lt,AQ.kill (d:={d with I:=AU d.I q 0,m:=j}) l hp with⟨f4,R,⟨aq,Dt⟩⟩;have ar:=AQ.Im aq<|d.live-1;have au:=(bp.trans Dt).trans<|C7 (o:=o) (v0:=S9 g d.n r) (q:=o+4) (J<|d.live-1) om λb e=>.inl e;have Z:AQ ((He g (wr.setCell (G c<|o+1)<|S9 C j ic) (p*11+0)<|De default).setCell (G c<|o+4)<|J<|d.live-1) c o B (S9 g d.n r) (S9 C j ic) (.slice xa d.x xc)<|Hj hf d p:=by rw[z aj];exact ar
  obtain⟨Y,E⟩:=o9<|((((((((((((wr.setCell (G c<|o+1)<|S9 C j ic).setCell (G g<|p*11)<|J 0).setCell (G g<|p*11+1)<|J 0).setCell (G g<|p*11+2)<|F9 0).setCell (G g<|p*11+3) E9).setCell (G g<|p*11+4)<|J 0).setCell (G g<|p*11+5)<|J 0).setCell (G g<|p*11+6)<|J 0).setCell (G g<|p*11+7)<|F9 0).setCell (G g<|p*11+8) E9).setCell (G g<|p*11+9)<|J 0).setCell (G g<|p*11+10)<|J 0).setCell (G c<|o+4)<|J<|d.live-1;have av:AQ Y c o B (S9 g d.n r) (S9 C j ic) (.slice xa d.x xc)<|Hj hf d p:=by rw[E];exact Z
  have aw:CW c o (S9 g d.n r) (S9 C d.m ic) (.slice xa d.x xc) w (S9 g d.n r) (S9 C j ic) (.slice xa d.x xc) Y:=by rw[E];exact au
  have t:=(E7 KL hI hN hp ah).1;rcases O t.core,t.sz,(E7 KL hI hN hp ah).2.2.1,z bq with⟨ax,ay,az,cj⟩;have aM:Hid<|Small<|Hj hf d p:=O ⟨by rw[az];exact hn,om,by unfold Gr at ay;omega⟩;go_wp2_with fail;rw[<-E];refine(E8 hf av aM ax HH).mono ?_;rintro e ck ⟨⟨u,rfl⟩,t0,t2,H,M⟩;have ad:=O H;have ae:=aw.trans M;go_wp2;go_end0;exact⟨⟨_,rfl⟩,_,_,_,ad,ae⟩
 rw[Ae hs];obtain⟨s,cl,bw,bn⟩:=hI.found KL HK ⟨hp,ah,by rw[<-z ai];exact hs⟩ (by rw[<-z ai];exact KL.refl _ HK);have HR:=O<|KK (by rw[<-z ai];exact hs) (by rw[<-z ai];exact bn);obtain⟨P,eb,eg⟩:=z cq om;cases eg;obtain⟨g',ak,D,ec,cN,du,hcs,ag⟩:=S.index.form om;cases D;have e0:=hcs s cl;have f0:=ag s;have b1:P≠c:=λe=>S.nc<|.inr<|.inr (by rw[<-e];rfl);have ef:c≠P:=λe=>b1 e.symm;have c6:w.heap.size≠P:=λe=>a8.no<|.inr<|.inr<|qh e;have a6:P≠w.heap.size:=λe=>c6 e.symm;have bh:Hid (∀W:World,Hl W c o (some<|G g 0) r ia ic (some<|G P 0) xc d->C9 130 #[Pc c o,V k.kind k.num k.Af k.str k.ref] W (R9 (J (s:Int)) W)):=O (λW hP=>by
  have h:=Km hP hS hI.d4 (HH k HK);rw[bn]at h;exact h)
 rcases S.below (BE _ _).drew,ca.trans<|CW.Ax (BE _ _).drew R,cr.below (BE _ _).drew with⟨b4,b5,b6⟩;have c7:w1.drew.cell? (G c<|o+2)=some (S9 P d.x xc):=c2;have c8:w1.drew.cell? (y w 0)=some (J k.kind):=k0;have c9:w1.drew.cell? (y w 1)=some (J k.num):=k1;have da:w1.drew.cell? (y w 2)=some (F9 k.Af):=k2;have dc:w1.drew.cell? (y w 3)=some (.string k.str):=k3;have dd:w1.drew.cell? (y w 4)=some (J k.ref):=k4;have bf:c<w1.drew.heap.size:=R;have a7:w.heap.size<w1.drew.heap.size:=bl;have bg:P<w1.drew.heap.size:=cN;have df:=O<|show w1.drew.cell? (G P s)=some (J<|d.X s)from e0;have dh:=O<|show w1.drew.frozen? (G P s)=false from f0;go_wp2_with fail
 go_region_held3 (λw'=>w'.cell? (G c<|o+2)=some (S9 P d.x xc)/\w'.cell? (y w 0)=some (J k.kind)/\w'.cell? (y w 1)=some (J k.num)/\w'.cell? (y w 2)=some (F9 k.Af)/\w'.cell? (y w 3)=some (.string k.str)/\w'.cell? (y w 4)=some (J k.ref)) (first|(with_reducible exact⟨ol,ol,ol,ol,ol,ol⟩)|(exact⟨(Al b1).trans di,(Al a6).trans dj,(Al a6).trans dk,(Al a6).trans dm,(Al a6).trans dn,(Al a6).trans dp⟩)|go_keep)
  (first|(go_at_call 130;refine(bh _ b6).mono ?_;rintro e w2 ⟨rfl,F⟩;have di:=oT F bf c7;have dj:=oT F a7 c8;have dk:=oT F a7 c9;have dm:=oT F a7 da;have dn:=oT F a7 dc;have dp:=oT F a7 dd;have e0:=oT F bg df;have f0:=o7 F bg dh;have T:=O<|b4.below F;have bx:=O<|b5.trans<|CW.Ax F bf;clear F))
 have l:=T.Uz cl (-1);have bp:=bx.trans<|Fi (o:=o) (v0:=S9 g d.n r) (v1:=.slice ia d.m ic) (v2:=S9 P d.x xc) (q:=s) (J (-1)) (.inr<|.inr rfl) b1;have aj:Hid<|Hj hf d p={d with X:=AU d.X s (-1),L:=AU d.L p default,live:=d.live-1}:=O<|qg HR;have bq:Hid<|(Hj hf d p).m<=d.m:=O (by rw[z aj];exact Be _);obtain⟨g',ak,D,bb,bc,bd,U,f⟩:=l.log.form (by show 0<d.n;omega);cases D;rcases U p hp,f<|p*11,f<|p*11+1,f<|p*11+2,f<|p*11+3,f<|p*11+4,f<|p*11+5,f<|p*11+6,f<|p*11+7,f<|p*11+8,f<|p*11+9,f<|p*11+10,l.c0 with⟨⟨y0,y1,y2,y3,y4,y5,y6,y7,y8,y9,cg⟩,z0,z1,z2,z3,z4,z5,z6,z7,z8,z9,ch,c0⟩;have c4:(w2.setCell (G P s)<|J (-1)).cell? (G c<|o+4)=some (J d.live):=l.c4;rcases l.fz (o+4),l.lt,AQ.kill (d:={d with X:=AU d.X s (-1)}) l hp with⟨f4,R,⟨aq,Dt⟩⟩;have ar:=AQ.Im aq<|d.live-1;have au:=(bp.trans Dt).trans<|C7 (o:=o) (v0:=S9 g d.n r) (q:=o+4) (J<|d.live-1) om λb e=>.inl e;have Z:AQ ((He g (w2.setCell (G P s)<|J (-1)) (p*11+0)<|De default).setCell (G c<|o+4)<|J<|d.live-1) c o B (S9 g d.n r) (.slice ia d.m ic) (S9 P d.x xc)<|Hj hf d p:=by rw[z aj];exact ar
 obtain⟨Y,E⟩:=o9<|((((((((((((w2.setCell (G P s)<|J (-1)).setCell (G g<|p*11)<|J 0).setCell (G g<|p*11+1)<|J 0).setCell (G g<|p*11+2)<|F9 0).setCell (G g<|p*11+3) E9).setCell (G g<|p*11+4)<|J 0).setCell (G g<|p*11+5)<|J 0).setCell (G g<|p*11+6)<|J 0).setCell (G g<|p*11+7)<|F9 0).setCell (G g<|p*11+8) E9).setCell (G g<|p*11+9)<|J 0).setCell (G g<|p*11+10)<|J 0).setCell (G c<|o+4)<|J<|d.live-1;have av:AQ Y c o B (S9 g d.n r) (.slice ia d.m ic) (S9 P d.x xc)<|Hj hf d p:=by rw[E];exact Z
 have aw:CW c o (S9 g d.n r) (.slice ia d.m ic) (S9 P d.x xc) w (S9 g d.n r) (.slice ia d.m ic) (S9 P d.x xc) Y:=by rw[E];exact au
 have t:=(E7 KL hI hN hp ah).1;rcases O t.core,t.sz,(E7 KL hI hN hp ah).2.2.1,z bq with⟨ax,ay,az,cj⟩;have aM:Hid<|Small<|Hj hf d p:=O ⟨by rw[az];exact hn,om,by unfold Gr at ay;omega⟩;go_wp2_with fail;rw[<-E];refine(E8 hf av aM ax HH).mono ?_;rintro e ck ⟨⟨u,rfl⟩,t0,t2,H,M⟩;have ad:=O H;have ae:=aw.trans M;go_wp2;go_end0;exact⟨⟨_,rfl⟩,_,_,_,ad,ae⟩
def Y8(R:KeyLaw K hf){c o B}{v0 v1 v2}{d}{k}(v){w}(I:AQ w c o B v0 v1 v2 d)(P:Small d)(A:Inv K hf d)(hh:∀v,K v->Yo v (hf v))
  (hk:K k) (S:Cc k=true) (hv:v.ok=true) (T:d.m<=4000000):
  C9 89 #[Pc c o,V k.kind k.num k.Af k.str k.ref,V v.kind v.num v.Af v.str v.ref] w λe w'=>((∃u,e=.returned u)/\∃u0 u1 u2,AQ w' c o B u0 u1 u2 (Ce hf d k v)/\CW c o v0 v1 v2 w u0 u1 u2 w'):=by
 have D:B9 w<|(w.alloc<|.cells (qe k) 43).alloc<|.cells (qe v) 43:=(n9).alloc oq _;obtain⟨W,f⟩:=o9<|(w.alloc<|.cells (qe k) 43).alloc<|.cells (qe v) 43;rw[<-f]at D;have E:=I.below D;have bk:Tc W c v0 v1 v2 w.heap.size k:=⟨⟨by rw[f];simp;omega,by rw[f];simp[go_sem],by rw[f];simp[go_sem],by rw[f];simp[go_sem],by rw[f];simp[go_sem],by rw[f];simp[go_sem]⟩,λe=>oS I.lt,λe=>oS (I.Wn e).2⟩;have bv:Tc W c v0 v1 v2 (w.heap.size+1) v:=⟨⟨by rw[f];simp,by rw[f];simp[go_sem],by rw[f];simp[go_sem],by rw[f];simp[go_sem],by rw[f];simp[go_sem],by rw[f];simp[go_sem]⟩,λe=>oS I.lt,λe=>oS (I.Wn e).2⟩;have U:CW c o v0 v1 v2 w v0 v1 v2 W:=CW.Ax D I.lt;obtain⟨la,lc,ia,ic,xa,xc,e0,e1,e2,hP⟩:=E.ptr;subst e0 e1 e2;have hn:=P.n;have aj:=A.i0.le;have ak:0<=d.live:=oS A.i0.log.CI;rcases A.i0.turns,O hh,O (qj hk<|qj S hv) with⟨ao,X,HK⟩;go_enter func89,ntmps89;go_wp2_with fail;rw[<-f];obtain⟨bl,k0,k1,k2,k3,k4⟩:=bk.box;refine m9 (I6 hP P A.i0.d3 A.i0.d4<|X k HK.1) λw1 L=>?_;have p:CW c o (.slice la d.n lc) (.slice ia d.m ic) (.slice xa d.x xc) W (.slice la d.n lc) (.slice ia d.m ic) (.slice xa d.x xc) w1:=CW.Ax L E.lt;rcases E.below L,U.trans p,bv.step p,(z<|bk.step p).box with⟨a,l,C,⟨bl,k0,k1,k2,k3,k4⟩⟩;rcases C.box,a.c0,a.c4,a.c5 with⟨⟨aq,q0,q1,q2,q3,q4⟩,c0,c4,c5⟩;rcases z (O<|A.i0.place R hk)with⟨i,hi,Z,ar,q⟩|⟨ad,q⟩
 .rw[q];by_cases b:v.kind=0
  .have r:Hid<|Ce hf d k v=aE hf d i:=O (by rw[Nz om b,q];rfl);have s:(v.kind==0)=true:=by simp[b]
   go_wp2_with fail
   refine(cR R i a P A.i0 A.next X hi<|z<|O Z).mono ?_;rintro e w2 ⟨⟨u,rfl⟩,t0,t1,t2,F,H⟩;have ae:=O F;have af:=l.trans H;go_wp2;go_end0;exact⟨⟨_,rfl⟩,_,_,_,by rw[z r];exact ae,af⟩
  have r:Hid<|Ce hf d k v=Jf d i v:=O (by rw[K8 om b,q];rfl);have s:(v.kind==0)=false:=by simp[b]
  obtain⟨g,cp,eg,au,av,aw,ag,t⟩:=a.log.form om;cases eg;rcases ag i hi,t<|i*11+5,t<|i*11+6,t<|i*11+7,t<|i*11+8,t (i*11+9) with⟨⟨_,_,_,_,_,y5,y6,y7,y8,y9,_⟩,z5,z6,z7,z8,z9⟩;have ax:g≠w.heap.size+1:=λe=>C.no<|.inl (by rw[<-e];rfl);obtain⟨h1,h2⟩:=a.uA hi v;go_wp2_with fail
  go_region
  go_wp2;go_end0;exact⟨⟨_,rfl⟩,_,_,_,by rw[z r];exact z<|h1.below (BE _ _).drew,z<|(l.trans h2).trans<|CW.Ax (BE _ _).drew h1.lt⟩
 rw[q];have M:¬0<=Aw d k (hf k):=om;have j:=O M;by_cases b:v.kind=0
 .have r:=O<|G9 j λh=>h.1 b;have s:(v.kind !=0)=false:=by simp[b]
  go_wp2;go_end0;exact⟨⟨_,rfl⟩,_,_,_,by rw[z r];exact a,l⟩
 have s:(v.kind !=0)=true:=by simp[b]
 by_cases hl:d.live<500
 case neg=>
  have r:Hid<|Ce hf d k v=d:=O<|G9 j λh=>hl h.2.1;have ah:decide (d.live<500)=false:=ot;go_wp2;go_end0;exact⟨⟨_,rfl⟩,_,_,_,by rw[z r];exact a,l⟩
 have ah:decide (d.live<500)=true:=by simp[hl]
 by_cases Q:d.turns<1000000000000
 case neg=>
  have r:Hid<|Ce hf d k v=d:=O<|G9 j λh=>Q h.2.2;have ai:decide (d.turns<1000000000000)=false:=ot;go_wp2;go_end0;exact⟨⟨_,rfl⟩,_,_,_,by rw[z r];exact a,l⟩
 have ai:decide (d.turns<1000000000000)=true:=by simp[Q]
 have r:=O<|G8 j ⟨b,hl,Q⟩;go_wp2_with fail;refine(OH R v a P A.i0 A.next X HK.1 HK.2.1 HK.2.2 (z<|O b) (z<|O ad) hl Q T).mono ?_;rintro e w2 ⟨⟨u,rfl⟩,t0,t1,t2,F,H⟩;go_wp2;go_end0;exact⟨⟨_,rfl⟩,_,_,_,by rw[z r];exact z<|O F,z<|l.trans H⟩
section
variable {w w' W:Y} {c B:Nat} {vF vT vS:V9} {H:Nat->Hs} {s:AK}
def SM.eY(h:SM w c B vF vT vS H s){t i a vc}(b:t<s.nt)(d:(H t).v=S9 a (s.T t).nv vc)(hi:i<(s.T t).nv)v:
  SM (Hd w a (i*5) v) c B vF vT vS H (BJ s t<|Gn (s.T t) i v)/\BF (Bn c vF vT vS H s.nt) w (Bn c vF vT vS H s.nt) (Hd w a (i*5) v):=by
 obtain⟨s1,s2,j,r⟩:=kR w a (i*5) v;have hb:(H t).v.ownBlock=some a:=qh d
 have nb:∀{e Z n:Nat} {u:V9} {xs:List Value},w.ownsRow B e Z u n xs->e≠43->∀g,u.ownBlock=some g->(Hd w a (i*5) v).heap[g]?=w.heap[g]?:=λm o g e=>D9 w a (i*5) v λe'=>Cd m (h.v t b) o e (by rw[e'];exact hb);have f:=h.v t b;rw[d]at f;have:=h.table (w':=Hd w a (i*5) v) b (h':=H t) (t':=Gn (s.T t) i v) ⟨s1,s2,j,om⟩ (λk k1 k2 k3=>D9 w a (i*5) v λe=>k3<|.inl<|by rw[e];exact hb) (by
   have p:Ti (Hd w a (i*5) v) B vT s.nt H s.T:=Ab h.t<|nb h.t oo;rw[Iq];unfold Ti;rw[ZV (T':=s.T) (H':=H) (λq hq=>by
    by_cases e:q=t
    .subst e;rw[Ai];rfl
    rw[Ak _ _ e])]
   exact p) (by rw[d];exact BW.Hd f hi v) (Ab (h.l t b) (nb (h.l t b) oo)) (Ab (h.i t b) (nb (h.i t b) oo)) (Ab (h.x t b) (nb (h.x t b) oo)) (h.ap t b) (λq e=>.inl e)
 rw[Iq]at this;exact this
def SM.nO(h:SM w c B (S9 j s.nf o) vT vS H s)(hb:Ym c j w w'){b' b n'}{f'}(hl:b'=j\/w.heap.size<=b')(hc:w'.cell? (G c 0)=some (S9 b' n' b))(p:EO w' B (S9 b' n' b) n' f'):
  SM w' c B (S9 b' n' b) vT vS H {s with nf:=n',F:=f'}/\BF (Bn c (S9 j s.nf o) vT vS H s.nt) w (Bn c (S9 b' n' b) vT vS H s.nt) w':=by
 have d:w'.heap[c]?=some (.cells #[S9 b' n' b,vT,vS] 42 (0,0)):=by
  rcases hb.box with e|⟨u,e⟩
  .have h1:=As (a:=G c 0) e;rw[hc,h.cells.1]at h1;cases h1;exact e.trans h.Bw
  have h1:=e _ _ h.Bw;have h2:w'.cell? (G c 0)=some u:=by simp[World.cell?,h1]
  grind [nf,Bn]
 have hk:∀{e Z n:Nat} {u:V9} {xs:List Value},w.ownsRow B e Z u n xs->e≠42->e≠142->∀g,u.ownBlock=some g->w'.heap[g]?=w.heap[g]?:=λm h1 h2 g e=>hb.block g (m.lt g e).2 (λe'=>h.Ba m h1<|by rw[<-e'];exact e) λe'=>Cd m h.f h2 e<|qh e';refine⟨⟨h.base,d,p,Ab h.t<|hk h.t oo oo,Ab h.si<|hk h.si oo oo,λi hi=>Ab (h.v i hi)<|hk (h.v i hi) oo oo,λi hi=>Ab (h.l i hi)<|hk (h.l i hi) oo oo,λi hi=>Ab (h.i i hi)<|hk (h.i i hi) oo oo,λi hi=>Ab (h.x i hi)<|hk (h.x i hi) oo oo,h.ap,h.ij⟩,⟨hb.os,hb.tape,hb.output,hb.size,λk k1 k2=>hb.block k k1 (λe=>k2<|.inl e) λe=>k2<|.inr<|.inl<|qh e,?_⟩⟩;rintro k (e|e|e)
 .exact .inl (.inl e)
 .have:b'=k:=oF e;rcases hl with h1|h1
  .exact .inl (.inr<|.inl<|by rw[<-this,h1];rfl)
  exact .inr om
 exact .inl<|.inr<|.inr e
def SM.eU(h:SM w c B vF vT vS H s){t g b}(a:t<s.nt)(d:vT=S9 g s.nt b)r:
  SM (w.setCell (G g<|t*8)<|J r) c B vF vT vS H (BJ s t {s.T t with shape:=r})/\BF (Bn c vF vT vS H s.nt) w (Bn c vF vT vS H s.nt) (w.setCell (G g<|t*8)<|J r):=by
 have:=h.Gi (W:=w) a d (λ_ _ _=>rfl) ⟨rfl,rfl,rfl,Be _⟩ 0 [J r] (h':=H t) (t':={s.T t with shape:=r}) oq (λj=>by
  rcases j with _|j
  .rfl
  rw[Cs oq];rfl) (h.v t a) (h.l t a) (h.i t a) (h.x t a) (h.ap t a) (λq e=>.inl e)
 rw[Iq]at this;exact this
def SM.mQ(h:SM w c B vF vT vS H s){t g m}(a:t<s.nt)(o:vT=S9 g s.nt m){x}(p:s.T t=x){u}{v}(hk:∀k,k<w.heap.size->(H t).v.ownBlock≠some k->W.heap[k]?=w.heap[k]?)(d:W.os=w.os/\W.tape=w.tape/\W.output=w.output/\w.heap.size<=W.heap.size)
  (hu:BW W B u (x.nv+1)<|AX x.V x.nv v) (hq:∀q,u.ownBlock=some q->(H t).v.ownBlock=some q\/w.heap.size<=q):
  SM (W.setCell (G g<|t*8+1) u) c B vF vT vS (AX H t {H t with v:=u}) (BJ s t {x with nv:=x.nv+1,V:=AX x.V x.nv v})/\BF (Bn c vF vT vS H s.nt) w (Bn c vF vT vS (AX H t {H t with v:=u}) s.nt) (W.setCell (G g<|t*8+1) u):=by
 subst p;have b:∀{e Z n:Nat} {u:V9} {xs:List Value},w.ownsRow B e Z u n xs->e≠43->∀q,u.ownBlock=some q->W.heap[q]?=w.heap[q]?:=λf r q e=>hk q (f.lt q e).2<|Cd f (h.v t a) r e;exact h.Gi (W:=W) a o (λk k1 k2=>hk k k1 λe=>k2<|.inl e) d 1 [u] (h':={H t with v:=u}) (t':={s.T t with nv:=(s.T t).nv+1,V:=AX (s.T t).V (s.T t).nv v}) oq (λj=>by
  rcases j with _|_|j
  .rfl
  .rfl
  .rw[Cs oq];rfl) hu (Ab (h.l t a) (b (h.l t a) oo)) (Ab (h.i t a) (b (h.i t a) oo)) (Ab (h.x t a) (b (h.x t a) oo)) (h.ap t a) (λq e=>by
  rcases e with e|e
  .exact(hq q e).imp .inl id
  exact .inl (.inr e))
end
end Go.Proofs.YtoobllcjfinmoaaGreatDoor
