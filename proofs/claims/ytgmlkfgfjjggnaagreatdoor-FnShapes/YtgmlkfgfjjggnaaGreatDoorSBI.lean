import Derived.Test.YtgmlkfgfjjggnaaGreatDoorSBH
import Derived.Test.YtgmlkfgfjjggnaaGreatDoorSAJ
import Derived.Test.YtgmlkfgfjjggnaaGreatDoorSAK
import Derived.Test.YtgmlkfgfjjggnaaGreatDoorSAY
import Derived.Deep.Cut
import Derived.Test.YtgmlkfgfjjggnaaGreatDoorSAP
import Derived.Test.YtgmlkfgfjjggnaaGreatDoorSAR
import Derived.Test.YtgmlkfgfjjggnaaGreatDoorSAU
import Derived.Test.YtgmlkfgfjjggnaaGreatDoorSAZ
import Derived.Handy
import Derived.Test.YtgmlkfgfjjggnaaGreatDoorSAL
set_option linter.unusedVariables false
set_option linter.unusedSimpArgs false
set_option maxHeartbeats 40000000
set_option maxRecDepth 100000
namespace Go.Proofs.YtgmlkfgfjjggnaaGreatDoor
section
open Go.RowKit
attribute [local go_sem] run_store_float run_equalIn_float run_store_func
theorem answersW_any(c B ab acp:Nat)(vN vT vS vU:Value)(Bk:Nat->Nat)(A:Nat->Ad)(s0:Sto)(n:Nat)(f:Nat->Ac)(w:World)(hn:n<=1000)(hab:ab<B)(hcs:∀i,i<n->∀j u,(ActBx (f i)).toList[j]?=some u->w.cell? ⟨ab,i*14+j,none⟩=some u)(hM:WkM (fun _=>False) w c B vN vT vS vU Bk A s0)(hG:∀q,q<=n->SGd (aftS s0 f q))(hwk:∀i,i<n->Wf (f i).k)(hT:Tabs w)(hNG:5<=B)(hE:ErrG w)(hB:0<B)(hD:∀i,i<n->DeedOf (f i)):
  Calls Tryz.prog 69 #[actW c,.slice (some ⟨ab,0,none⟩) n acp] w fun e w'=>e=.returned (.slice (some ⟨w.heap.size,0,none⟩) n n)/\PlRel w B c w.heap.size n s0 f n w':=by
 have HDD:=uy hD
 clear hD
 have hBw:B<=w.heap.size:=hM.base
 obtain⟨i0,hi0,hz0,hz1,hz2⟩:=info_parts infoAns
 obtain⟨W,hmk,hown0,hgr0⟩:=run_make_own (P:=Tryz.prog) w B 60 45 i0 (.agg An0) 12 Tryz.underlying60 hi0 hz0 hz1 .i64 .i64 n (by rw[hz2];omega) (by unfold maxLen;omega) hBw
 have hb0:Below w.heap.size w W:=grown_below1 hgr0 (fun q e=>by cases e) (Nat.le_refl _)
 have hlW:=(hown0.lt w.heap.size rfl).2
 have H0:Hid (PlRel w B c w.heap.size n s0 f 0 W):=uy (by
  obtain⟨m1,d1⟩:=hM.enter hb0
  refine⟨⟨vN,vT,vS,vU,Bk,A,m1.leave (fun k e=>.inr (by subst e;exact⟨Nat.le_refl _,hlW⟩)),fun e=>?_⟩,hown0,hb0.mono hBw⟩
  obtain⟨cur,hc,_⟩:=own_blk hown0 (q:=w.heap.size) rfl
  rcases e with e|e|e|e|⟨_,e⟩
  ·exact m1.notrow hown0 (by decide) (by rw[e];rfl)
  ·exact own_ne m1.n hown0 (by decide) e rfl
  ·exact own_ne m1.t hown0 (by decide) e rfl
  ·exact own_ne m1.si hown0 (by decide) e rfl
  ·exact own_nodal hown0 (by decide) rfl e)
 obtain⟨rb,hrb⟩:∃rb,rb=w.heap.size:=⟨_,rfl⟩
 have HCS:=uy hcs
 have HE:=uy hE
 have HT:=uy hT
 have HG:=uy hG
 have HWK:=uy hwk
 clear hcs hM hE hT hG hwk hown0 hgr0 hb0
 go_enter Tryz.func69,Tryz.ntmps69
 go_wp2_with fail
 rw[<-hrb]at H0 hlW ⊢
 have hrbB:B<=rb:=by omega
 go_loopw [5,13] (fun o ix wr=>∃(q:Nat),q<=n/\ix=.int .i64 q/\o=.slice (some ⟨rb,0,none⟩) q n/\PlRel w B c rb n s0 f q wr) (fun _ ix _=>n-(intOf ix).toNat)
 case atStart=>exact⟨0,Nat.zero_le _,rfl,rfl,uh H0⟩
 case round=>
  have HRB:=uy hrb
  clear H0 hrb
  obtain⟨q,hq,rfl,rfl,hR⟩:=hrel
  have HR:=uy hR
  have hwr:w.heap.size<=wr.heap.size:=hR.below.size
  have habr:ab<wr.heap.size:=by omega
  by_cases hqn:q<n
  ·obtain⟨vN1,vT1,vS1,vU1,Bk1,A1,hM1,hn1⟩:=hR.wk
   have hc14:∀j u,(ActBx (f q)).toList[j]?=some u->wr.cell? ⟨ab,q*14+j,none⟩=some u:=fun j u hu=>(hR.below.cell (p:=⟨ab,q*14+j,none⟩) hab).trans (uh HCS q hqn j u hu)
   have b0:=hc14 0 _ rfl;have b1:=hc14 1 _ rfl;have b2:=hc14 2 _ rfl;have b3:=hc14 3 _ rfl;have b4:=hc14 4 _ rfl;have b5:=hc14 5 _ rfl;have b6:=hc14 6 _ rfl
   have b7:=hc14 7 _ rfl;have b8:=hc14 8 _ rfl;have b9:=hc14 9 _ rfl;have b10:=hc14 10 _ rfl;have b11:=hc14 11 _ rfl;have b12:=hc14 12 _ rfl;have b13:=hc14 13 _ rfl
   rw[Nat.add_zero]at b0
   have hbA:Below wr.heap.size wr (wr.alloc (.cells (ActBx (f q)) 51)):=(Below.refl _ _).alloc (Nat.le_refl _) _
   obtain⟨m2,d2⟩:=hM1.below hbA
   have hbB:=hR.below.trans (hbA.mono (by omega:B<=wr.heap.size))
   have HACT:=uy (wAct_any _ c B vN1 vT1 vS1 vU1 Bk1 A1 (aftS s0 f q) (f q) _ m2 (uh HG q hq) ((uh HT).below hbB hNG) (uh HWK q hqn) hNG ((uh HE).below hbB hB) hB (uh HDD q hqn))
   have HD2:=uy d2
   have HN1:=uy hn1
   have HBB:=uy hbB
   have HM1:=uy hM1
   clear hR hc14 hM1 hn1 hbA m2 d2 hbB
   go_wp2_with fail
   refine(uh HACT).mono ?_
   rintro e w3 ⟨rfl,vN2,vT2,vS2,vU2,Bk2,A2,hM3,hD3⟩
   obtain⟨x,hx⟩:∃x,ansQ s0 f q=x:=⟨_,rfl⟩
   rw[show ansD (aftS s0 f q) (f q)=x from hx]
   have HXX:=uy hx
   have z3:wr.heap.size+1<=w3.heap.size:=by have:=hD3.size;simpa using this
   have hrl:rb<wr.heap.size:=((uh HR).row.lt rb rfl).2
   have HST:Hid ((w3.alloc (.cells (anL x).toArray 45)).ownsRow B 45 12 (.slice (some ⟨rb,0,none⟩) q n) q (anR (ansQ s0 f) q)/\∀w5,w5.ownsRow B 45 12 (.slice (some ⟨rb,0,none⟩) (q+1) n) (q+1) (anR (ansQ s0 f) q++anL x)->(w3.alloc (.cells (anL x).toArray 45)).grownBy w5 (some rb)->PlRel w B c rb n s0 f (q+1) w5):=uy (by
    have hb4:Below w3.heap.size w3 (w3.alloc (.cells (anL x).toArray 45)):=(Below.refl _ _).alloc (Nat.le_refl _) _
    obtain⟨m4,d4⟩:=hM3.below hb4
    have hd:=((uh HD2).trans hD3).trans d4
    have hrow:(w3.alloc (.cells (anL x).toArray 45)).ownsRow B 45 12 (.slice (some ⟨rb,0,none⟩) q n) q (anR (ansQ s0 f) q):=own_keep (uh HR).row (fun k e=>by cases e;exact hd.block _ hrl (uh HN1))
    refine⟨hrow,fun w5 k1 k2=>PlRel.step (w3:=w3) (wr:=wr) hrow m4 (fun e=>(hd.own _ e).elim (uh HN1) (fun e=>by omega)) ?_ k2 (by rw[uh HXX];exact k1)⟩
    have hb:=(uh HR).below
    exact⟨hd.os.trans hb.os,hd.tape.trans hb.tape,hd.output.trans hb.output,Nat.le_trans hb.size hd.size,fun k hk=>(hd.block k (by omega) (fun e=>by have:=((uh HM1).rng e).1;omega)).trans (hb.block k hk)⟩)
   clear hM3 hD3 hx b0 b1 b2 b3 b4 b5 b6 b7 b8 b9 b10 b11 b12 b13 HACT HD2 HM1
   go_wp2_with (first|(at_builtin;refine wpList_append_fits _ rfl _ _ 60 rfl B 45 i0 12 Tryz.underlying60 hi0 hz1 rb q n (anR (ansQ s0 f) q) rfl (uh HST).1 ⟨w3.heap.size,0,none⟩ 1 1 (anL x) rfl rfl (World.news_of_block (Deep.blk_alloc_new w3 _)) (anL_one x) (by omega) ?_;intro w5 hown3 hgr3;have HR5:=uy ((uh HST).2 w5 hown3 hgr3);clear hown3 hgr3)|go_in)
   go_roundw
   case rel=>exact⟨q+1,by omega,by go_num,rfl,uh HR5⟩
   case measure=>simp[intOf];omega
  ·have hqe:q=n:=by omega
   subst hqe
   clear hR
   go_wp2_with fail
   go_ret
   rw[<-uh HRB]
   exact⟨rfl,uh HR⟩
end
section
open Go.RowKit
attribute [local go_sem] run_store_float run_equalIn_float
def vcell(f:Nat->Vl)(j:Nat):Value:=((vlL (f (j/5)))[j%5]?).getD undef
def scell(f:Nat->Si)(j:Nat):Value:=((siL (f (j/5)))[j%5]?).getD undef
theorem vcell_at(f:Nat->Vl)(k i:Nat)(hi:i<5):vcell f (k*5+i)=((vlL (f k))[i]?).getD undef:=by
 unfold vcell
 rw[show(k*5+i)/5=k by omega,show(k*5+i)%5=i by omega]
theorem scell_at(f:Nat->Si)(k i:Nat)(hi:i<5):scell f (k*5+i)=((siL (f k))[i]?).getD undef:=by
 unfold scell
 rw[show(k*5+i)/5=k by omega,show(k*5+i)%5=i by omega]
theorem vcells{w:World}{b N n:Nat}{t:TypeId}{g:Nat->Value}{f:Nat->Vl}(h:w.rowIs b t N g)(hN:n*5<=N)(hg:∀j,j<n*5->g j=vcell f j){i:Nat}(hi:i<n):VCell w b (i*5) (f i):=by
 have e:∀j,j<5->w.cell? ⟨b,i*5+j,none⟩=some (((vlL (f i))[j]?).getD undef):=fun j hj=>by
  rw[h.cell (i:=i*5+j) (by omega),hg _ (by omega),vcell_at f i j hj]
 exact⟨e 0 (by omega),e 1 (by omega),e 2 (by omega),e 3 (by omega),e 4 (by omega)⟩
theorem scells{w:World}{b N n:Nat}{t:TypeId}{g:Nat->Value}{f:Nat->Si}(h:w.rowIs b t N g)(hN:n*5<=N)(hg:∀j,j<n*5->g j=scell f j){i:Nat}(hi:i<n):SCl w b (i*5) (f i):=by
 have e:∀j,j<5->w.cell? ⟨b,i*5+j,none⟩=some (((siL (f i))[j]?).getD undef):=fun j hj=>by
  rw[h.cell (i:=i*5+j) (by omega),hg _ (by omega),scell_at f i j hj]
 exact⟨e 0 (by omega),e 1 (by omega),e 2 (by omega),e 3 (by omega),e 4 (by omega)⟩
end
section
open Go.RowKit
attribute [local go_sem] run_store_float run_equalIn_float
def VlV(f:Nat->Vl)(n:Nat)(w:World)(v:Value)(lo hi:Nat):Prop:=
 (n=0/\v=.slice none 0 0)\/∃b cp N g,v=.slice (some ⟨b,0,none⟩) n cp/\lo<=b/\b<hi/\w.rowIs b 43 N g/\n*5<=N/\∀j,j<n*5->g j=vcell f j
theorem VlV.keep{f:Nat->Vl}{n:Nat}{w w':World}{v:Value}{lo hi:Nat}(h:VlV f n w v lo hi)(hk:∀b,v.ownBlock=some b->w'.heap[b]?=w.heap[b]?):VlV f n w' v lo hi:=by
 rcases h with h|⟨b,cp,N,g,rfl,h2,h3,h4,h5,h6⟩
 ·exact .inl h
 ·exact .inr ⟨b,cp,N,g,rfl,h2,h3,World.rowIs.of_block h4 (hk b rfl),h5,h6⟩
theorem VlV.at{f:Nat->Vl}{n:Nat}{w:World}{v:Value}{lo hi:Nat}(h:VlV f n w v lo hi):∃a cp,v=.slice a n cp/\VAt w a n f:=by
 rcases h with⟨h0,rfl⟩|⟨b,cp,N,g,h1,h2,h3,h4,h5,h6⟩
 ·subst h0;exact⟨_,_,rfl,.inl rfl⟩
 ·exact⟨_,_,h1,.inr ⟨b,0,rfl,World.rowIs.lt h4,fun i hi=>by rw[Nat.zero_add];exact vcells h4 h5 h6 hi⟩⟩
theorem PrV.keep1{f:Nat->Pr}{n:Nat}{w w':World}{v:Value}{lo hi:Nat}(h:PrV f n w v lo hi)(hk:∀b,v.ownBlock=some b->w'.heap[b]?=w.heap[b]?):PrV f n w' v lo hi:=by
 rcases h with h|⟨b,cp,N,g,rfl,h2,h3,h4,h5,h6⟩
 ·exact .inl h
 ·exact .inr ⟨b,cp,N,g,rfl,h2,h3,World.rowIs.of_block h4 (hk b rfl),h5,h6⟩
theorem InV.keep1{f:Nat->Int}{n:Nat}{w w':World}{v:Value}{lo hi:Nat}(h:InV f n w v lo hi)(hk:∀b,v.ownBlock=some b->w'.heap[b]?=w.heap[b]?):InV f n w' v lo hi:=by
 rcases h with h|⟨b,cp,N,g,rfl,h2,h3,h4,h5,h6⟩
 ·exact .inl h
 ·exact .inr ⟨b,cp,N,g,rfl,h2,h3,World.rowIs.of_block h4 (hk b rfl),h5,h6⟩
theorem InV.at1{f:Nat->Int}{n:Nat}{w:World}{v:Value}{lo hi:Nat}(h:InV f n w v lo hi):∃a cp,v=.slice a n cp/\IAt w a n f:=by
 rcases h with⟨h0,rfl⟩|⟨b,cp,N,g,h1,h2,h3,h4,h5,h6⟩
 ·subst h0;exact⟨_,_,rfl,.inl rfl⟩
 ·exact⟨_,_,h1,.inr ⟨b,0,rfl,World.rowIs.lt h4,fun i hi=>by rw[Nat.zero_add,h4.cell (by omega),h6 i hi]⟩⟩
end
section
open Go.RowKit
attribute [local go_sem] run_store_float run_equalIn_float
structure Hs where
 v:Value
 l:Value
 i:Value
 x:Value
def Hs.own(h:Hs)(q:Nat):Prop:=h.v.ownBlock=some q\/h.l.ownBlock=some q\/h.i.ownBlock=some q\/h.x.ownBlock=some q
structure TbO (lo hi:Nat) (w:World) (b o:Nat) (h:Hs) (t:Tb):Prop where
 c0:w.cell? ⟨b,o,none⟩=some (.int .i64 t.shape)
 c1:w.cell? ⟨b,o+1,none⟩=some h.v
 c2:w.cell? ⟨b,o+2,none⟩=some h.l
 c3:w.cell? ⟨b,o+3,none⟩=some h.i
 c4:w.cell? ⟨b,o+4,none⟩=some h.x
 c5:w.cell? ⟨b,o+5,none⟩=some (.int .i64 t.d.used)
 c6:w.cell? ⟨b,o+6,none⟩=some (.int .i64 t.d.live)
 c7:w.cell? ⟨b,o+7,none⟩=some (.int .i64 t.d.turns)
 v:VlV t.V t.nv w h.v lo hi
 l:PrV t.d.L t.d.n w h.l lo hi
 i:InV t.d.I t.d.m w h.i lo hi
 x:InV t.d.X t.d.x w h.x lo hi
theorem TbO.keep{lo hi:Nat}{w w':World}{b o:Nat}{h:Hs}{t:Tb}(H:TbO lo hi w b o h t)(hk:∀q,h.own q->w'.heap[q]?=w.heap[q]?)(hc:∀j,j<8->w'.cell? ⟨b,o+j,none⟩=w.cell? ⟨b,o+j,none⟩):TbO lo hi w' b o h t:=
 ⟨(hc 0 (by omega)).trans H.c0,(hc 1 (by omega)).trans H.c1,(hc 2 (by omega)).trans H.c2,(hc 3 (by omega)).trans H.c3,(hc 4 (by omega)).trans H.c4,(hc 5 (by omega)).trans H.c5,(hc 6 (by omega)).trans H.c6,(hc 7 (by omega)).trans H.c7,
  H.v.keep (fun q e=>hk q (.inl e)),H.l.keep1 (fun q e=>hk q (.inr (.inl e))),H.i.keep1 (fun q e=>hk q (.inr (.inr (.inl e)))),H.x.keep1 (fun q e=>hk q (.inr (.inr (.inr e))))⟩
theorem TbO.lt{lo hi:Nat}{w:World}{b o:Nat}{h:Hs}{t:Tb}(H:TbO lo hi w b o h t){q:Nat}(hq:h.own q):q<w.heap.size/\lo<=q/\q<hi:=by
 rcases hq with e|e|e|e
 ·rcases H.v with⟨_,h1⟩|⟨b,cp,N,g,h1,h2,h3,h4,h5,h6⟩
  ·rw[h1]at e;cases e
  ·rw[h1]at e;cases e;exact⟨World.rowIs.lt h4,h2,h3⟩
 ·rcases H.l with⟨_,h1⟩|⟨b,cp,N,g,h1,h2,h3,h4,h5,h6⟩
  ·rw[h1]at e;cases e
  ·rw[h1]at e;cases e;exact⟨World.rowIs.lt h4,h2,h3⟩
 ·rcases H.i with⟨_,h1⟩|⟨b,cp,N,g,h1,h2,h3,h4,h5,h6⟩
  ·rw[h1]at e;cases e
  ·rw[h1]at e;cases e;exact⟨World.rowIs.lt h4,h2,h3⟩
 ·rcases H.x with⟨_,h1⟩|⟨b,cp,N,g,h1,h2,h3,h4,h5,h6⟩
  ·rw[h1]at e;cases e
  ·rw[h1]at e;cases e;exact⟨World.rowIs.lt h4,h2,h3⟩
structure Apart (b n:Nat) (H:Nat->Hs):Prop where
 nb:∀i,i<n->¬(H i).own b
 ij:∀i j q,i<n->j<n->(H i).own q->(H j).own q->i=j
 vl:∀i q,i<n->(H i).v.ownBlock=some q->(H i).l.ownBlock≠some q
 vi:∀i q,i<n->(H i).v.ownBlock=some q->(H i).i.ownBlock≠some q
 vx:∀i q,i<n->(H i).v.ownBlock=some q->(H i).x.ownBlock≠some q
 li:∀i q,i<n->(H i).l.ownBlock=some q->(H i).i.ownBlock≠some q
 lx:∀i q,i<n->(H i).l.ownBlock=some q->(H i).x.ownBlock≠some q
 ix:∀i q,i<n->(H i).i.ownBlock=some q->(H i).x.ownBlock≠some q
end
section
open Go.RowKit
attribute [local go_sem] run_store_float run_equalIn_float run_store_func
theorem VlV.of{f:Nat->Vl}{n B:Nat}{w:World}{v:Value}(h:VlOwn w B v n f):VlV f n w v B w.heap.size:=by
 have hlt:=h.lt
 obtain⟨hl,⟨hv,h0⟩|⟨g',cap,cur,hv,hb,hblk,h1,h2,h3,h4⟩⟩:=h
 ·exact .inl ⟨h0,hv⟩
 ·subst hv
  refine .inr ⟨g',cap,cap*5,fun j=>(cur[j]?).getD undef,rfl,hb,(hlt g' rfl).2,⟨cur,hblk,h3,fun i hi=>by simp[Array.getElem?_eq_getElem (show i<cur.size by omega)]⟩,by omega,fun j hj=>?_⟩
  have h5:=vlR_get (f:=f) (n:=n) (i:=j/5) (j:=j%5) (by omega) (by omega)
  rw[show j/5*5+j%5=j by omega,<-h4,List.getElem?_take,if_pos hj,Array.getElem?_toList]at h5
  show(cur[j]?).getD undef=_
  rw[h5]
  rfl
theorem PAt.news{w:World}{a:Option Addr}{n:Nat}{f:Nat->Pr}(h:PAt w a n f):n=0\/∃ad,a=some ad/\∀j u,(pL f n)[j]?=some u->w.cell? (ad.add j)=some u:=by
 rcases h with h|⟨b,off,e,hlt,hc⟩
 ·exact .inl h
 ·refine .inr ⟨_,e,fun j u hu=>?_⟩
  have hadd:(⟨b,off,none⟩:Addr).add j=⟨b,off+j,none⟩:=by unfold Addr.add;split<;>simp_all
  rw[hadd]
  have hj:j<n*11:=by
   have:=(List.getElem?_eq_some_iff.1 hu).1
   rwa [pL_length]at this
  obtain⟨i,r,hi,hr,e⟩:∃i r,i<n/\r<11/\j=i*11+r:=⟨j/11,j%11,by omega,by omega,by omega⟩
  subst e
  rw[pL_get hi hr]at hu
  obtain⟨c0,c1,c2,c3,c4,c5,c6,c7,c8,c9,c10⟩:=hc i hi
  rw[<-Nat.add_assoc]
  rcases r with _|_|_|_|_|_|_|_|_|_|_|r
  all_goals first|(cases hu;assumption)|omega
theorem IAt.news{w:World}{a:Option Addr}{n:Nat}{f:Nat->Int}(h:IAt w a n f):n=0\/∃ad,a=some ad/\∀j u,(iL f n)[j]?=some u->w.cell? (ad.add j)=some u:=by
 rcases h with h|⟨b,off,e,hlt,hc⟩
 ·exact .inl h
 ·refine .inr ⟨_,e,fun j u hu=>?_⟩
  have hadd:(⟨b,off,none⟩:Addr).add j=⟨b,off+j,none⟩:=by unfold Addr.add;split<;>simp_all
  rw[hadd]
  have hj:j<n:=by
   have:=(List.getElem?_eq_some_iff.1 hu).1
   rwa [iL_length]at this
  rw[iL_get hj]at hu
  cases hu
  exact hc j hj
theorem iL_one(f:Nat->Int)(n:Nat):∀u∈iL f n,u.oneCell'=true:=by
 intro u hu
 obtain⟨j,hj,rfl⟩:=List.getElem_of_mem hu
 have hj':j<n:=by rwa [iL_length]at hj
 have:=iL_get (f:=f) hj'
 rw[List.getElem?_eq_getElem hj]at this
 rw[Option.some.inj this]
 rfl
theorem grown_bel{w W w':World}{B:Nat}(hb:Below B w W)(hB:B<=W.heap.size)(hg:W.grownBy w' none):Below B w w':=⟨hg.os.trans hb.os,hg.tape.trans hb.tape,hg.output.trans hb.output,Nat.le_trans hb.size hg.size,fun k hk=>(hg.block k (by omega) (by simp)).trans (hb.block k hk)⟩
theorem info6:(Tryz.prog.info? 92).map (·.size)=some 6:=by kernel_rfl
theorem copyDict_any(la:Option Addr)(lc:Nat)(ia:Option Addr)(ic:Nat)(xa:Option Addr)(xc:Nat)(d:Dc)(w:World)(hD:DAt w la ia xa d)(hS:Small d):
  Calls Tryz.prog 356 #[Dv la lc ia ic xa xc d] w fun e w'=>(∃v0 v1 v2,e=.returned (DvV v0 v1 v2 d)/\DV d w' v0 v1 v2 w.heap.size w'.heap.size)/\Below w.heap.size w w':=by
 obtain⟨i0,hi0,hz0,hz1,hz2⟩:=info_parts infoPair
 obtain⟨j0,hj0,jz0,jz1,jz2⟩:=info_parts infoInt
 have hn:=hS.n
 have hm:=hS.m
 have hx:=hS.x
 obtain⟨W,hW⟩:∃W,W=(w.alloc (.cells #[.slice la d.n lc,.slice ia d.m ic,.slice xa d.x xc,.int .i64 d.used,.int .i64 d.live,.int .i64 d.turns] 92)).alloc (.cells D0 92):=⟨_,rfl⟩
 have hbW:Below w.heap.size w W:=by rw[hW];exact((Below.refl _ _).alloc (Nat.le_refl _) _).alloc (by simp) _
 have hzW:W.heap.size=w.heap.size+1+1:=by rw[hW];simp
 have b0:W.heap[w.heap.size]?=some (.cells #[.slice la d.n lc,.slice ia d.m ic,.slice xa d.x xc,.int .i64 d.used,.int .i64 d.live,.int .i64 d.turns] 92 (0,0)):=by
  rw[hW]
  exact(Deep.blk_alloc_lt _ _ _ (by simp)).trans (Deep.blk_alloc_new _ _)
 have b1:W.heap[w.heap.size+1]?=some (.cells D0 92 (0,0)):=by
  rw[hW]
  have h1:=Deep.blk_alloc_new (w.alloc (.cells #[.slice la d.n lc,.slice ia d.m ic,.slice xa d.x xc,.int .i64 d.used,.int .i64 d.live,.int .i64 d.turns] 92)) (.cells D0 92)
  simpa using h1
 have HNL:=uy (PAt.news (hD.log.below hbW rfl))
 have HBW:=uy hbW
 have HBB:=uy (And.intro b0 b1)
 have HDA:=uy hD
 clear hbW b0 b1 hD hS
 go_enter Tryz.func356,Tryz.ntmps356
 go_upto_region 2 with(at_builtin;rw[<-hW];refine wpList_append_copy rfl _ _ 85 rfl w.heap.size 96 i0 PZ 11 104 Tryz.underlying85 hi0 hz0 hz1 hz2 rfl (by decide) rfl la d.n lc (pL d.L d.n) rfl (pL_length _ _) (uh HNL) (pL_one _ _) (by unfold maxLen;omega) (by omega) (by omega) (w.heap.size+1+1) hzW ?_;intro a1 c1 w1 hown1 hgr1 hloc1;have q0:=(hgr1.block w.heap.size (by omega) (by simp)).trans (uh HBB).1;have q1:=(hgr1.block (w.heap.size+1) (by omega) (by simp)).trans (uh HBB).2;have x0:w1.cell? ⟨w.heap.size,0,none⟩=some (.slice la d.n lc):=(by simp[World.cell?,q0]);have xf:w1.frozen? ⟨w.heap.size,0,none⟩=false:=(by simp[World.frozen?,q0]);have l0:=blk_lt q0;have HB1:=uy (grown_bel (uh HBW) (by omega) hgr1);have HO1:=uy hown1;have HL1:=uy hloc1;have HQ:=uy (And.intro q0 q1);clear hgr1 hown1 hloc1 q0 q1)
 obtain⟨w2,hw2⟩:∃w2,w2=w1.setCell ⟨w.heap.size,0,none⟩ (.slice a1 d.n c1):=⟨_,rfl⟩
 rw[<-hw2]
 have o2:∀k,k≠w.heap.size->w2.heap[k]?=w1.heap[k]?:=fun k hk=>by rw[hw2];exact Deep.blk_setCell_other _ _ _ _ (by exact hk)
 have e2:w2.heap[w.heap.size]?=some (.cells #[.slice a1 d.n c1,.slice ia d.m ic,.slice xa d.x xc,.int .i64 d.used,.int .i64 d.live,.int .i64 d.turns] 92 (0,0)):=by rw[hw2];exact(heap_setCell_same _ _ _ _ _ _ (uh HQ).1).trans (by simp)
 have f2:=(o2 (w.heap.size+1) (by omega)).trans (uh HQ).2
 have hb2:Below w.heap.size w w2:=by rw[hw2];exact(uh HB1).setCell (Nat.le_refl _) _
 have z2:w2.heap.size=w1.heap.size:=by rw[hw2];simp
 have hz1':w.heap.size+1<w1.heap.size:=blk_lt (uh HQ).2
 have HO2:=uy (own_keep (w':=w2) (uh HO1) (fun q e=>o2 q (by have:=uh HL1 q e;omega)))
 have hL1:∀q,(Value.slice a1 d.n c1).ownBlock=some q->w.heap.size+1<q/\q<w2.heap.size:=fun q e=>⟨by have:=uh HL1 q e;omega,((uh HO2).lt q e).2⟩
 have HN2:=uy (IAt.news ((uh HDA).ints.below hb2 rfl))
 have y1:w2.cell? ⟨w.heap.size,1,none⟩=some (.slice ia d.m ic):=by simp[World.cell?,e2]
 have ly:=blk_lt e2
 have hZ2:w.heap.size<=w2.heap.size:=hb2.size
 have HB2:=uy hb2
 have HE2:=uy (And.intro e2 f2)
 have HL2:=uy hL1
 clear hw2 o2 e2 f2 hb2 z2 hz1' hL1 x0 xf l0 HQ HO1 HB1 HL1 hzW
 go_upto_region 3 with(at_builtin;refine wpList_append_copy rfl _ _ 90 rfl w.heap.size 3 j0 (.int .i64 0) 1 8 Tryz.underlying90 hj0 jz0 jz1 jz2 rfl (by decide) rfl ia d.m ic (iL d.I d.m) rfl (by rw[iL_length,Nat.mul_one]) (uh HN2) (iL_one _ _) (by unfold maxLen;omega) (by omega) hZ2 w2.heap.size rfl ?_;intro a3 c3 w3 hown3 hgr3 hloc3;have q0:=(hgr3.block w.heap.size (blk_lt (uh HE2).1) (by simp)).trans (uh HE2).1;have q1:=(hgr3.block (w.heap.size+1) (blk_lt (uh HE2).2) (by simp)).trans (uh HE2).2;have x0:w3.cell? ⟨w.heap.size,1,none⟩=some (.slice ia d.m ic):=(by simp[World.cell?,q0]);have xf:w3.frozen? ⟨w.heap.size,1,none⟩=false:=(by simp[World.frozen?,q0]);have l0:=blk_lt q0;have HB3:=uy (grown_bel (uh HB2) hZ2 hgr3);have HO3:=uy hown3;have HP3:=uy (own_keep (w':=w3) (uh HO2) (fun q e=>hgr3.block q (uh HL2 q e).2 (by simp)));have HL3:=uy hloc3;have HQ:=uy (And.intro q0 q1);clear hgr3 hown3 hloc3 q0 q1)
 clear y1 ly
 obtain⟨w4,hw4⟩:∃w4,w4=w3.setCell ⟨w.heap.size,1,none⟩ (.slice a3 d.m c3):=⟨_,rfl⟩
 rw[<-hw4]
 have o4:∀k,k≠w.heap.size->w4.heap[k]?=w3.heap[k]?:=fun k hk=>by rw[hw4];exact Deep.blk_setCell_other _ _ _ _ (by exact hk)
 have e4:w4.heap[w.heap.size]?=some (.cells #[.slice a1 d.n c1,.slice a3 d.m c3,.slice xa d.x xc,.int .i64 d.used,.int .i64 d.live,.int .i64 d.turns] 92 (0,0)):=by rw[hw4];exact(heap_setCell_same _ _ _ _ _ _ (uh HQ).1).trans (by simp)
 have f4:=(o4 (w.heap.size+1) (by omega)).trans (uh HQ).2
 have hb4:Below w.heap.size w w4:=by rw[hw4];exact(uh HB3).setCell (Nat.le_refl _) _
 have hz2':w.heap.size+1<w2.heap.size:=blk_lt (uh HE2).2
 have HO4:=uy (own_keep (w':=w4) (uh HO3) (fun q e=>o4 q (by have:=uh HL3 q e;omega)))
 have HP4:=uy (own_keep (w':=w4) (uh HP3) (fun q e=>o4 q (by have:=(uh HL2 q e).1;omega)))
 have hL4:∀q,(Value.slice a3 d.m c3).ownBlock=some q->w.heap.size+1<q/\q<w4.heap.size/\w2.heap.size<=q:=fun q e=>⟨by have:=uh HL3 q e;omega,((uh HO4).lt q e).2,by have:=uh HL3 q e;omega⟩
 have hL14:∀q,(Value.slice a1 d.n c1).ownBlock=some q->w.heap.size+1<q/\q<w4.heap.size/\q<w2.heap.size:=fun q e=>⟨(uh HL2 q e).1,((uh HP4).lt q e).2,(uh HL2 q e).2⟩
 have HN4:=uy (IAt.news ((uh HDA).index.below hb4 rfl))
 have y2:w4.cell? ⟨w.heap.size,2,none⟩=some (.slice xa d.x xc):=by simp[World.cell?,e4]
 have ly:=blk_lt e4
 have hZ4:w.heap.size<=w4.heap.size:=hb4.size
 have HB4:=uy hb4
 have HE4:=uy (And.intro e4 f4)
 have HL4:=uy (And.intro hL4 hL14)
 clear hw4 o4 e4 f4 hb4 hz2' hL4 hL14 x0 xf l0 HQ HO3 HP3 HB3 HL3 HO2 HE2 HL2 HN2 HB2 hZ2
 go_upto_region 4 with(at_builtin;refine wpList_append_copy rfl _ _ 90 rfl w.heap.size 3 j0 (.int .i64 0) 1 8 Tryz.underlying90 hj0 jz0 jz1 jz2 rfl (by decide) rfl xa d.x xc (iL d.X d.x) rfl (by rw[iL_length,Nat.mul_one]) (uh HN4) (iL_one _ _) (by unfold maxLen;omega) (by omega) hZ4 w4.heap.size rfl ?_;intro a5 c5 w5 hown5 hgr5 hloc5;have q0:=(hgr5.block w.heap.size (blk_lt (uh HE4).1) (by simp)).trans (uh HE4).1;have q1:=(hgr5.block (w.heap.size+1) (blk_lt (uh HE4).2) (by simp)).trans (uh HE4).2;have x0:w5.cell? ⟨w.heap.size,2,none⟩=some (.slice xa d.x xc):=(by simp[World.cell?,q0]);have xf:w5.frozen? ⟨w.heap.size,2,none⟩=false:=(by simp[World.frozen?,q0]);have l0:=blk_lt q0;have HB5:=uy (grown_bel (uh HB4) hZ4 hgr5);have HO5:=uy hown5;have HP5:=uy (own_keep (w':=w5) (uh HP4) (fun q e=>hgr5.block q ((uh HL4).2 q e).2.1 (by simp)));have HI5:=uy (own_keep (w':=w5) (uh HO4) (fun q e=>hgr5.block q ((uh HL4).1 q e).2.1 (by simp)));have HL5:=uy hloc5;have HQ:=uy (And.intro q0 q1);clear hgr5 hown5 hloc5 q0 q1)
 clear y2 ly
 obtain⟨w6,hw6⟩:∃w6,w6=w5.setCell ⟨w.heap.size,2,none⟩ (.slice a5 d.x c5):=⟨_,rfl⟩
 rw[<-hw6]
 have o6:∀k,k≠w.heap.size->w6.heap[k]?=w5.heap[k]?:=fun k hk=>by rw[hw6];exact Deep.blk_setCell_other _ _ _ _ (by exact hk)
 have e6:w6.heap[w.heap.size]?=some (.cells #[.slice a1 d.n c1,.slice a3 d.m c3,.slice a5 d.x c5,.int .i64 d.used,.int .i64 d.live,.int .i64 d.turns] 92 (0,0)):=by rw[hw6];exact(heap_setCell_same _ _ _ _ _ _ (uh HQ).1).trans (by simp)
 have f6:=(o6 (w.heap.size+1) (by omega)).trans (uh HQ).2
 have hb6:Below w.heap.size w w6:=by rw[hw6];exact(uh HB5).setCell (Nat.le_refl _) _
 have hz4':w.heap.size+1<w4.heap.size:=blk_lt (uh HE4).2
 have hX6:=own_keep (w':=w6) (uh HO5) (fun q e=>o6 q (by have:=uh HL5 q e;omega))
 have hI6:=own_keep (w':=w6) (uh HI5) (fun q e=>o6 q (by have:=((uh HL4).1 q e).1;omega))
 have hP6:=own_keep (w':=w6) (uh HP5) (fun q e=>o6 q (by have:=((uh HL4).2 q e).1;omega))
 obtain⟨w7,hst7,hS7⟩:=st_dictA f6 a1 a3 a5 d.n d.m d.x c1 c3 c5 d
 have hX7:=own_keep (w':=w7) hX6 (fun q e=>hS7.other q (by have:=uh HL5 q e;omega))
 have hI7:=own_keep (w':=w7) hI6 (fun q e=>hS7.other q (by have:=((uh HL4).1 q e).1;omega))
 have hP7:=own_keep (w':=w7) hP6 (fun q e=>hS7.other q (by have:=((uh HL4).2 q e).1;omega))
 have HDV:Hid (DV d w7 (.slice a1 d.n c1) (.slice a3 d.m c3) (.slice a5 d.x c5) w.heap.size w7.heap.size):=uy ⟨PrV.of hP7,InV.of hI7,InV.of hX7,fun q e e'=>by
   have:=((uh HL4).1 q e').2.2
   have:=((uh HL4).2 q e).2.2
   omega,fun q e e'=>by
   have:=uh HL5 q e'
   have:=((uh HL4).2 q e).2.1
   omega,fun q e e'=>by
   have:=uh HL5 q e'
   have:=((uh HL4).1 q e).2.1
   omega⟩
 have HB7:=uy (hS7.below hb6 (by omega))
 have HST:=uy hst7
 have HX:=uy e6
 have r0:=st_cells (vs:=[.slice a1 d.n c1,.slice a3 d.m c3,.slice a5 d.x c5,.int .i64 d.used,.int .i64 d.live,.int .i64 d.turns]) hS7 0 _ rfl
 have r1:=st_cells (vs:=[.slice a1 d.n c1,.slice a3 d.m c3,.slice a5 d.x c5,.int .i64 d.used,.int .i64 d.live,.int .i64 d.turns]) hS7 1 _ rfl
 have r2:=st_cells (vs:=[.slice a1 d.n c1,.slice a3 d.m c3,.slice a5 d.x c5,.int .i64 d.used,.int .i64 d.live,.int .i64 d.turns]) hS7 2 _ rfl
 have r3:=st_cells (vs:=[.slice a1 d.n c1,.slice a3 d.m c3,.slice a5 d.x c5,.int .i64 d.used,.int .i64 d.live,.int .i64 d.turns]) hS7 3 _ rfl
 have r4:=st_cells (vs:=[.slice a1 d.n c1,.slice a3 d.m c3,.slice a5 d.x c5,.int .i64 d.used,.int .i64 d.live,.int .i64 d.turns]) hS7 4 _ rfl
 have r5:=st_cells (vs:=[.slice a1 d.n c1,.slice a3 d.m c3,.slice a5 d.x c5,.int .i64 d.used,.int .i64 d.live,.int .i64 d.turns]) hS7 5 _ rfl
 clear hw6 o6 e6 f6 hb6 hz4' hX6 hI6 hP6 hX7 hI7 hP7 hst7 hS7 x0 xf l0 HQ
 go_wp2_with (first|(refine wpList_load_row rfl 92 _ rfl w.heap.size rfl _ _ _ _ (uh HX) Tryz.underlying92 rfl info6 ?_)|(refine wpList_store rfl rfl _ (uh HST) ?_))
 refine bodyPost_ret (v:=DvV (.slice a1 d.n c1) (.slice a3 d.m c3) (.slice a5 d.x c5) d) (by simp[results,Tryz.results356,go_sem,r0,r1,r2,r3,r4,r5]) rfl ⟨⟨_,_,_,rfl,uh HDV⟩,uh HB7⟩
end
section
open Go.RowKit
attribute [local go_sem] run_store_float run_equalIn_float run_store_func
structure TbR (lo hi:Nat) (w:World) (h:Hs) (t:Tb):Prop where
 v:VlV t.V t.nv w h.v lo hi
 l:PrV t.d.L t.d.n w h.l lo hi
 i:InV t.d.I t.d.m w h.i lo hi
 x:InV t.d.X t.d.x w h.x lo hi
 vl:∀q,h.v.ownBlock=some q->h.l.ownBlock≠some q
 vi:∀q,h.v.ownBlock=some q->h.i.ownBlock≠some q
 vx:∀q,h.v.ownBlock=some q->h.x.ownBlock≠some q
 li:∀q,h.l.ownBlock=some q->h.i.ownBlock≠some q
 lx:∀q,h.l.ownBlock=some q->h.x.ownBlock≠some q
 ix:∀q,h.i.ownBlock=some q->h.x.ownBlock≠some q
def tbL(h:Hs)(t:Tb):List Value:=[.int .i64 t.shape,h.v,h.l,h.i,h.x,.int .i64 t.d.used,.int .i64 t.d.live,.int .i64 t.d.turns]
theorem VlV.own{f:Nat->Vl}{n:Nat}{w:World}{v:Value}{lo hi:Nat}(h:VlV f n w v lo hi){b:Nat}(e:v.ownBlock=some b):lo<=b/\b<hi/\b<w.heap.size:=by
 rcases h with⟨_,rfl⟩|⟨b',cp,N,g,rfl,h2,h3,h4,_⟩
 ·cases e
 ·cases e;exact⟨h2,h3,World.rowIs.lt h4⟩
theorem InV.own'{f:Nat->Int}{n:Nat}{w:World}{v:Value}{lo hi:Nat}(h:InV f n w v lo hi){b:Nat}(e:v.ownBlock=some b):lo<=b/\b<hi/\b<w.heap.size:=by
 rcases h with⟨_,rfl⟩|⟨b',cp,N,g,rfl,h2,h3,h4,_⟩
 ·cases e
 ·cases e;exact⟨h2,h3,World.rowIs.lt h4⟩
theorem TbR.own{lo hi:Nat}{w:World}{h:Hs}{t:Tb}(H:TbR lo hi w h t){q:Nat}(e:h.own q):lo<=q/\q<hi/\q<w.heap.size:=by
 rcases e with e|e|e|e
 ·exact H.v.own e
 ·exact H.l.own e
 ·exact H.i.own' e
 ·exact H.x.own' e
theorem TbR.one{lo hi:Nat}{w:World}{h:Hs}{t:Tb}(H:TbR lo hi w h t):∃a1 c1 a2 c2 a3 c3 a4 c4,h=⟨.slice a1 t.nv c1,.slice a2 t.d.n c2,.slice a3 t.d.m c3,.slice a4 t.d.x c4⟩:=by
 obtain⟨a1,c1,e1,_⟩:=H.v.at
 obtain⟨a2,c2,e2,_⟩:=H.l.at
 obtain⟨a3,c3,e3,_⟩:=H.i.at1
 obtain⟨a4,c4,e4,_⟩:=H.x.at1
 cases h
 simp only at e1 e2 e3 e4
 exact⟨a1,c1,a2,c2,a3,c3,a4,c4,by rw[e1,e2,e3,e4]⟩
theorem TbR.keep{lo hi:Nat}{w w':World}{h:Hs}{t:Tb}(H:TbR lo hi w h t)(hk:∀q,h.own q->w'.heap[q]?=w.heap[q]?):TbR lo hi w' h t:=
 ⟨H.v.keep (fun b e=>hk b (.inl e)),H.l.keep1 (fun b e=>hk b (.inr (.inl e))),H.i.keep1 (fun b e=>hk b (.inr (.inr (.inl e)))),H.x.keep1 (fun b e=>hk b (.inr (.inr (.inr e)))),H.vl,H.vi,H.vx,H.li,H.lx,H.ix⟩
theorem VlV.wide{f:Nat->Vl}{n:Nat}{w:World}{v:Value}{lo hi lo' hi':Nat}(h:VlV f n w v lo hi)(h1:lo'<=lo)(h2:hi<=hi'):VlV f n w v lo' hi':=by
 rcases h with h|⟨b,cp,N,g,e1,e2,e3,e4⟩
 ·exact .inl h
 ·exact .inr ⟨b,cp,N,g,e1,by omega,by omega,e4⟩
theorem TbR.wide{lo hi lo' hi':Nat}{w:World}{h:Hs}{t:Tb}(H:TbR lo hi w h t)(h1:lo'<=lo)(h2:hi<=hi'):TbR lo' hi' w h t:=
 ⟨H.v.wide h1 h2,H.l.wide h1 h2,H.i.wide h1 h2,H.x.wide h1 h2,H.vl,H.vi,H.vx,H.li,H.lx,H.ix⟩
abbrev Tb0:Array Value:=#[.int .i64 0,.slice none 0 0,.slice none 0 0,.slice none 0 0,.slice none 0 0,.int .i64 0,.int .i64 0,.int .i64 0]
theorem sz_table(w:World):(sizeOf 94).run Tryz.prog w=.ok 8 w:=by kernel_rfl
def HeldTb(bx nb j:Nat)(va:Option Addr)(n vc:Nat)(W:World):Prop:=W.cell? ⟨bx,7,none⟩=some (.pointer (some ⟨nb,0,none⟩))/\W.cell? ⟨nb,0,none⟩=some (.int .i64 (j:Int))/\W.cell? ⟨bx,0,none⟩=some (.slice va n vc)
theorem HeldTb.keep{bx nb j:Nat}{va:Option Addr}{n vc:Nat}{W W':World}(h:HeldTb bx nb j va n vc W)(h1:W'.heap[bx]?=W.heap[bx]?)(h2:W'.heap[nb]?=W.heap[nb]?):HeldTb bx nb j va n vc W':=
 ⟨(World.cell?_of_block (a:=⟨bx,7,none⟩) h1).trans h.1,(World.cell?_of_block (a:=⟨nb,0,none⟩) h2).trans h.2.1,(World.cell?_of_block (a:=⟨bx,0,none⟩) h1).trans h.2.2⟩
def TabP(t:Tb)(w:World)(e:Ending)(w':World):Prop:=(∃h,e=.returned (.agg (tbL h t).toArray)/\TbR w.heap.size w'.heap.size w' h t)/\Below w.heap.size w w'
theorem shapedTable_any(A:Ad)(t:Tb)(s:Sto)(b0:Nat)(B:Nat->Nat)(j:Nat)(w:World)(hN:NdS w s b0 B)(hj:j<s.nf)(hs:t.shape=j)(hn:t.nv<=12)(hb:bare t.d)(hV:VAt w A.va t.nv t.V):
  Calls Tryz.prog 345 #[ShdA (B j) A t] w fun e w'=>TabP t w e w':=by
 obtain⟨i0,hi0,hz0,hz1,hz2⟩:=info_parts infoValue
 obtain⟨W,hW⟩:∃W,W=(w.alloc (.cells #[.slice A.va t.nv A.vc,.slice A.la t.d.n A.lc,.slice A.ia t.d.m A.ic,.slice A.xa t.d.x A.xc,.int .i64 t.d.used,.int .i64 t.d.live,.int .i64 t.d.turns,.pointer (some ⟨B j,0,none⟩)] 236)).alloc (.cells Tb0 94):=⟨_,rfl⟩
 have hbW:Below w.heap.size w W:=by rw[hW];exact((Below.refl _ _).alloc (Nat.le_refl _) _).alloc (by simp) _
 have hzW:W.heap.size=w.heap.size+1+1:=by rw[hW];simp
 have x0:W.cell? ⟨w.heap.size,0,none⟩=some (.slice A.va t.nv A.vc):=by rw[hW];simp[go_sem]
 have x7:W.cell? ⟨w.heap.size,7,none⟩=some (.pointer (some ⟨B j,0,none⟩)):=by rw[hW];simp[go_sem]
 have b1:W.heap[w.heap.size+1]?=some (.cells Tb0 94 (0,0)):=by
  rw[hW]
  have h1:=Deep.blk_alloc_new (w.alloc (.cells #[.slice A.va t.nv A.vc,.slice A.la t.d.n A.lc,.slice A.ia t.d.m A.ic,.slice A.xa t.d.x A.xc,.int .i64 t.d.used,.int .i64 t.d.live,.int .i64 t.d.turns,.pointer (some ⟨B j,0,none⟩)] 236)) (.cells Tb0 94)
  simpa using h1
 obtain⟨nl,n0,_⟩:=NdS.cell (hN.below hbW) hj
 have hS0:HeldTb w.heap.size (B j) j A.va t.nv A.vc W.drew:=⟨x7,n0,x0⟩
 have hNW:t.nv=0\/∃ad,A.va=some ad/\∀j u,(vlR t.V t.nv)[j]?=some u->W.cell? (ad.add j)=some u:=by
  rcases hV with h|⟨vb,off,eva,hvl,hvc⟩
  ·exact .inl h
  ·exact .inr ⟨_,eva,VAt.news (w:=W) (fun i hi=>(hvc i hi).keep (fun q=>hbW.cell (p:=⟨vb,q,none⟩) hvl))⟩
 have HF:Hid (∀a3 c3 w3,w3.ownsRow w.heap.size 43 5 (.slice a3 t.nv c3) t.nv (vlR t.V t.nv)->W.drew.grownBy w3 none->(∀q,(Value.slice a3 t.nv c3).ownBlock=some q->q=w.heap.size+1+1)->
   HeldTb w.heap.size (B j) j A.va t.nv A.vc w3/\∃w4,(Instr.storeAt 94 (.pointer (some ⟨w.heap.size+1,0,none⟩)) (.agg #[.int .i64 (j:Int),.slice a3 t.nv c3,.slice none 0 0,.slice none 0 0,.slice none 0 0,.int .i64 0,.int .i64 0,.int .i64 0])).run Tryz.prog w3=.ok () w4/\Stored w3 w4 (w.heap.size+1) #[.int .i64 (j:Int),.slice a3 t.nv c3,.slice none 0 0,.slice none 0 0,.slice none 0 0,.int .i64 0,.int .i64 0,.int .i64 0] 94/\HeldTb w.heap.size (B j) j A.va t.nv A.vc w4/\
   TabP t w (.returned (.agg #[.int .i64 (j:Int),.slice a3 t.nv c3,.slice none 0 0,.slice none 0 0,.slice none 0 0,.int .i64 0,.int .i64 0,.int .i64 0])) w4):=uy (by
  intro a3 c3 w3 h1 h2 h3
  have hk:∀k,k<W.heap.size->w3.heap[k]?=W.heap[k]?:=fun k hk=>h2.block k hk (by simp)
  have hz3:W.heap.size<=w3.heap.size:=h2.size
  have hS3:HeldTb w.heap.size (B j) j A.va t.nv A.vc w3:=hS0.keep (hk _ (by omega)) (hk _ nl)
  obtain⟨d1,d2,d3,d4,d5,d6⟩:=hb
  have hB3:Below w.heap.size w w3:=⟨h2.os.trans hbW.os,h2.tape.trans hbW.tape,h2.output.trans hbW.output,by omega,fun k hk'=>(hk k (by omega)).trans (hbW.block k hk')⟩
  have hbx:w3.heap[w.heap.size+1]?=some (.cells Tb0 94 (0,0)):=(hk _ (by omega)).trans b1
  obtain⟨w4,k1,k2⟩:=storeAt_any (t:=94) (v:=.agg #[.int .i64 (j:Int),.slice a3 t.nv c3,.slice none 0 0,.slice none 0 0,.slice none 0 0,.int .i64 0,.int .i64 0,.int .i64 0]) (old:=Tb0.toList) (vs:=[.int .i64 (j:Int),.slice a3 t.nv c3,.slice none 0 0,.slice none 0 0,.slice none 0 0,.int .i64 0,.int .i64 0,.int .i64 0]) sz_table hbx rfl rfl (by simp[Value.oneCell']) rfl
  have hO4:=own_keep (w':=w4) h1 (fun q e=>k2.other q (by have:=h3 q e;omega))
  have hnb:B j≠w.heap.size+1:=by have:=(NdS.cell hN hj).1;omega
  refine⟨hS3,w4,k1,k2,hS3.keep (k2.other _ (by omega)) (k2.other _ hnb),⟨⟨.slice a3 t.nv c3,.slice none 0 0,.slice none 0 0,.slice none 0 0⟩,?_,?_⟩,k2.below hB3 (by omega)⟩
  ·show _=Ending.returned (.agg #[.int .i64 t.shape,.slice a3 t.nv c3,.slice none 0 0,.slice none 0 0,.slice none 0 0,.int .i64 t.d.used,.int .i64 t.d.live,.int .i64 t.d.turns])
   rw[hs,d4,d5,d6]
  ·exact⟨VlV.of hO4,.inl ⟨d1,rfl⟩,.inl ⟨d2,rfl⟩,.inl ⟨d3,rfl⟩,(fun q _ e=>by cases e),(fun q _ e=>by cases e),(fun q _ e=>by cases e),(fun q e=>by cases e),(fun q e=>by cases e),(fun q e=>by cases e)⟩)
 have HNW:=uy hNW
 have hzz:w.heap.size<=W.heap.size:=by omega
 clear hV hN hs hb hNW hbW b1 x0 x7 n0
 go_enter Tryz.func345,Tryz.ntmps345
 go_wp2_with fail
 rw[<-hW]
 clear hW
 refine wpN_held (HeldTb w.heap.size (B j) j A.va t.nv A.vc) (by kernel_rfl) ?_
 change wpAnyH _ _ _ _ _ _ _ _ (World.drew _)
 refine tq 0 (v:=?_) ?_ ?_;rotate_left;intro w' ⟨s0,s1,s2⟩;go_simp;try with_reducible rfl
 simp only[Act.put,sA,sB,sC]
 refine tq 1 (v:=?_) ?_ ?_;rotate_left;intro w' ⟨s0,s1,s2⟩;go_simp;try with_reducible rfl
 simp only[Act.put,sA,sB,sC]
 refine tq 2 (v:=?_) ?_ ?_;rotate_left;intro w' ⟨s0,s1,s2⟩;go_simp;try with_reducible rfl
 simp only[Act.put,sA,sB,sC]
 refine tq 3 (v:=?_) ?_ ?_;rotate_left;intro w' ⟨s0,s1,s2⟩;go_simp;try with_reducible rfl
 simp only[Act.put,sA,sB,sC]
 refine tq 4 (v:=?_) ?_ ?_;rotate_left;intro w' ⟨s0,s1,s2⟩;go_simp;try with_reducible rfl
 simp only[Act.put,sA,sB,sC]
 refine tq 5 (v:=?_) ?_ ?_;rotate_left;intro w' ⟨s0,s1,s2⟩;go_simp;try with_reducible rfl
 simp only[Act.put,sA,sB,sC]
 refine tq 6 (v:=?_) ?_ ?_;rotate_left;intro w' ⟨s0,s1,s2⟩;go_simp;try with_reducible rfl
 simp only[Act.put,sA,sB,sC]
 refine tq 7 (v:=?_) ?_ ?_;rotate_left;intro w' ⟨s0,s1,s2⟩;go_simp;try with_reducible rfl
 simp only[Act.put,sA,sB,sC]
 refine wpAnyH_ready (rs:=[8]) (by kernel_rfl) (by simp) ?_
 refine AllReadyH.cons rfl (fun K hK=>?_) AllReadyH.nil
 refine step_append_copy _ rfl (.const (.slice none 0 0)) (.tmp 10) 89 rfl w.heap.size 43 i0 (V 0 0 0 ⟨#[]⟩ 0) 5 48 Tryz.underlying89 hi0 hz0 hz1 hz2 rfl (by decide) (by simp[Act.eval]) A.va t.nv A.vc (vlR t.V t.nv) (by simp[Act.eval]) (vlR_length _ _) (uh HNW) (vlR_one _ _) (by unfold maxLen;omega) (by omega) hzz (w.heap.size+1+1) hzW ?_
 intro a3 c3 w3 hown3 hgr3 hloc3
 obtain⟨hS3,w4,hst4,hS4,hS5,hP⟩:=uh HF a3 c3 w3 hown3 hgr3 hloc3
 have HST:=uy hst4
 have HP:=uy hP
 have HS4:=uy hS4
 refine hK.out _ _ hS3 (fun _=>?_)
 clear hK K hown3 hgr3 hloc3 hst4 hP hS4
 simp only[Act.put,List.getElem_toArray,List.getElem_cons_succ,List.getElem_cons_zero,List.setIfInBounds_toArray,List.set_cons_succ,List.set_cons_zero]
 refine tq 9 (v:=?_) ?_ ?_;rotate_left;intro w' ⟨s0,s1,s2⟩;go_simp;try with_reducible rfl
 (try simp only[Act.put]);(try simp only[List.setIfInBounds_toArray]);(try simp only[List.set_cons_succ]);try simp only[List.set_cons_zero]
 refine wpAnyH_ready (rs:=[10]) (by kernel_rfl) (by simp) ?_
 refine AllReadyH.cons rfl (fun K hK=>?_) AllReadyH.nil
 refine step_store rfl rfl _ (uh HST) ?_
 refine hK.out _ _ hS5 (fun _=>?_)
 clear hK K
 refine wpAnyH_done (by kernel_rfl) ?_ _
 refine QN.normal ?_
 have r0:=st_cells (vs:=[.int .i64 (j:Int),.slice a3 t.nv c3,.slice none 0 0,.slice none 0 0,.slice none 0 0,.int .i64 0,.int .i64 0,.int .i64 0]) (uh HS4) 0 _ rfl
 have r1:=st_cells (vs:=[.int .i64 (j:Int),.slice a3 t.nv c3,.slice none 0 0,.slice none 0 0,.slice none 0 0,.int .i64 0,.int .i64 0,.int .i64 0]) (uh HS4) 1 _ rfl
 have r2:=st_cells (vs:=[.int .i64 (j:Int),.slice a3 t.nv c3,.slice none 0 0,.slice none 0 0,.slice none 0 0,.int .i64 0,.int .i64 0,.int .i64 0]) (uh HS4) 2 _ rfl
 have r3:=st_cells (vs:=[.int .i64 (j:Int),.slice a3 t.nv c3,.slice none 0 0,.slice none 0 0,.slice none 0 0,.int .i64 0,.int .i64 0,.int .i64 0]) (uh HS4) 3 _ rfl
 have r4:=st_cells (vs:=[.int .i64 (j:Int),.slice a3 t.nv c3,.slice none 0 0,.slice none 0 0,.slice none 0 0,.int .i64 0,.int .i64 0,.int .i64 0]) (uh HS4) 4 _ rfl
 have r5:=st_cells (vs:=[.int .i64 (j:Int),.slice a3 t.nv c3,.slice none 0 0,.slice none 0 0,.slice none 0 0,.int .i64 0,.int .i64 0,.int .i64 0]) (uh HS4) 5 _ rfl
 have r6:=st_cells (vs:=[.int .i64 (j:Int),.slice a3 t.nv c3,.slice none 0 0,.slice none 0 0,.slice none 0 0,.int .i64 0,.int .i64 0,.int .i64 0]) (uh HS4) 6 _ rfl
 have r7:=st_cells (vs:=[.int .i64 (j:Int),.slice a3 t.nv c3,.slice none 0 0,.slice none 0 0,.slice none 0 0,.int .i64 0,.int .i64 0,.int .i64 0]) (uh HS4) 7 _ rfl
 go_wp2_with fail
 refine bodyPost_ret (v:=.agg #[.int .i64 (j:Int),.slice a3 t.nv c3,.slice none 0 0,.slice none 0 0,.slice none 0 0,.int .i64 0,.int .i64 0,.int .i64 0]) (by simp[results,Tryz.results345,go_sem,r0,r1,r2,r3,r4,r5,r6,r7]) rfl (uh HP)
theorem unshapedTable_any(A:Ad)(t:Tb)(w:World)(hs:t.shape=-1)(hn:t.nv=0)(hD:DAt w A.la A.ia A.xa t.d)(hS:Small t.d):
  Calls Tryz.prog 352 #[HdA A t] w fun e w'=>TabP t w e w':=by
 obtain⟨W,hW⟩:∃W,W=(w.alloc (.cells #[.slice A.va t.nv A.vc,.slice A.la t.d.n A.lc,.slice A.ia t.d.m A.ic,.slice A.xa t.d.x A.xc,.int .i64 t.d.used,.int .i64 t.d.live,.int .i64 t.d.turns] 239)).alloc (.cells Tb0 94):=⟨_,rfl⟩
 have hbW:Below w.heap.size w W:=by rw[hW];exact((Below.refl _ _).alloc (Nat.le_refl _) _).alloc (by simp) _
 have hzW:W.heap.size=w.heap.size+1+1:=by rw[hW];simp
 have b1:W.heap[w.heap.size+1]?=some (.cells Tb0 94 (0,0)):=by
  rw[hW]
  have h1:=Deep.blk_alloc_new (w.alloc (.cells #[.slice A.va t.nv A.vc,.slice A.la t.d.n A.lc,.slice A.ia t.d.m A.ic,.slice A.xa t.d.x A.xc,.int .i64 t.d.used,.int .i64 t.d.live,.int .i64 t.d.turns] 239)) (.cells Tb0 94)
  simpa using h1
 have HC:=uy (copyDict_any A.la A.lc A.ia A.ic A.xa A.xc t.d W (hD.below hbW) hS)
 have HF:Hid (∀v0 v1 v2 w3,DV t.d w3 v0 v1 v2 W.heap.size w3.heap.size->Below W.heap.size W w3->∃a0 c0 a1 c1 a2 c2 w4,v0=.slice a0 t.d.n c0/\v1=.slice a1 t.d.m c1/\v2=.slice a2 t.d.x c2/\(Instr.storeAt 94 (.pointer (some ⟨w.heap.size+1,0,none⟩)) (.agg #[.int .i64 (-1),.slice none 0 0,.slice a0 t.d.n c0,.slice a1 t.d.m c1,.slice a2 t.d.x c2,.int .i64 t.d.used,.int .i64 t.d.live,.int .i64 t.d.turns])).run Tryz.prog w3=.ok () w4/\Stored w3 w4 (w.heap.size+1) #[.int .i64 (-1),.slice none 0 0,.slice a0 t.d.n c0,.slice a1 t.d.m c1,.slice a2 t.d.x c2,.int .i64 t.d.used,.int .i64 t.d.live,.int .i64 t.d.turns] 94/\
   TabP t w (.returned (.agg #[.int .i64 (-1),.slice none 0 0,.slice a0 t.d.n c0,.slice a1 t.d.m c1,.slice a2 t.d.x c2,.int .i64 t.d.used,.int .i64 t.d.live,.int .i64 t.d.turns])) w4):=uy (by
  intro v0 v1 v2 w3 hDV hb3
  obtain⟨a0,c0,a1,c1,a2,c2,rfl,rfl,rfl,-⟩:=hDV.at
  have hbx:=(hb3.block (w.heap.size+1) (by omega)).trans b1
  obtain⟨w4,k1,k2⟩:=storeAt_any (t:=94) (v:=.agg #[.int .i64 (-1),.slice none 0 0,.slice a0 t.d.n c0,.slice a1 t.d.m c1,.slice a2 t.d.x c2,.int .i64 t.d.used,.int .i64 t.d.live,.int .i64 t.d.turns]) (old:=Tb0.toList) (vs:=[.int .i64 (-1),.slice none 0 0,.slice a0 t.d.n c0,.slice a1 t.d.m c1,.slice a2 t.d.x c2,.int .i64 t.d.used,.int .i64 t.d.live,.int .i64 t.d.turns]) sz_table hbx rfl rfl (by simp[Value.oneCell']) rfl
  have hDV4:DV t.d w4 (.slice a0 t.d.n c0) (.slice a1 t.d.m c1) (.slice a2 t.d.x c2) w.heap.size w4.heap.size:=(hDV.keep (fun b hb _=>k2.other b (by omega))).wide (by omega) (by rw[k2.size];exact Nat.le_refl _)
  refine⟨a0,c0,a1,c1,a2,c2,w4,rfl,rfl,rfl,k1,k2,⟨⟨.slice none 0 0,.slice a0 t.d.n c0,.slice a1 t.d.m c1,.slice a2 t.d.x c2⟩,?_,⟨.inl ⟨hn,rfl⟩,hDV4.log,hDV4.ints,hDV4.index,(fun q e=>by cases e),(fun q e=>by cases e),(fun q e=>by cases e),hDV4.a01,hDV4.a02,hDV4.a12⟩⟩,k2.below (hbW.trans (hb3.mono (by omega))) (by omega)⟩
  show _=Ending.returned (.agg #[.int .i64 t.shape,.slice none 0 0,.slice a0 t.d.n c0,.slice a1 t.d.m c1,.slice a2 t.d.x c2,.int .i64 t.d.used,.int .i64 t.d.live,.int .i64 t.d.turns])
  rw[hs])
 clear hD hS hs hn hbW b1 hzW
 go_enter Tryz.func352,Tryz.ntmps352
 go_wp2_with fail
 rw[<-hW]
 clear hW
 refine(uh HC).mono ?_
 rintro e w3 ⟨⟨v0,v1,v2,rfl,hDV⟩,hb3⟩
 obtain⟨a0,c0,a1,c1,a2,c2,w4,rfl,rfl,rfl,hst4,hS4,hP⟩:=uh HF v0 v1 v2 w3 hDV hb3
 have HST:=uy hst4
 have HP:=uy hP
 have r0:=st_cells (vs:=[.int .i64 (-1),.slice none 0 0,.slice a0 t.d.n c0,.slice a1 t.d.m c1,.slice a2 t.d.x c2,.int .i64 t.d.used,.int .i64 t.d.live,.int .i64 t.d.turns]) hS4 0 _ rfl
 have r1:=st_cells (vs:=[.int .i64 (-1),.slice none 0 0,.slice a0 t.d.n c0,.slice a1 t.d.m c1,.slice a2 t.d.x c2,.int .i64 t.d.used,.int .i64 t.d.live,.int .i64 t.d.turns]) hS4 1 _ rfl
 have r2:=st_cells (vs:=[.int .i64 (-1),.slice none 0 0,.slice a0 t.d.n c0,.slice a1 t.d.m c1,.slice a2 t.d.x c2,.int .i64 t.d.used,.int .i64 t.d.live,.int .i64 t.d.turns]) hS4 2 _ rfl
 have r3:=st_cells (vs:=[.int .i64 (-1),.slice none 0 0,.slice a0 t.d.n c0,.slice a1 t.d.m c1,.slice a2 t.d.x c2,.int .i64 t.d.used,.int .i64 t.d.live,.int .i64 t.d.turns]) hS4 3 _ rfl
 have r4:=st_cells (vs:=[.int .i64 (-1),.slice none 0 0,.slice a0 t.d.n c0,.slice a1 t.d.m c1,.slice a2 t.d.x c2,.int .i64 t.d.used,.int .i64 t.d.live,.int .i64 t.d.turns]) hS4 4 _ rfl
 have r5:=st_cells (vs:=[.int .i64 (-1),.slice none 0 0,.slice a0 t.d.n c0,.slice a1 t.d.m c1,.slice a2 t.d.x c2,.int .i64 t.d.used,.int .i64 t.d.live,.int .i64 t.d.turns]) hS4 5 _ rfl
 have r6:=st_cells (vs:=[.int .i64 (-1),.slice none 0 0,.slice a0 t.d.n c0,.slice a1 t.d.m c1,.slice a2 t.d.x c2,.int .i64 t.d.used,.int .i64 t.d.live,.int .i64 t.d.turns]) hS4 6 _ rfl
 have r7:=st_cells (vs:=[.int .i64 (-1),.slice none 0 0,.slice a0 t.d.n c0,.slice a1 t.d.m c1,.slice a2 t.d.x c2,.int .i64 t.d.used,.int .i64 t.d.live,.int .i64 t.d.turns]) hS4 7 _ rfl
 clear hDV hb3 hst4 hS4 hP HF HC
 go_wp2_with (refine wpList_store rfl rfl _ (uh HST) ?_)
 refine bodyPost_ret (v:=.agg #[.int .i64 (-1),.slice none 0 0,.slice a0 t.d.n c0,.slice a1 t.d.m c1,.slice a2 t.d.x c2,.int .i64 t.d.used,.int .i64 t.d.live,.int .i64 t.d.turns]) (by simp[results,Tryz.results352,go_sem,r0,r1,r2,r3,r4,r5,r6,r7]) rfl (uh HP)
end
section
open Go.RowKit
attribute [local go_sem] run_store_float run_equalIn_float
def SiV(f:Nat->Si)(n:Nat)(w:World)(v:Value)(lo hi:Nat):Prop:=
 (n=0/\v=.slice none 0 0)\/∃b cp N g,v=.slice (some ⟨b,0,none⟩) n cp/\lo<=b/\b<hi/\w.rowIs b 103 N g/\n*5<=N/\∀j,j<n*5->g j=scell f j
theorem SiV.keep{f:Nat->Si}{n:Nat}{w w':World}{v:Value}{lo hi:Nat}(h:SiV f n w v lo hi)(hk:∀b,v.ownBlock=some b->w'.heap[b]?=w.heap[b]?):SiV f n w' v lo hi:=by
 rcases h with h|⟨b,cp,N,g,rfl,h2,h3,h4,h5,h6⟩
 ·exact .inl h
 ·exact .inr ⟨b,cp,N,g,rfl,h2,h3,World.rowIs.of_block h4 (hk b rfl),h5,h6⟩
theorem SiV.at{f:Nat->Si}{n:Nat}{w:World}{v:Value}{lo hi:Nat}(h:SiV f n w v lo hi):∃a cp,v=.slice a n cp/\SiAt w a n f:=by
 rcases h with⟨h0,rfl⟩|⟨b,cp,N,g,h1,h2,h3,h4,h5,h6⟩
 ·subst h0;exact⟨_,_,rfl,.inl rfl⟩
 ·exact⟨_,_,h1,.inr ⟨b,0,rfl,World.rowIs.lt h4,fun i hi=>by rw[Nat.zero_add];exact scells h4 h5 h6 hi⟩⟩
theorem GV.keep1{f:Nat->Shp}{n:Nat}{w w':World}{v:Value}{lo hi:Nat}(h:GV f n w v lo hi)(hk:∀b,v.ownBlock=some b->w'.heap[b]?=w.heap[b]?):GV f n w' v lo hi:=by
 rcases h with h|⟨h0,b,cp,rfl,h2,h3,h4⟩
 ·exact .inl h
 ·exact .inr ⟨h0,b,cp,rfl,h2,h3,h4.of_block (hk b rfl)⟩
end
section
open Go.RowKit
attribute [local go_sem] run_store_float run_equalIn_float
def TbV(lo hi:Nat)(w:World)(v:Value)(n:Nat)(f:Nat->Tb)(H:Nat->Hs):Prop:=
 (n=0/\v=.slice none 0 0)\/∃b cp N g,v=.slice (some ⟨b,0,none⟩) n cp/\lo<=b/\b<hi/\w.rowIs b 94 N g/\n*8<=N/\(∀i,i<n->TbO lo hi w b (i*8) (H i) (f i))/\Apart b n H
theorem TbV.keep{lo hi:Nat}{w w':World}{v:Value}{n:Nat}{f:Nat->Tb}{H:Nat->Hs}(h:TbV lo hi w v n f H)(hk:∀b,v.ownBlock=some b->w'.heap[b]?=w.heap[b]?)(hr:∀i q,i<n->(H i).own q->w'.heap[q]?=w.heap[q]?):TbV lo hi w' v n f H:=by
 rcases h with h|⟨b,cp,N,g,rfl,h2,h3,h4,h5,h6,h7⟩
 ·exact .inl h
 ·exact .inr ⟨b,cp,N,g,rfl,h2,h3,World.rowIs.of_block h4 (hk b rfl),h5,fun i hi=>(h6 i hi).keep (fun q hq=>hr i q hi hq) (fun j _=>World.cell?_of_block (hk b rfl)),h7⟩
theorem GV.own{f:Nat->Shp}{n:Nat}{w:World}{v:Value}{lo hi:Nat}(h:GV f n w v lo hi){q:Nat}(e:v.ownBlock=some q):lo<=q/\q<hi/\q<w.heap.size:=by
 rcases h with⟨h0,rfl⟩|⟨h0,b,cp,rfl,h2,h3,h4⟩
 ·cases e
 ·cases e;exact⟨h2,h3,h4.lt⟩
theorem SiV.own{f:Nat->Si}{n:Nat}{w:World}{v:Value}{lo hi:Nat}(h:SiV f n w v lo hi){q:Nat}(e:v.ownBlock=some q):lo<=q/\q<hi/\q<w.heap.size:=by
 rcases h with⟨h0,rfl⟩|⟨b,cp,N,g,rfl,h2,h3,h4,h5,h6⟩
 ·cases e
 ·cases e;exact⟨h2,h3,World.rowIs.lt h4⟩
theorem TbV.own{lo hi:Nat}{w:World}{v:Value}{n:Nat}{f:Nat->Tb}{H:Nat->Hs}(h:TbV lo hi w v n f H){q:Nat}(e:v.ownBlock=some q):lo<=q/\q<hi/\q<w.heap.size:=by
 rcases h with⟨h0,rfl⟩|⟨b,cp,N,g,rfl,h2,h3,h4,h5,h6,h7⟩
 ·cases e
 ·cases e;exact⟨h2,h3,World.rowIs.lt h4⟩
theorem TbV.row{lo hi:Nat}{w:World}{v:Value}{n:Nat}{f:Nat->Tb}{H:Nat->Hs}(h:TbV lo hi w v n f H){i q:Nat}(hi':i<n)(e:(H i).own q):lo<=q/\q<hi/\q<w.heap.size:=by
 rcases h with⟨h0,rfl⟩|⟨b,cp,N,g,rfl,h2,h3,h4,h5,h6,h7⟩
 ·omega
 ·have:=(h6 i hi').lt e;exact⟨this.2.1,this.2.2,this.1⟩
structure SOw (lo hi:Nat) (w:World) (vF vT vS:Value) (s:Sto) (H:Nat->Hs):Prop where
 f:GV s.F s.nf w vF lo hi
 t:TbV lo hi w vT s.nt s.T H
 si:SiV s.S s.ns w vS lo hi
 ft:∀q,vF.ownBlock=some q->vT.ownBlock≠some q
 fs:∀q,vF.ownBlock=some q->vS.ownBlock≠some q
 fr:∀q i,vF.ownBlock=some q->i<s.nt->¬(H i).own q
 st:∀q,vS.ownBlock=some q->vT.ownBlock≠some q
 sr:∀q i,vS.ownBlock=some q->i<s.nt->¬(H i).own q
theorem SOw.keep{lo hi:Nat}{w w':World}{vF vT vS:Value}{s:Sto}{H:Nat->Hs}(h:SOw lo hi w vF vT vS s H)(hk:∀q,lo<=q->q<hi->q<w.heap.size->w'.heap[q]?=w.heap[q]?):SOw lo hi w' vF vT vS s H:=
 ⟨h.f.keep1 (fun q e=>hk q (h.f.own e).1 (h.f.own e).2.1 (h.f.own e).2.2),h.t.keep (fun q e=>hk q (h.t.own e).1 (h.t.own e).2.1 (h.t.own e).2.2) (fun i q hi e=>hk q (h.t.row hi e).1 (h.t.row hi e).2.1 (h.t.row hi e).2.2),h.si.keep (fun q e=>hk q (h.si.own e).1 (h.si.own e).2.1 (h.si.own e).2.2),h.ft,h.fs,h.fr,h.st,h.sr⟩
end
end Go.Proofs.YtgmlkfgfjjggnaaGreatDoor
