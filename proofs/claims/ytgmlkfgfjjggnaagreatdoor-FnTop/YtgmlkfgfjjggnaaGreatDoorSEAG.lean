import Derived.Test.YtgmlkfgfjjggnaaGreatDoorSEAF
import Derived.Test.YtgmlkfgfjjggnaaGreatDoorSEAD
set_option linter.all false
set_option maxHeartbeats 40000000
set_option maxRecDepth 100000
namespace Go.Proofs.YtgmlkfgfjjggnaaGreatDoor
open Go.Proofs.Tryz
open Go.RowKit
attribute [local go_sem] AA Aw Cl
def gV(Z:Nat->Prop)(c B0:Nat)(vN vT vS vU:V9)(Bk:Nat->Nat)(A:Nat->Ad)(s:AV)(t:Nat)(k v:Vl)(w:Y)(e:Ending)(w':Y):Prop:=
 (e=.returned (.tuple #[.agg B3,.bool false])/\Ce s (s.T t) k v=.loose/\AZ Z w' c B0 vN vT vS vU Bk A s/\BG (Aq B0 c vN vT vS w) w (Aq B0 c vN vT vS w') w')\/
 (∃a B' p a' x' s',e=.returned (.tuple #[.agg (BT p a' x').toArray,.bool true])/\AF B' a' x'=.iface 236 (.agg (BT p a' x').toArray)/\Cg s' t x'=BO s t k v/\Ce s (s.T t) k v≠.full/\s'.nt=s.nt/\AZ Z w' c B0 a vT vS vU B' A s'/\BG (Aq B0 c vN vT vS w) w (Aq B0 c a vT vS w') w'/\Rd (OZ Z B0 c a vT vS w') w' a' x')
theorem AZ.Sq{Z:Nat->Prop}{w w0:Y}{c B0:Nat}{vN vT vS vU:V9}{Bk:Nat->Nat}{A:Nat->Ad}{s:AV}(h:AZ Z w c B0 vN vT vS vU Bk A s)(hz:∀k,Z k->k<w0.heap.size){B n a g:Nat}{f:Nat->Vl}(b:EZ w B (S9 g n a) n f)(hg:w0.heap.size<=g):¬OZ Z B0 c vN vT vS w g:=by
 obtain⟨cur,hb,_⟩:=A3 b rfl;rintro(e|e)
 ·exact h.Eo hb (by decide) (by decide) (by decide) (by decide) (by decide) e
 ·have:=hz g e;omega
theorem AZ.jB{Z:Nat->Prop}{w w1 d:Y}{c B0:Nat}{f g i l:V9}{Bk':Nat->Nat}{A':Nat->Ad}{s':AV}{rb m:Nat}{cs n:Array Value}{a:Ad}{x:Tb}(h:AZ (ZB Z w.heap.size m) w1 c B0 f g i l Bk' A' s')(o:B0<=w.heap.size)(j:w.heap.size<=rb)(hz:rb<m)(p:w1.heap[rb]?=some (.cells n 236 (0,0)))(b:Bt w1 d rb cs 236)(q:Rd (OZ (ZB Z w.heap.size m) B0 c f g i w1) w1 a x):Rd (OZ Z B0 c f g i d) d a x:=fun w3 hs hk=>by
 have r:=(h.box (.inr ⟨j,hz⟩) (FZ o j) (h.Eo p (by decide) (by decide) (by decide) (by decide) (by decide)) ⟨b.os,b.tape,b.output,b.size⟩ b.other b.BR (by decide)).2;refine q w3 (by rw[<-b.size];exact hs) (fun k k1 k2=>(hk k (by rw[b.size];exact k1) (fun e=>k2 (e.imp (r k) .inl))).trans (b.other k (fun e=>k2 (.inr (.inr (by rw[e];exact⟨j,hz⟩))))))
theorem Lz(Z:Nat->Prop)(c B0:Nat)(vN vT vS vU:V9)(Bk:Nat->Nat)(A:Nat->Ad)(s:AV)(t j:Nat)(k v:Vl)(w:Y)(hM:AZ Z w c B0 vN vT vS vU Bk A s)(hf:Ar s.nf s.F=0)(ht:t<s.nt)(hx:(s.T t).shape=j)(hj:j<s.nf)(ak:(s.T t).nv=nf s.F j)(ay:bare (s.T t).d)(hk:Ky k)(ao:¬(v.kind=0/\(CX s.F (s.T t) k).kind=0))(az:∀i,i<s.nt->(s.T i).shape=-1\/∃j:Nat,(s.T i).shape=j/\j<s.nf):
  C9 233 #[Q9 c,B4 (Bk j) (A t) (s.T t),FQ k,FQ v] w fun e w'=>gV Z c B0 vN vT vS vU Bk A s t k v w e w':=by
 obtain⟨W,S⟩:∃W,W=(((w.alloc (.cells #[.slice (A t).va (s.T t).nv (A t).vc,.slice (A t).la (s.T t).d.n (A t).lc,.slice (A t).ia (s.T t).d.m (A t).ic,.slice (A t).xa (s.T t).d.x (A t).xc,J (s.T t).d.used,J (s.T t).d.live,J (s.T t).d.turns,Q9 (Bk j)] 236)).alloc (.cells #[J k.kind,J k.num,F9 k.Ae,.string k.str,J k.ref] 43)).alloc (.cells #[J v.kind,J v.num,F9 v.Ae,.string v.str,J v.ref] 43)).alloc (.cells B3 236):=⟨_,rfl⟩;have aq:B9 w W:=by rw[S];exact(((n9).alloc (by simp) _).alloc (by simp;omega) _).alloc (by simp;omega) _
 have b5:W.heap.size=w.heap.size+1+1+1+1:=by rw[S];simp
 have b0:W.heap[w.heap.size]?=some (.cells (BT (Bk j) (A t) (s.T t)).toArray 236 (0,0)):=by
  rw[S];iterate 3 (refine(Fs _ _ _ (by simp;try omega)).trans ?_)
  exact BE _ _
 have b1:W.heap[w.heap.size+1]?=some (.cells #[J k.kind,J k.num,F9 k.Ae,.string k.str,J k.ref] 43 (0,0)):=by
  rw[S];iterate 2 (refine(Fs _ _ _ (by simp;try omega)).trans ?_)
  have h1:=BE (w.alloc (.cells #[.slice (A t).va (s.T t).nv (A t).vc,.slice (A t).la (s.T t).d.n (A t).lc,.slice (A t).ia (s.T t).d.m (A t).ic,.slice (A t).xa (s.T t).d.x (A t).xc,J (s.T t).d.used,J (s.T t).d.live,J (s.T t).d.turns,Q9 (Bk j)] 236)) (.cells #[J k.kind,J k.num,F9 k.Ae,.string k.str,J k.ref] 43);simpa using h1
 have b2:W.heap[w.heap.size+1+1]?=some (.cells #[J v.kind,J v.num,F9 v.Ae,.string v.str,J v.ref] 43 (0,0)):=by
  rw[S];refine(Fs _ _ _ (by simp)).trans ?_;have h1:=BE ((w.alloc (.cells #[.slice (A t).va (s.T t).nv (A t).vc,.slice (A t).la (s.T t).d.n (A t).lc,.slice (A t).ia (s.T t).d.m (A t).ic,.slice (A t).xa (s.T t).d.x (A t).xc,J (s.T t).d.used,J (s.T t).d.live,J (s.T t).d.turns,Q9 (Bk j)] 236)).alloc (.cells #[J k.kind,J k.num,F9 k.Ae,.string k.str,J k.ref] 43)) (.cells #[J v.kind,J v.num,F9 v.Ae,.string v.str,J v.ref] 43);simpa using h1
 have b3:W.heap[w.heap.size+1+1+1]?=some (.cells B3 236 (0,0)):=by
  rw[S];have h1:=BE (((w.alloc (.cells #[.slice (A t).va (s.T t).nv (A t).vc,.slice (A t).la (s.T t).d.n (A t).lc,.slice (A t).ia (s.T t).d.m (A t).ic,.slice (A t).xa (s.T t).d.x (A t).xc,J (s.T t).d.used,J (s.T t).d.live,J (s.T t).d.turns,Q9 (Bk j)] 236)).alloc (.cells #[J k.kind,J k.num,F9 k.Ae,.string k.str,J k.ref] 43)).alloc (.cells #[J v.kind,J v.num,F9 v.Ae,.string v.str,J v.ref] 43)) (.cells B3 236);simpa using h1
 have af:(s.T t).nv<=12:=by rw[ak];exact IU hf hj
 obtain⟨hE,aM⟩:=hM.enter aq;have Q:=hM.base;have a6:=hM.z;have k0:W.cell? (Y9 w 0)=some (J k.kind):=by simp[World.cell?,b1]
 have k3:W.cell? (Y9 w 3)=some (.string k.str):=by simp[World.cell?,b1]
 have v0:W.cell? (Z9 w 0)=some (J v.kind):=by simp[World.cell?,b2]
 have x7:=Et b0 7 _ rfl;have l0:w.heap.size<W.heap.size:=by omega
 have l1:w.heap.size+1<W.heap.size:=by omega
 have l2:w.heap.size+1+1<W.heap.size:=by omega
 have a7:Hg W (A t).va (s.T t).nv (s.T t).V:=((hM.rd t ht).now.1).below aq rfl;have a8:IE W s B0 Bk:=hE.nd;have bb:k.kind=4->k.str.size<=4000:=fun h=>by
  have h1:=hk.1;unfold Db Vl.ok AB at h1;simp[h]at h1;omega
 have HE:=O hE;have ae:=O aM;have bm:=O a6;have U:=O (And.intro b0 (And.intro b1 (And.intro b2 b3)));have HX:=O (And.intro hx (And.intro ak ay));have HF:=O hf;have bn:=O az;have bp:=O a7;have bq:=O a8;have br:=O bb;have b6:=O ao;have ad:Hid (∀w1,AZ (ZB Z w.heap.size W.heap.size) w1 c B0 vN vT vS vU Bk A s->BG (Aq B0 c vN vT vS w) w (Aq B0 c vN vT vS w1) w1->w1.heap[w.heap.size+1+1+1]?=some (.cells B3 236 (0,0))->Ce s (s.T t) k v=.loose->∃w2,(Instr.storeAt 236 (Q9 (w.heap.size+1+1+1)) (.agg B3)).run prog w1=.ok () w2/\Bt w1 w2 (w.heap.size+1+1+1) B3 236/\gV Z c B0 vN vT vS vU Bk A s t k v w (.returned (.tuple #[.agg B3,.bool false])) w2):=O (fun w1 m1 d1 hb hw=>by
  obtain⟨w2,h1,h2⟩:=Yd hb;obtain⟨f1,f2⟩:=AZ.WJ m1 d1 Q (by omega) (by omega) hb h2;exact⟨w2,h1,h2,.inl ⟨rfl,hw,f1,f2⟩⟩)
 have bc:Hid (∀w1 H B' p a' x' s',AZ (ZB Z w.heap.size W.heap.size) w1 c B0 H vT vS vU B' A s'->BG (Aq B0 c vN vT vS w) w (Aq B0 c H vT vS w1) w1->w1.heap[w.heap.size+1+1+1]?=some (.cells B3 236 (0,0))->Rd (OZ (ZB Z w.heap.size W.heap.size) B0 c H vT vS w1) w1 a' x'->AF B' a' x'=.iface 236 (.agg (BT p a' x').toArray)->Cg s' t x'=BO s t k v->Ce s (s.T t) k v≠.full->s'.nt=s.nt->
   ∃w2,(Instr.storeAt 236 (Q9 (w.heap.size+1+1+1)) (.agg (BT p a' x').toArray)).run prog w1=.ok () w2/\Bt w1 w2 (w.heap.size+1+1+1) (BT p a' x').toArray 236/\gV Z c B0 vN vT vS vU Bk A s t k v w (.returned (.tuple #[.agg (BT p a' x').toArray,.bool true])) w2):=O (fun w1 H B' p a' x' s' m1 d1 hb hR e1 e2 e3 e4=>by
  obtain⟨w2,h1,h2⟩:=SI hb p a' x';obtain⟨f1,f2⟩:=AZ.WJ m1 d1 Q (by omega) (by omega) hb h2;exact⟨w2,h1,h2,.inr ⟨H,B',p,a',x',s',rfl,e1,e2,e3,e4,f1,f2,m1.jB Q (by omega) (by omega) hb h2 hR⟩⟩)
 have ag:∀(P:Way),(¬(k.kind=4/\v.kind≠0)->P=.loose)->(k.kind=4->v.kind≠0->0<=BW s.F j k.str->P=.DF)->(k.kind=4->v.kind≠0->¬0<=BW s.F j k.str->0<=EN s.nf s.F j k.str->P=.grow)->(k.kind=4->v.kind≠0->¬0<=BW s.F j k.str->¬0<=EN s.nf s.F j k.str->P=.loose)->Ce s (s.T t) k v=P:=by
  intro P p1 p2 p3 p4;unfold Ce;rw[Cs ao,C3 (by omega),hx,show((j:Int)).toNat=j by omega];by_cases h1:k.kind=4/\v.kind≠0
  ·rw[C3 h1];by_cases h2:0<=BW s.F j k.str
   ·rw[C3 h2,p2 h1.1 h1.2 h2]
   ·rw[Cs h2];by_cases h3:0<=EN s.nf s.F j k.str
    ·rw[C3 h3,p3 h1.1 h1.2 h2 h3]
    ·rw[Cs h3,p4 h1.1 h1.2 h2 h3]
  ·rw[Cs h1,p1 h1]
 have I:=O ag;clear hM hE aM a6 b0 b1 b2 b3 hx ak ay hf az a7 a8 bb ao aq hk ag;by_cases K:k.kind=4
 case neg=>
  have d1:(k.kind !=4)=true:=by simp[K]
  have HW:Hid (Ce s (s.T t) k v=.loose):=O (I .loose (fun _=>rfl) (fun h=>absurd h K) (fun h=>absurd h K) (fun h=>absurd h K));clear K
  go_enter func233,ntmps233
  go_upto_region 1 with fail
  rw[<-S];clear S;obtain⟨w2,f,l,o⟩:=z ad W HE ae U.2.2.2 HW;have C:=O f;have a:=O l;have D:=O o;have r0:w2.cell? (G (w.heap.size+1+1+1) 0)=some (N9):=Aa (vs:=B3.toList) a 0 _ rfl;have r1:w2.cell? (G (w.heap.size+1+1+1) 1)=some (N9):=Aa (vs:=B3.toList) a 1 _ rfl;have r2:w2.cell? (G (w.heap.size+1+1+1) 2)=some (N9):=Aa (vs:=B3.toList) a 2 _ rfl;have r3:w2.cell? (G (w.heap.size+1+1+1) 3)=some (N9):=Aa (vs:=B3.toList) a 3 _ rfl;have r4:w2.cell? (G (w.heap.size+1+1+1) 4)=some (J 0):=Aa (vs:=B3.toList) a 4 _ rfl;have r5:w2.cell? (G (w.heap.size+1+1+1) 5)=some (J 0):=Aa (vs:=B3.toList) a 5 _ rfl;have r6:w2.cell? (G (w.heap.size+1+1+1) 6)=some (J 0):=Aa (vs:=B3.toList) a 6 _ rfl;have r7:w2.cell? (G (w.heap.size+1+1+1) 7)=some (.pointer none):=Aa (vs:=B3.toList) a 7 _ rfl;clear f l o;go_wp2_with (refine Ak rfl rfl _ C ?_)
  refine DO (v:=.tuple #[.agg B3,.bool false]) (by simp[results,results233,go_sem,r0,r1,r2,r3,r4,r5,r6,r7]) rfl D
 have d1:(k.kind !=4)=false:=by simp[K]
 have ah:=O K;clear K;by_cases L:v.kind=0
 case pos=>
  have d2:(v.kind==0)=true:=by simp[L]
  have HW:Hid (Ce s (s.T t) k v=.loose):=O (I .loose (fun _=>rfl) (fun _ h=>absurd L h) (fun _ h=>absurd L h) (fun _ h=>absurd L h));clear L
  go_enter func233,ntmps233
  go_upto_region 1 with fail
  rw[<-S];clear S;obtain⟨w2,f,l,o⟩:=z ad W HE ae U.2.2.2 HW;have C:=O f;have a:=O l;have D:=O o;have r0:w2.cell? (G (w.heap.size+1+1+1) 0)=some (N9):=Aa (vs:=B3.toList) a 0 _ rfl;have r1:w2.cell? (G (w.heap.size+1+1+1) 1)=some (N9):=Aa (vs:=B3.toList) a 1 _ rfl;have r2:w2.cell? (G (w.heap.size+1+1+1) 2)=some (N9):=Aa (vs:=B3.toList) a 2 _ rfl;have r3:w2.cell? (G (w.heap.size+1+1+1) 3)=some (N9):=Aa (vs:=B3.toList) a 3 _ rfl;have r4:w2.cell? (G (w.heap.size+1+1+1) 4)=some (J 0):=Aa (vs:=B3.toList) a 4 _ rfl;have r5:w2.cell? (G (w.heap.size+1+1+1) 5)=some (J 0):=Aa (vs:=B3.toList) a 5 _ rfl;have r6:w2.cell? (G (w.heap.size+1+1+1) 6)=some (J 0):=Aa (vs:=B3.toList) a 6 _ rfl;have r7:w2.cell? (G (w.heap.size+1+1+1) 7)=some (.pointer none):=Aa (vs:=B3.toList) a 7 _ rfl;clear f l o;go_wp2_with (refine Ak rfl rfl _ C ?_)
  refine DO (v:=.tuple #[.agg B3,.bool false]) (by simp[results,results233,go_sem,r0,r1,r2,r3,r4,r5,r6,r7]) rfl D
 have d2:(v.kind==0)=false:=by simp[L]
 have ar:=O L;clear L;have y0:W.cell? (Z9 w 0)=some (J v.kind):=by have b:=U.2.2.1;simp[World.cell?,b]
 have y1:W.cell? (Z9 w 1)=some (J v.num):=by have b:=U.2.2.1;simp[World.cell?,b]
 have y2:W.cell? (Z9 w 2)=some (F9 v.Ae):=by have b:=U.2.2.1;simp[World.cell?,b]
 have y3:W.cell? (Z9 w 3)=some (.string v.str):=by have b:=U.2.2.1;simp[World.cell?,b]
 have y4:W.cell? (Z9 w 4)=some (J v.ref):=by have b:=U.2.2.1;simp[World.cell?,b]
 obtain⟨pl,R⟩:∃pl,pl=BW s.F j k.str:=⟨_,rfl⟩;have au:Hid (C9 181 #[Q9 (Bk j),.string k.str] W fun e w'=>e=.returned (J pl)/\w'=W):=O (by rw[R];exact bq.XE HF hj _);have bt:Hid (W.heap[w.heap.size]?=some (.cells #[.slice (A t).va (s.T t).nv (A t).vc,.slice (A t).la (s.T t).d.n (A t).lc,.slice (A t).ia (s.T t).d.m (A t).ic,.slice (A t).xa (s.T t).d.x (A t).xc,J (s.T t).d.used,J (s.T t).d.live,J (s.T t).d.turns,Q9 (Bk j)] 236 (0,0))):=O U.1;by_cases h0:0<=pl
 case pos=>
  have bd:decide (0<=pl)=true:=by simp[h0]
  obtain⟨i,hi⟩:∃i:Nat,pl=i:=⟨pl.toNat,by omega⟩;have Nr:i<(s.T t).nv:=by
   rcases JK HF hj k.str with h|⟨q,h1,h2⟩
   ·omega
   ·rw[(z HX).2.1];omega
  have HW:Hid (Ce s (s.T t) k v=.DF/\BO s t k v=Cg s t (Dn (s.T t) i v)):=O (by
   have h1:=z I .DF (fun h=>absurd ⟨ah,ar⟩ h) (fun _ _ _=>rfl) (fun _ _ h=>absurd (by rw[<-R];exact h0) h) (fun _ _ h=>absurd (by rw[<-R];exact h0) h);refine⟨h1,?_⟩;unfold BO;rw[h1];show Cg s t (Dn (s.T t) (BW s.F (s.T t).shape.toNat k.str).toNat v)=_;rw[(z HX).1,show((j:Int)).toNat=j by omega,<-R,hi];rfl)
  have bu:=O (Rl (Bk j) (A t) (s.T t) i v W bp Nr af);rw[hi]at au bd;clear R h0 hi
  go_enter func233,ntmps233
  go_upto_region 1 with fail
  rw[<-S];clear S;go_wp2_with fail
  refine au.mono ?_;rintro e w1 ⟨rfl,rfl⟩;go_wp2_with (first|(refine Aan rfl 236 _ rfl w.heap.size rfl _ _ _ _ bt underlying236 rfl K0 ?_))
  refine bu.mono ?_;rintro e w3 ⟨⟨g,B,rfl,u⟩,E⟩;have z3:=E.size;obtain⟨m3,d3⟩:=HE.below E;have av:=(u.lt g rfl).1;have bf:Rd (OZ (ZB Z w.heap.size w1.heap.size) B0 c vN vT vS w3) w3 {A t with va:=some (G g 0),vc:=B} (Dn (s.T t) i v):=Rd.dK (t:=Dn (s.T t) i v) u rfl (m3.Sq (w0:=w1) (fun q e=>e.elim (fun e=>by have:=z bm q e;omega) (fun e=>e.2)) u av) HX.2.2;obtain⟨w2,f,l,o⟩:=z bc w3 vN Bk (Bk j) {A t with va:=some (G g 0),vc:=B} (Dn (s.T t) i v) s m3 (ae.trans d3) ((E.block _ (by omega)).trans U.2.2.2) bf (by
   unfold AF;rw[Cs (by show¬(s.T t).shape=-1;rw[(z HX).1];omega)];show Value.iface _ (B4 (Bk (s.T t).shape.toNat) _ _)=_;rw[(z HX).1];rfl) HW.2.symm (by rw[(z HW).1];decide) rfl
  clear E m3 d3 u bf;have C:=O f;have a:=O l;have D:=O o;have r0:w2.cell? (G (w.heap.size+1+1+1) 0)=some (.slice ({A t with va:=some (G g 0),vc:=B}).va (Dn (s.T t) i v).nv ({A t with va:=some (G g 0),vc:=B}).vc):=Aa a 0 _ rfl;have r1:w2.cell? (G (w.heap.size+1+1+1) 1)=some (.slice ({A t with va:=some (G g 0),vc:=B}).la (Dn (s.T t) i v).d.n ({A t with va:=some (G g 0),vc:=B}).lc):=Aa a 1 _ rfl;have r2:w2.cell? (G (w.heap.size+1+1+1) 2)=some (.slice ({A t with va:=some (G g 0),vc:=B}).ia (Dn (s.T t) i v).d.m ({A t with va:=some (G g 0),vc:=B}).ic):=Aa a 2 _ rfl;have r3:w2.cell? (G (w.heap.size+1+1+1) 3)=some (.slice ({A t with va:=some (G g 0),vc:=B}).xa (Dn (s.T t) i v).d.x ({A t with va:=some (G g 0),vc:=B}).xc):=Aa a 3 _ rfl;have r4:w2.cell? (G (w.heap.size+1+1+1) 4)=some (J (Dn (s.T t) i v).d.used):=Aa a 4 _ rfl;have r5:w2.cell? (G (w.heap.size+1+1+1) 5)=some (J (Dn (s.T t) i v).d.live):=Aa a 5 _ rfl;have r6:w2.cell? (G (w.heap.size+1+1+1) 6)=some (J (Dn (s.T t) i v).d.turns):=Aa a 6 _ rfl;have r7:w2.cell? (G (w.heap.size+1+1+1) 7)=some (Q9 (Bk j)):=Aa a 7 _ rfl;clear f l o;go_wp2_with (refine Ak rfl rfl _ C ?_)
  refine DO (v:=.tuple #[.agg (BT (Bk j) ({A t with va:=some (G g 0),vc:=B}) (Dn (s.T t) i v)).toArray,.bool true]) (by simp[results,results233,go_sem,r0,r1,r2,r3,r4,r5,r6,r7,BT]) rfl D
 have bd:decide (0<=pl)=false:=by simp[h0]
 have bw:=O (VN _ c B0 vN vT vS vU Bk A s j k.str W HE HF hj (br ah) bn);have bg:Hid (BW s.F j k.str<0):=O (by rw[<-R];omega);clear R h0
 go_enter func233,ntmps233
 go_upto_region 1 with fail
 rw[<-S];clear S;go_wp2_with fail
 refine au.mono ?_;rintro e w1 ⟨rfl,rfl⟩;go_wp2_with fail
 refine bw.mono ?_;rintro e w3 (⟨hr,rfl,X,M⟩|⟨r,hr,H,B',rfl,X,M⟩)
 ·have HW:Hid (Ce s (s.T t) k v=.loose):=O (I .loose (fun h=>absurd ⟨ah,ar⟩ h) (fun _ _ h=>absurd h (by have:=z bg;omega)) (fun _ _ _ h=>by exfalso;rw[hr]at h;omega) (fun _ _ _ _=>rfl));have ai:=O X;have aw:=O M;have bx:Hid (w3.heap[w.heap.size+1+1+1]?=some (.cells B3 236 (0,0))):=O ((M.block _ (by omega) (fun e=>by
   have hb:=U.2.2.2;exact HE.Eo hb (by decide) (by decide) (by decide) (by decide) (by decide) e)).trans U.2.2.2)
  clear X M hr;obtain⟨w2,f,l,o⟩:=z ad w3 ai (ae.trans aw) bx HW;have C:=O f;have a:=O l;have D:=O o;have r0:w2.cell? (G (w.heap.size+1+1+1) 0)=some (N9):=Aa (vs:=B3.toList) a 0 _ rfl;have r1:w2.cell? (G (w.heap.size+1+1+1) 1)=some (N9):=Aa (vs:=B3.toList) a 1 _ rfl;have r2:w2.cell? (G (w.heap.size+1+1+1) 2)=some (N9):=Aa (vs:=B3.toList) a 2 _ rfl;have r3:w2.cell? (G (w.heap.size+1+1+1) 3)=some (N9):=Aa (vs:=B3.toList) a 3 _ rfl;have r4:w2.cell? (G (w.heap.size+1+1+1) 4)=some (J 0):=Aa (vs:=B3.toList) a 4 _ rfl;have r5:w2.cell? (G (w.heap.size+1+1+1) 5)=some (J 0):=Aa (vs:=B3.toList) a 5 _ rfl;have r6:w2.cell? (G (w.heap.size+1+1+1) 6)=some (J 0):=Aa (vs:=B3.toList) a 6 _ rfl;have r7:w2.cell? (G (w.heap.size+1+1+1) 7)=some (.pointer none):=Aa (vs:=B3.toList) a 7 _ rfl;clear f l o;go_wp2_with (refine Ak rfl rfl _ C ?_)
  refine DO (v:=.tuple #[.agg B3,.bool false]) (by simp[results,results233,go_sem,r0,r1,r2,r3,r4,r5,r6,r7]) rfl D
 ·have E:∀(q:Nat) (cs:Array Value) (ty:TypeId),w1.heap[q]?=some (Obj.cells cs ty (0,0))->(ty=236\/ty=43)->w3.heap[q]?=some (Obj.cells cs ty (0,0)):=fun q cs ty hq ht=>(M.block q (Aj hq) (fun e=>by
   rcases ht with rfl|rfl
   ·exact HE.Eo hq (by decide) (by decide) (by decide) (by decide) (by decide) e
   ·exact HE.Eo hq (by decide) (by decide) (by decide) (by decide) (by decide) e)).trans hq
  have c0:=E _ _ _ U.1 (.inl rfl);have c2:=E _ _ _ U.2.2.1 (.inr rfl);have c3:=E _ _ _ U.2.2.2 (.inl rfl);have bz:Hid (w3.heap[w.heap.size]?=some (.cells #[.slice (A t).va (s.T t).nv (A t).vc,.slice (A t).la (s.T t).d.n (A t).lc,.slice (A t).ia (s.T t).d.m (A t).ic,.slice (A t).xa (s.T t).d.x (A t).xc,J (s.T t).d.used,J (s.T t).d.live,J (s.T t).d.turns,Q9 (Bk j)] 236 (0,0))):=O c0;have bh:=O c3;have u0:w3.cell? (Z9 w 0)=some (J v.kind):=by simp[World.cell?,c2]
  have u1:w3.cell? (Z9 w 1)=some (J v.num):=by simp[World.cell?,c2]
  have u2:w3.cell? (Z9 w 2)=some (F9 v.Ae):=by simp[World.cell?,c2]
  have u3:w3.cell? (Z9 w 3)=some (.string v.str):=by simp[World.cell?,c2]
  have u4:w3.cell? (Z9 w 4)=some (J v.ref):=by simp[World.cell?,c2]
  have lu:=Aj c2;have HW:Hid (Ce s (s.T t) k v=.grow/\BO s t k v=Cg {s with nf:=Em s.nf s.F j k.str,F:=C6 s.nf s.F j k.str} t (CI (s.T t) (r:Int) v)):=O (by
   have h1:=z I .grow (fun h=>absurd ⟨ah,ar⟩ h) (fun _ _ h=>absurd h (by have:=z bg;omega)) (fun _ _ _ _=>rfl) (fun _ _ _ h=>by exfalso;rw[hr]at h;omega);refine⟨h1,?_⟩;unfold BO;rw[h1];show{Cg s t (CI (s.T t) (EN s.nf s.F (s.T t).shape.toNat k.str) v)with nf:=Em s.nf s.F (s.T t).shape.toNat k.str,F:=C6 s.nf s.F (s.T t).shape.toNat k.str}=_;rw[(z HX).1,show((j:Int)).toNat=j by omega,hr];rfl)
  have ai:=O X;have aw:=O M;have b7:=M.size;have bj:=O (UL (Bk j) (B' r) (A t) (s.T t) (r:Int) v w3 ((X.rd t ht).now.1) af HX.2.2);obtain⟨kb,ax⟩:∃kb,kb=B' r:=⟨_,rfl⟩;rw[<-ax]at bj ⊢;have b4:=O ax;clear E c0 c2 c3 X M hr ax;go_wp2_with (first|(refine Aan rfl 236 _ rfl w.heap.size rfl _ _ _ _ bz underlying236 rfl K0 ?_))
  refine bj.mono ?_;rintro e w4 ⟨⟨g,B,av,rfl,u⟩,aj⟩;have z4:=aj.size;obtain⟨m4,d4⟩:=ai.below aj;have bk:Rd (OZ (ZB Z w.heap.size w1.heap.size) B0 c H vT vS w4) w4 (VL g B) (CI (s.T t) (r:Int) v):=Rd.dK (t:=CI (s.T t) (r:Int) v) u rfl (m4.Sq (w0:=w3) (fun q e=>by have:=ai.z q e;exact this) u av) HX.2.2;obtain⟨w2,f,l,o⟩:=z bc w4 H B' kb (VL g B) (CI (s.T t) (r:Int) v) {s with nf:=Em s.nf s.F j k.str,F:=C6 s.nf s.F j k.str} m4 ((ae.trans aw).trans d4) ((aj.block _ (by have:=Aj bh;omega)).trans bh) bk (by
   unfold AF;rw[Cs (by show¬(r:Int)=-1;omega),z b4];rfl) HW.2.symm (by rw[(z HW).1];decide) rfl
  clear aj m4 d4 u bk;have C:=O f;have a:=O l;have D:=O o;have r0:w2.cell? (G (w.heap.size+1+1+1) 0)=some (.slice (VL g B).va (CI (s.T t) (r:Int) v).nv (VL g B).vc):=Aa a 0 _ rfl;have r1:w2.cell? (G (w.heap.size+1+1+1) 1)=some (.slice (VL g B).la (CI (s.T t) (r:Int) v).d.n (VL g B).lc):=Aa a 1 _ rfl;have r2:w2.cell? (G (w.heap.size+1+1+1) 2)=some (.slice (VL g B).ia (CI (s.T t) (r:Int) v).d.m (VL g B).ic):=Aa a 2 _ rfl;have r3:w2.cell? (G (w.heap.size+1+1+1) 3)=some (.slice (VL g B).xa (CI (s.T t) (r:Int) v).d.x (VL g B).xc):=Aa a 3 _ rfl;have r4:w2.cell? (G (w.heap.size+1+1+1) 4)=some (J (CI (s.T t) (r:Int) v).d.used):=Aa a 4 _ rfl;have r5:w2.cell? (G (w.heap.size+1+1+1) 5)=some (J (CI (s.T t) (r:Int) v).d.live):=Aa a 5 _ rfl;have r6:w2.cell? (G (w.heap.size+1+1+1) 6)=some (J (CI (s.T t) (r:Int) v).d.turns):=Aa a 6 _ rfl;have r7:w2.cell? (G (w.heap.size+1+1+1) 7)=some (Q9 kb):=Aa a 7 _ rfl;clear f l o;go_wp2_with (refine Ak rfl rfl _ C ?_)
  refine DO (v:=.tuple #[.agg (BT (kb) (VL g B) (CI (s.T t) (r:Int) v)).toArray,.bool true]) (by simp[results,results233,go_sem,r0,r1,r2,r3,r4,r5,r6,r7,BT]) rfl D
theorem Hk{n:Nat}{f:Nat->Bf}(h:Ar n f=0){j:Nat}(hj:j<n){i:Nat}(hi:i<nf f j):(DF f j i).size<=4000:=by
 obtain⟨h1,h2,h3,h4,h5⟩:=Au h;have a:=LB h2 h3 hj (t:=nf f j-1-i) (by omega);have hb:=(Fh h2 h3 hj (nf f j-1-i) (by omega)).1;exact(h3 _ a hb).2.2.2.2
theorem Kf{n:Nat}{f:Nat->Bf}(h:Ar n f=0){j:Nat}(hj:j<n){q i:Nat}(hq:q<i)(hi:i<nf f j):(DF f j q).toList≠(DF f j i).toList:=by
 obtain⟨h1,h2,h3,h4,h5⟩:=Au h;exact fun e=>Kb h2 h3 h5 hj (t:=nf f j-1-i) (u:=nf f j-1-q) (by omega) (by omega) e.symm
structure KH (F:Nat->Bf) (j i:Nat) (d:Dc):Prop where
 inv:Inv Ky hN d
 keys:∀p,Has d p->∃q,q<i/\p.key=A7 (DF F j q)
 live:0<=d.live/\d.live<=i
 turns:0<=d.turns/\d.turns<=i
theorem KH.no{n:Nat}{F:Nat->Bf}(h:Ar n F=0){j:Nat}(hj:j<n){i:Nat}{d:Dc}(a:KH F j i d)(hi:i<nf F j):∀q,q<d.n->(d.L q).turn≠0->Ap (d.L q).key (A7 (DF F j i))=false:=by
 intro q h1 h2;obtain⟨r,b,e⟩:=a.keys _ (EY h1 h2);cases hl:Ap (d.L q).key (A7 (DF F j i))
 ·rfl
 ·have:=(Gj hl).2.1;rw[e]at this;exact absurd this (Kf h hj b hi)
theorem KH.place{n:Nat}{F:Nat->Bf}(h:Ar n F=0){j:Nat}(hj:j<n){i:Nat}{d:Dc}(a:KH F j i d)(hi:i<nf F j):AE d (A7 (DF F j i)) (hN (A7 (DF F j i)))<0:=by
 rcases a.inv.i0.place BA (F5 (Hk h hj hi))with⟨q,h1,h2,h3,h4⟩|⟨h1,h2⟩
 ·rw[a.no h hj hi q h1 h2]at h3;cases h3
 ·omega
theorem MJ{n:Nat}{F:Nat->Bf}(h:Ar n F=0){j:Nat}(hj:j<n){i:Nat}{d:Dc}(a:KH F j i d)(hi:i<nf F j){v:Vl}(b:MQ v=true):
  CB hN d (A7 (DF F j i)) v=KQ hN d (A7 (DF F j i)) v/\KH F j (i+1) (CB hN d (A7 (DF F j i)) v):=by
 have hky:=F5 (Hk h hj hi);have hv':v.ok=true/\v.kind≠0:=by simpa[MQ]using b
 have hn:=IU h hj;have h1:=a.live;have h2:=a.turns;refine⟨Gq (by have:=a.place h hj hi;omega) ⟨hv'.2,by omega,by omega⟩,Gs BA a.inv hky hky.1 hv'.1,fun p c=>?_,?_,?_⟩
 ·rcases Hu BA a.inv hky hky.1 hv'.1 with⟨q,a1,a2,a3,_⟩|⟨q,a1,a2,a3,_⟩|⟨a1,a2,a3,_⟩|⟨a1,a2,a3⟩
  ·exact absurd a3 hv'.2
  ·obtain⟨k,k1,k2,rfl⟩:=a1;rw[a.no h hj hi k k1 k2]at a2;cases a2
  ·rcases(a3 p).1 c with e|e
   ·obtain⟨q,g,f⟩:=a.keys p e;exact⟨q,by omega,f⟩
   ·exact⟨i,by omega,by rw[e]⟩
  ·exact absurd ⟨hv'.2,by omega,by omega⟩ a2
 ·rcases Hu BA a.inv hky hky.1 hv'.1 with⟨q,a1,a2,a3,_⟩|⟨q,a1,a2,a3,_⟩|⟨a1,a2,a3,a4,a5⟩|⟨a1,a2,a3⟩
  ·exact absurd a3 hv'.2
  ·obtain⟨k,k1,k2,rfl⟩:=a1;rw[a.no h hj hi k k1 k2]at a2;cases a2
  ·rw[a4];exact⟨by omega,by push_cast;omega⟩
  ·exact absurd ⟨hv'.2,by omega,by omega⟩ a2
 ·rcases Hu BA a.inv hky hky.1 hv'.1 with⟨q,a1,a2,a3,_⟩|⟨q,a1,a2,a3,_⟩|⟨a1,a2,a3,a4,a5⟩|⟨a1,a2,a3⟩
  ·exact absurd a3 hv'.2
  ·obtain⟨k,k1,k2,rfl⟩:=a1;rw[a.no h hj hi k k1 k2]at a2;cases a2
  ·rw[a5];exact⟨by omega,by push_cast;omega⟩
  ·exact absurd ⟨hv'.2,by omega,by omega⟩ a2
theorem Ou{n:Nat}{F:Nat->Bf}(h:Ar n F=0){j:Nat}(hj:j<n){W:Nat->Vl}(a:∀i,i<nf F j->MQ (W i)=true):∀i,i<=nf F j->KH F j i (Bc F j W i)
 |0,_=>⟨Px,fun p b=>by obtain⟨q,h1,_⟩:=b;exact absurd h1 (NO _),⟨AaC _,AaC _⟩,⟨AaC _,AaC _⟩⟩
 |i+1,hi=>(MJ h hj (Ou h hj a i (by omega)) (by omega) (a i (by omega))).2
theorem comeC_str{c:Dc}{k v:Vl}(h:Co Ky hN c)(a:k.kind=4)(hl:c.live<500):(Bu hN c k v).m=c.m:=by
 unfold Bu;rw[Cs (fun h=>by have h1:k.kind=2:=h.1;omega),Cs (fun h=>by have h1:k.kind=2:=h.1;omega),Tr];exact(Iy h hl).2.2.m
structure Ru (F:Nat->Bf) (j:Nat) (W:Nat->Vl) (i:Nat) (d:Dc):Prop where
 ls:KH F j i d
 n:d.n=i
 live:d.live=i
 turns:d.turns=i
 m:d.m=0
 L:∀q,q<i->d.L q=⟨A7 (DF F j q),W q,(q:Int)+1⟩
theorem Gk{n:Nat}{F:Nat->Bf}(h:Ar n F=0){j:Nat}(hj:j<n){W:Nat->Vl}(a:∀i,i<nf F j->MQ (W i)=true):∀i,i<=nf F j->Ru F j W i (Bc F j W i)
 |0,hi=>⟨Ou h hj a 0 hi,rfl,rfl,rfl,rfl,fun q hq=>absurd hq (NO _)⟩
 |i+1,hi=>by
  have ih:=Gk h hj a i (by omega);have hn:=IU h hj;obtain⟨e1,e2⟩:=MJ h hj ih.ls (by omega) (a i (by omega));have hky:=F5 (Hk h hj (show i<nf F j by omega));have hv':(W i).ok=true/\(W i).kind≠0:=by simpa[MQ]using a i (by omega)
  have hc:Am hN (Bc F j W i)=Bc F j W i:=C3 (.inr (by rw[ih.n,ih.live];omega));have e3:Bc F j W (i+1)=Bu hN (Bc F j W i) (A7 (DF F j i)) (W i):=by
   show CB hN _ _ _=_;rw[e1];show Bu hN (Am hN (Bc F j W i)) _ _=_;rw[hc]
  have hl:(Bc F j W i).live<500:=by rw[ih.live];omega
  obtain⟨_,_,c3,c4,c5,c6⟩:=Ih BA ih.ls.inv.i0 ih.ls.inv.next hky hky.1 hv'.1 hv'.2 (ih.ls.no h hj (show i<nf F j by omega)) hl (by rw[ih.turns];omega);refine⟨e2,by rw[e3,c3,ih.n],by rw[e3,c5,ih.live];push_cast;rfl,by rw[e3,c6,ih.turns];push_cast;rfl,by rw[e3,comeC_str ih.ls.inv.i0 rfl hl,ih.m],fun q hq=>?_⟩;rw[e3,c4,ih.n,ih.turns];by_cases e:q=i
  ·subst e;exact Al _ _ _
  ·rw[Af _ _ e];exact ih.L q (by omega)
abbrev D0:Array Value:=#[N9,N9,N9,J 0,J 0,J 0]
theorem ZQ(w:Y):(sizeOf 92).run prog w=.ok 6 w:=by kernel_rfl
theorem Q5{w:Y}{b:Nat}(hb:w.heap[b]?=some (.cells D0 92 (0,0)))(a0 a1 a2:T9)(n0 a c c0 c1 c2:Nat)(d:Dc):∃w',(Instr.storeAt 92 (Q9 b) (Z0 (.slice a0 n0 c0) (.slice a1 a c1) (.slice a2 c c2) d)).run prog w=.ok () w'/\Bt w w' b #[.slice a0 n0 c0,.slice a1 a c1,.slice a2 c c2,J d.used,J d.live,J d.turns] 92:=
 BD (old:=D0.toList) (vs:=[.slice a0 n0 c0,.slice a1 a c1,.slice a2 c c2,J d.used,J d.live,J d.turns]) ZQ hb rfl rfl (by simp[Value.oneCell']) rfl
theorem X7:Small dP:=⟨by decide,by decide,by decide⟩
theorem AD.fR{w:Y}{bk:Nat}{r0 r1:V9}{R2:Nat}{E S:Nat->Nat}{d:Dc}(h:AD w bk r0 r1 R2 E S d){q:Nat}{cs:Array Value}(hq:w.heap[q]?=some (.cells cs 96 (0,0)))(hb:bk<q):¬mM bk r0 R2 q:=by
 rintro(e|e|e)
 ·omega
 ·obtain⟨cur,hc,_⟩:=A3 h.log e;rw[hc]at hq;cases hq
 ·obtain⟨cur,hc,_⟩:=A3 h.slots (show(Value.slice (some (G R2 0)) d.x d.x).ownBlock=some q by rw[e];rfl);rw[hc]at hq;cases hq
theorem RE(A:Ad)(t:Tb)(s:AV)(b0:Nat)(B:Nat->Nat)(j:Nat)(w:Y)(hT:A8 w)(hN:IE w s b0 B)(hf:Ar s.nf s.F=0)(hj:j<s.nf)(af:t.nv=nf s.F j)(hV:Hg w A.va t.nv t.V)(ak:∀i,i<t.nv->MQ (t.V i)=true):
  C9 235 #[B4 (B j) A t] w fun e w'=>(∃v0 v1 v2,e=.returned (Z0 v0 v1 v2 (Bc s.F j t.V t.nv))/\DV (Bc s.F j t.V t.nv) w' v0 v1 v2 w.heap.size w'.heap.size)/\B9 w w':=by
 obtain⟨W,hW⟩:∃W,W=(w.alloc (.cells #[.slice A.va t.nv A.vc,.slice A.la t.d.n A.lc,.slice A.ia t.d.m A.ic,.slice A.xa t.d.x A.xc,J t.d.used,J t.d.live,J t.d.turns,Q9 (B j)] 236)).alloc (.cells D0 92):=⟨_,rfl⟩;have ag:B9 w W:=by rw[hW];exact(n9).alloc (by simp) _
 have ct:W.heap.size=w.heap.size+1+1:=by rw[hW];simp
 have bf:W.heap[w.heap.size]?=some (.cells #[.slice A.va t.nv A.vc,.slice A.la t.d.n A.lc,.slice A.ia t.d.m A.ic,.slice A.xa t.d.x A.xc,J t.d.used,J t.d.live,J t.d.turns,Q9 (B j)] 236 (0,0)):=by
  rw[hW];exact(Fs _ _ _ (by simp)).trans (BE _ _)
 have b1:W.heap[w.heap.size+1]?=some (.cells D0 92 (0,0)):=by
  rw[hW];have h1:=BE (w.alloc (.cells #[.slice A.va t.nv A.vc,.slice A.la t.d.n A.lc,.slice A.ia t.d.m A.ic,.slice A.xa t.d.x A.xc,J t.d.used,J t.d.live,J t.d.turns,Q9 (B j)] 236)) (.cells D0 92);simpa using h1
 obtain⟨Z,M,bg,bh⟩:=hN;have HC:Hid (∀w2,B9 W w2->C9 157 #[B4 (B j) A t] w2 fun e w'=>(∃v,e=.returned v/\Ci w' w2.heap.size v t.nv (Ey s j t))/\B9 w2 w'):=O (fun w2 h2=>by
  have o:=ag.trans (h2.mono (by omega));rw[af];exact FF s b0 B Z M A t j w2 (bg.below o) bh hf hj (hV.below o rfl) af)
 have cr:t.nv<=12:=by rw[af];exact IU hf hj
 have ao:Hid (∀i,i<=t.nv->Ru s.F j t.V i (Bc s.F j t.V i)):=O (fun i hi=>Gk hf hj (fun q hq=>ak q (by omega)) i (by omega));have bb:Hid (∀k,k<t.nv->Ap (A7 (DF s.F j k)) (A7 (DF s.F j k))=true/\Ky (A7 (DF s.F j k))/\(t.V k).ok=true/\(t.V k).kind≠0/\(∀i,i<(Bc s.F j t.V k).n->((Bc s.F j t.V k).L i).turn≠0->Ap ((Bc s.F j t.V k).L i).key (A7 (DF s.F j k))=false)/\AE (Bc s.F j t.V k) (A7 (DF s.F j k)) (hN (A7 (DF s.F j k)))=-1):=O (fun k hk=>by
  have hl:=(ao k (by omega)).ls;have hky:=F5 (Hk hf hj (show k<nf s.F j by omega));have hv':(t.V k).ok=true/\(t.V k).kind≠0:=by simpa[MQ]using ak k hk
  refine⟨BA.refl _ hky,hky,hv'.1,hv'.2,hl.no hf hj (by omega),?_⟩;rcases hl.inv.i0.place BA hky with⟨q,h1,h2,h3,h4⟩|⟨h1,h2⟩
  ·have:=hl.place hf hj (show k<nf s.F j by omega);omega
  ·exact h2)
 have bj:A8 W:=AL _ _ hT ag;have b6:=O bj;have cu:5<=w.heap.size:=hT.sz;have b7:=O ag;have bm:=O bf;have b8:=O b1;obtain⟨P,hP⟩:∃P,P=Ey s j t:=⟨_,rfl⟩;rw[<-hP]at HC;have HP:=O hP;clear bg bh hf hj af hV ag hP bf b1 ak hT bj
 go_enter func235,ntmps235
 go_wp2_with fail
 rw[<-hW];clear hW;go_wp2_with fail
 refine(GM none 0 none 0 none 0 dP W (cO W) X7 (Px (K:=Ky) (hf:=hN)).i0.d3 (Px (K:=Ky) (hf:=hN)).i0.d4).mono ?_;rintro e w2 ⟨⟨bk,R0,R1,R2,E,S,rfl,bn,aq⟩,o⟩;have ar:=AD.TR bn aq X7;have cv:=aq.gb;have bp:=O ar;have ah:=O o;have bq:=O ((o.block _ (by omega)).trans bm);have z2:=o.size;have cw:=ar.lt;clear bn aq ar o bm;go_wp2_with (first|(refine Aan rfl 236 _ rfl w.heap.size rfl _ _ _ _ bq underlying236 rfl K0 ?_))
 refine(HC _ ah).mono ?_;rintro e w3 ⟨⟨v,rfl,r⟩,H⟩;obtain⟨va,vc,rfl⟩:=Ao r;have b9:=O (bp.below H);have bc:=O (b7.trans ((ah.trans (H.mono (by omega))).mono (by omega)));have I:=O (ah.trans (H.mono (by omega)));have z3:=H.size;have HO:=O r;have ca:=O r.lt;clear H r HC bq bp ah;go_wp2_with fail
 go_loopw [11] (fun i wr=>∃(k:Nat) (r0 r1:V9) (R2:Nat) (E S:Nat->Nat),k<=t.nv/\i=J k/\AD wr bk r0 r1 R2 E S (Bc s.F j t.V k)/\Below bk w3 wr/\∀q,(Value.slice va t.nv vc).ownBlock=some q->wr.heap[q]?=w3.heap[q]?) (fun i _=>t.nv-(intOf i).toNat)
 case atStart=>exact⟨0,_,_,_,_,_,by omega,rfl,b9,DD _ _,fun _ _=>rfl⟩
 case round=>
  obtain⟨k,r0,r1,au,Ek,Sk,hk,rfl,Q,hb,C⟩:=hrel;have cx:=hb.size;by_cases av:k<t.nv
  case neg=>
   have br:k=t.nv:=by omega
   have f:=z ao k hk;have hI:=f.ls.inv;have bt:Small (Bc s.F j t.V k):=hI.small (by rw[f.m];omega);have cb:=O ((hb.block (w.heap.size+1) (by omega)).trans ((I.block _ (by omega)).trans b8));have cc:=O (bc.trans (hb.mono (by omega)));have R:=O Q;have HI:=O hI;have bu:=O bt;clear hb C Q f hI bt av;obtain⟨D,hD⟩:∃D,D=Bc s.F j t.V k:=⟨_,rfl⟩;rw[<-hD]at R HI bu;have HD:Hid (Bc s.F j t.V t.nv=D):=O (by rw[hD,br]);rw[br];clear hD;go_wp2_with fail
   refine(Qc bk r0 r1 au Ek Sk D wr R bu (fun j hj=>by
    rcases HI.i0.ints j hj with e|e<;>omega) (fun j hj=>by
    rcases HI.i0.idx.range j hj with e|e|⟨e1,e2,_⟩
    ·exact .inl e
    ·exact .inr (.inl e)
    ·exact .inr (.inr ⟨e1,by omega⟩))).mono ?_
   rintro e w6 ⟨⟨u0,u1,u2,rfl,aw⟩,ai⟩;obtain⟨ua,uc,ub,ud,ue,uf,e0,e1,e2,-⟩:=aw.at;subst e0 e1 e2;obtain⟨w7,bw,l⟩:=Q5 ((ai.block _ (by omega)).trans cb) ua ub ue D.n D.m D.x uc ud uf D;have cd:=O bw;have c0:=Aa l 0 _ rfl;have c1:=Aa l 1 _ rfl;have c2:=Aa l 2 _ rfl;have c3:=Aa l 3 _ rfl;have c4:=Aa l 4 _ rfl;have c5:=Aa l 5 _ rfl;have ax:=O l;have cg:=O aw;have ch:=O (cc.trans (ai.mono (by omega)));have z6:=ai.size;clear aw ai bw l;go_wp2_with (refine Ak rfl rfl _ cd ?_)
   refine DO (v:=Z0 (.slice ua D.n uc) (.slice ub D.m ud) (.slice ue D.x uf) D) (by simp[results,results235,go_sem,c0,c1,c2,c3,c4,c5]) rfl ⟨⟨_,_,_,by rw[z HD],?_⟩,?_⟩
   ·rw[z HD];refine DV.wide (DV.keep cg (fun b hb _=>ax.other b (by omega))) (by omega) (by rw[(z ax).size];exact A0 _)
   ·exact ax.below ch (by omega)
  obtain⟨g,cp,hv,cy,cz,_,bx,_⟩:=Ci.form HO (by omega);cases hv;have T:=C g rfl;obtain⟨ae,U,_⟩:=A3 HO rfl;have ay:wr.heap[g]?=some (.cells ae 96 (0,0)):=T.trans U;have cj:=Aj ay;have az:=O (QM ((bx k av).keep (fun q=>As (a:=(G g q)) T)));obtain⟨p,hp⟩:∃p,p=P k:=⟨_,rfl⟩;rw[<-hp]at az;have bz:Hid (p.key=A7 (DF s.F j k)/\p.val=t.V k):=O (by rw[hp,z HP];exact⟨rfl,rfl⟩);have b2:=O hb;have R:=O Q;have bd:=O C;have ck:=O ay;have cN:=Q.lt;clear hb C bx hp Q T ay U;go_upto_region 5 with(first|(refine wpList_load_mid rfl 96 _ rfl g (k*11) rfl (Eb p) _ az underlying96 rfl R4 ?_)|(refine Ak rfl rfl _ (Nc wr p) ?_))
  obtain⟨w4,aj⟩:∃w4,w4=wr.alloc (.cells (Eb p).toArray 96):=⟨_,rfl⟩;rw[<-aj];have b3:B9 wr w4:=by rw[aj];exact(DD _ _).alloc (A0 _) _
  have c:w4.heap[wr.heap.size]?=some (.cells (Eb p).toArray 96 (0,0)):=by rw[aj];exact BE _ _
  have l4:=Aj c;have q0:w4.cell? (y wr 0)=some (J p.key.kind):=by rw[NB w4 _ _ _ _ _ c];rfl
  have q1:w4.cell? (y wr 1)=some (J p.key.num):=by rw[NB w4 _ _ _ _ _ c];rfl
  have q2:w4.cell? (y wr 2)=some (F9 p.key.Ae):=by rw[NB w4 _ _ _ _ _ c];rfl
  have q3:w4.cell? (y wr 3)=some (.string p.key.str):=by rw[NB w4 _ _ _ _ _ c];rfl
  have q4:w4.cell? (y wr 4)=some (J p.key.ref):=by rw[NB w4 _ _ _ _ _ c];rfl
  have q5:w4.cell? (y wr 5)=some (J p.val.kind):=by rw[NB w4 _ _ _ _ _ c];rfl
  have q6:w4.cell? (y wr 6)=some (J p.val.num):=by rw[NB w4 _ _ _ _ _ c];rfl
  have q7:w4.cell? (y wr 7)=some (F9 p.val.Ae):=by rw[NB w4 _ _ _ _ _ c];rfl
  have q8:w4.cell? (y wr 8)=some (.string p.val.str):=by rw[NB w4 _ _ _ _ _ c];rfl
  have q9:w4.cell? (y wr 9)=some (J p.val.ref):=by rw[NB w4 _ _ _ _ _ c];rfl
  have X:=O b3;clear aj b3 c az;have ad:Hid (C9 261 #[Q9 bk,V p.key.kind p.key.num p.key.Ae p.key.str p.key.ref,V p.val.kind p.val.num p.val.Ae p.val.str p.val.ref] w4 fun e w'=>((∃u,e=.returned u)/\∃aM a6 a7 E2 S',AD w' bk aM a6 a7 E2 S' (Bc s.F j t.V (k+1)))/\KX (mM bk r0 au) bk w4 w'):=O (by
   obtain⟨p1,p2,p3,p4,p5,p6⟩:=z bb k av;have f:=z ao k hk;have cl:A8 w4:=by
    have h1:Below 5 W w4:=((I.mono (by omega)).trans (b2.mono (by omega))).trans (X.mono (by omega));exact b6.below h1 (A0 _)
   have h:=TW A8 AL hN Ky BA LF bk (fun a b ha hb=>ha.below hb (by omega)) r0 r1 au Ek Sk (Bc s.F j t.V k) (A7 (DF s.F j k)) (t.V k) w4 cl (R.below X) (f.ls.inv.small (by rw[f.m];omega)) (by rw[f.m];omega) f.ls.inv p2 p2.1 p3 ⟨fun e=>absurd e p4,fun e=>absurd e.1 (show¬(4:Int)=2 by decide)⟩;rw[(z bz).1,(z bz).2];exact h.mono fun e w' q=>⟨q.1,q.2.mono fun b _ h=>h p6 (fun h=>by obtain⟨h1,h2⟩:=h;rw[f.live,f.n]at h2;omega) rfl⟩)
  go_wp2_with fail
  refine ad.mono ?_;rintro e w5 ⟨⟨⟨uu,rfl⟩,aM,a6,a7,E2,S2,b4⟩,a8⟩;have cm:=O b4;have cn:Hid (Below bk w3 w5):=O ((b2.trans (X.mono (by omega))).trans a8.CH);have cq:Hid (∀q,(Value.slice (some (G g 0)) t.nv vc).ownBlock=some q->w5.heap[q]?=w3.heap[q]?):=O (fun q e=>by
   cases e;have h4:=X.block g cj;have b5:w4.heap[g]?=some (.cells ae 96 (0,0)):=h4.trans ck;exact(a8.BR g (Aj b5) ((R.below X).fR b5 (by have:=z ca;omega))).trans (h4.trans (bd g rfl)))
  clear b4 a8 q0 q1 q2 q3 q4 q5 q6 q7 q8 q9 ad;go_wp2;go_roundw
  case rel=>exact⟨k+1,aM,a6,a7,E2,S2,by omega,by go_num,cm,cn,cq⟩
  case measure=>simp[intOf];omega
theorem Xb:(prog.info? 1).map (fun i=>(i.zero,i.size,i.bytes))=some (some .nilFunc,1,8):=by kernel_rfl
theorem Ga(Z:Nat->Prop)(c B0:Nat)(vN vT vS:V9)(Bk:Nat->Nat)(A:Nat->Ad)(s:AV)(fn:Nat)(cs:Array Value)(w:Y)(j:AZ Z w c B0 vN vT vS (N9) Bk A s):
  C9 201 #[Q9 c,.func (.func fn) #[] cs] w fun e w'=>(∃u,e=.returned u)/\∃g t,w.heap.size<=g/\w'.ownsRow w.heap.size 1 1 (S9 g 1 t) 1 [.func (.func fn) #[] cs]/\AZ Z w' c B0 vN vT vS (S9 g 1 t) Bk A s/\BG (Aq B0 c vN vT vS w) w (Aq B0 c vN vT vS w') w'/\∀k,k<w.heap.size->k≠c->w'.heap[k]?=w.heap[k]?:=by
 obtain⟨i0,l,m,n,o⟩:=Tn Xb;obtain⟨c0,c1,c2,c3,cf⟩:=j.cells;have B:=j.lt;have C:Hid (∀g3 a w3,w3.ownsRow w.heap.size 1 1 (S9 g3 1 a) 1 ([]++[.func (.func fn) #[] cs])->(w.alloc (.cells #[.func (.func fn) #[] cs] 1)).grownBy w3 none->g3=w.heap.size+1->
   w3.cell? (G c 3)=some (N9)/\w3.frozen? (G c 3)=false/\c<w3.heap.size/\((w3.setCell (G c 3) (S9 g3 1 a)).ownsRow w.heap.size 1 1 (S9 g3 1 a) 1 [.func (.func fn) #[] cs]/\AZ Z (w3.setCell (G c 3) (S9 g3 1 a)) c B0 vN vT vS (S9 g3 1 a) Bk A s/\BG (Aq B0 c vN vT vS w) w (Aq B0 c vN vT vS (w3.setCell (G c 3) (S9 g3 1 a))) (w3.setCell (G c 3) (S9 g3 1 a))/\∀k,k<w.heap.size->k≠c->(w3.setCell (G c 3) (S9 g3 1 a)).heap[k]?=w.heap[k]?)):=O (by
  intro g3 a w3 h1 h2 h3;have i:B9 w w3:=⟨h2.os,h2.tape,h2.output,FZ (by simp) h2.size,fun k hk=>(h2.block k (by simp;omega) (by simp)).trans (Fs _ _ _ hk)⟩;obtain⟨m3,d3⟩:=j.below i;obtain⟨_,_,_,e3,v⟩:=m3.cells;obtain⟨m4,d4⟩:=m3.gG (ua:=some (G g3 0)) (un:=1) (uc:=a);refine⟨e3,v 3,m3.lt,Ai h1 (fun q e=>At _ _ _ _ (by cases e;show g3≠c;omega)),m4,d3.trans d4,fun k hk p=>(At _ _ _ _ (by exact p)).trans (i.block k hk)⟩)
 clear j c0 c1 c2
 go_enter func201,ntmps201
 go_wp2_with (at_builtin;refine Aah _ rfl _ _ 196 rfl w.heap.size 1 i0 .nilFunc 1 8 underlying196 l m n o rfl (by decide) (N9) 0 [] rfl (ON _ _ _ _) (y w 0) 1 1 [.func (.func fn) #[] cs] rfl rfl (GP (BE _ _)) (by simp[Value.oneCell']) (by decide) (by decide) (by decide) (by simp) (w.heap.size+1) (by simp) ?_;intro g3 a w3 f h b x;obtain⟨e3,v,D,d⟩:=z C g3 a w3 f h (b.resolve_left (by simp[Value.ownBlock]));have d:=O d;have r:w.heap.size<=g3:=(by have:=b.resolve_left (by simp[Value.ownBlock]);omega);clear f h b)
 go_end0;exact⟨⟨_,rfl⟩,g3,a,r,d.1,d.2.1,d.2.2.1,d.2.2.2⟩
instance:Inhabited Si:=⟨⟨⟨#[]⟩,0,0,0,0⟩⟩
instance:Inhabited Tb:=⟨⟨0,0,fun _=>default,⟨0,fun _=>default,0,fun _=>0,0,fun _=>0,0,0,0⟩⟩⟩
instance:Inhabited Ad:=⟨⟨none,0,none,0,none,0,none,0⟩⟩
structure Jq (w:Y) (c:Nat) (vU:V9) (t:Nat) (g:V9) (a cu d e f:Nat):Prop where
 v:vU=S9 a 1 cu
 u:w.ownsRow 0 1 1 (S9 a 1 cu) 1 [.func (.func 240) #[] #[Q9 d,Q9 e,Q9 f]]
 k:w.heap[d]?=some (.cells #[g] 162 (0,0))
 b:w.heap[e]?=some (.cells #[Q9 c] 121 (0,0))
 n:w.heap[f]?=some (.cells #[J (t:Int)] 3 (0,0))
theorem Jq.keep{w w':Y}{c:Nat}{vU:V9}{t:Nat}{j:V9}{a cu d f i:Nat}(h:Jq w c vU t j a cu d f i)(h1:w'.heap[a]?=w.heap[a]?)(l:w'.heap[d]?=w.heap[d]?)(h2:w'.heap[f]?=w.heap[f]?)(h3:w'.heap[i]?=w.heap[i]?):Jq w' c vU t j a cu d f i:=
 ⟨h.v,Ai h.u (fun g e=>by cases e;exact h1),l.trans h.k,h2.trans h.b,h3.trans h.n⟩
def OY(a b c g t:Nat)(vT d:V9)(W:Y):Prop:=W.cell? (G a 0)=some (Q9 c)/\W.cell? (G b 0)=some (J (t:Int))/\W.cell? (G c 1)=some vT/\W.cell? (G g t)=some d
def Rt(a b c t:Nat)(vT:V9)(W:Y):Prop:=W.cell? (G a 0)=some (Q9 c)/\W.cell? (G b 0)=some (J (t:Int))/\W.cell? (G c 1)=some vT
theorem Kk(Bk:Nat->Nat)(a:Ad)(x:Tb):∃ty v,AF Bk a x=.iface ty v:=by
 unfold AF
 split
 ·exact⟨_,_,rfl⟩
 ·exact⟨_,_,rfl⟩
theorem Hv(Z:Nat->Prop)(c B0:Nat)(vN vT vS:V9)(Bk:Nat->Nat)(A:Nat->Ad)(s:AV)(t:Nat)(a':Ad)(x':Tb)(w:Y)(B:AZ Z w c B0 vN vT vS (N9) Bk A s)(ht:t<s.nt)(aw:s.nt<=100)(hr:Rd (OZ Z B0 c vN vT vS w) w a' x'):
  C9 208 #[Q9 c,J (t:Int),AF Bk a' x'] w fun e w'=>(∃u,e=.returned u)/\∃L,AZ Z w' c B0 vN vT vS L Bk (AM A t a') (Cg s t x')/\BG (Aq B0 c vN vT vS w) w (Aq B0 c vN vT vS w') w'/\(∀k,k<w.heap.size->k≠c->vT.ownBlock≠some k->w'.heap[k]?=w.heap[k]?)/\∃l cu bb bw bn,Jq w' c L t (AF Bk (A t) (s.T t)) l cu bb bw bn/\vT.ownBlock≠some bb:=by
 obtain⟨g,f,hv,ae,ax,M,af⟩:=B.FI ht;subst hv;obtain⟨ty,F,C⟩:=Kk Bk (A t) (s.T t);obtain⟨ty',i,m⟩:=Kk Bk a' x';obtain⟨W,H⟩:∃W,W=(w.alloc (.cells #[Q9 c] 121)).alloc (.cells #[J (t:Int)] 3):=⟨_,rfl⟩;have n:B9 w W:=by rw[H];exact(n9).alloc (by simp) _
 have ag:W.heap.size=w.heap.size+1+1:=by rw[H];simp
 have b0:W.heap[w.heap.size]?=some (.cells #[Q9 c] 121 (0,0)):=by
  rw[H];exact(Fs _ _ _ (by simp)).trans (BE _ _)
 have b1:W.heap[w.heap.size+1]?=some (.cells #[J (t:Int)] 3 (0,0)):=by
  rw[H];have h1:=BE (w.alloc (.cells #[Q9 c] 121)) (.cells #[J (t:Int)] 3);simpa using h1
 have ah:=B.lt;have ai:c≠g:=fun e=>B.BS B.t (by decide) (by rw[e];rfl)
 obtain⟨X,I⟩:∃X,X=(W.alloc (.cells #[.iface ty F] 162)).drew:=⟨_,rfl⟩;have o:B9 w X:=by rw[I];exact(n.alloc n.size _).drew
 have b:B9 W X:=by rw[I];exact(n9).drew
 have ay:X.heap.size=w.heap.size+1+1+1:=by rw[I];simp;omega
 have x2:X.heap[w.heap.size+1+1]?=some (.cells #[.iface ty F] 162 (0,0)):=by
  rw[I,<-ag];exact BE W _
 have d:OY w.heap.size (w.heap.size+1) c g t (S9 g s.nt f) (.iface ty F) W.drew:=⟨by show W.cell? _=_;simp[World.cell?,b0],by show W.cell? _=_;simp[World.cell?,b1],(n.cell (p:=(G c 1)) ah).trans B.cells.2.1,(n.cell (p:=(G g t)) ae).trans (M.trans (by rw[C]))⟩;obtain⟨hE,D⟩:=B.enter o;have v:Hid (∀w1 l cu,W.heap.size<w1.heap.size->(∀k,k<X.heap.size->k≠c->w1.heap[k]?=X.heap[k]?)->X.heap.size<=l->w1.ownsRow X.heap.size 1 1 (S9 l 1 cu) 1 [.func (.func 240) #[] #[Q9 (w.heap.size+1+1),Q9 w.heap.size,Q9 (w.heap.size+1)]]->
   AZ (ZB Z w.heap.size X.heap.size) w1 c B0 vN (S9 g s.nt f) vS (S9 l 1 cu) Bk A s->BG (Aq B0 c vN (S9 g s.nt f) vS X) X (Aq B0 c vN (S9 g s.nt f) vS w1) w1->
   Rt w.heap.size (w.heap.size+1) c t (S9 g s.nt f) w1.drew/\Rt w.heap.size (w.heap.size+1) c t (S9 g s.nt f) ((w1.setCell (G g t) (.iface ty' i)).drew)/\g<w1.heap.size/\(∃u,w1.cell? (G g t)=some u)/\w1.frozen? (G g t)=false/\
   (AZ Z (w1.setCell (G g t) (.iface ty' i)).drew c B0 vN (S9 g s.nt f) vS (S9 l 1 cu) Bk (AM A t a') (Cg s t x')/\BG (Aq B0 c vN (S9 g s.nt f) vS w) w (Aq B0 c vN (S9 g s.nt f) vS (w1.setCell (G g t) (.iface ty' i)).drew) (w1.setCell (G g t) (.iface ty' i)).drew/\(∀k,k<w.heap.size->k≠c->(Value.slice (some (G g 0)) s.nt f).ownBlock≠some k->(w1.setCell (G g t) (.iface ty' i)).drew.heap[k]?=w.heap[k]?)/\
    Jq (w1.setCell (G g t) (.iface ty' i)).drew c (S9 l 1 cu) t (AF Bk (A t) (s.T t)) l cu (w.heap.size+1+1) w.heap.size (w.heap.size+1))):=O (by
  intro w1 l cu az j P r m1 d1;have y0:=(j _ (by omega) (by omega)).trans ((b.block _ (by omega)).trans b0);have y1:=(j _ (by omega) (by omega)).trans ((b.block _ (by omega)).trans b1);have y2:=(j _ (by omega) (by omega)).trans x2;have aj:Rd (OZ (ZB Z w.heap.size X.heap.size) B0 c vN (S9 g s.nt f) vS w1) w1 a' x':=by
   intro ak hs hk;refine hr ak (FZ o.size (FZ d1.size hs)) (fun k k1 k2=>?_);have Q:=D.trans d1;refine(hk k (Be k1 Q.size) (fun e=>?_)).trans (Q.block k k1 (fun e=>k2 (.inl e)));rcases e with e|e|e
   ·exact(Q.own k e).elim (fun e=>k2 (.inl e)) (fun e=>by omega)
   ·exact k2 (.inr e)
   ·omega
  have R:g<w1.heap.size:=Be (by omega) d1.size;have S:w1.cell? (G g t)=some (AF Bk (A t) (s.T t)):=by rw[I9 m1.t t (by omega),Je ht]
  have U:∀q,w1.frozen? (G g q)=false:=fun q=>by obtain⟨cur,hb,_⟩:=A3 m1.t rfl;simp[World.frozen?,hb]
  obtain⟨m2,d2⟩:=m1.Jm rfl ht aj;rw[m]at m2 d2;have st:∀q,q≠g->(w1.setCell (G g t) (.iface ty' i)).heap[q]?=w1.heap[q]?:=fun q hq=>At _ _ _ _ (by exact hq)
  have V:=m1.cells.2.1;have Q:=(D.trans d1).trans d2;refine⟨⟨by show w1.cell? _=_;simp[World.cell?,y0],by show w1.cell? _=_;simp[World.cell?,y1],V⟩,⟨?_,?_,(As (a:=(G c 1)) (st c ai)).trans V⟩,R,⟨_,S⟩,U t,(m2.leave (fun k e=>.inl e)).drew,Q.Qf,fun k hk ao aq=>?_,⟨rfl,MR (Ai r (fun q e=>st q (by cases e;show l≠g;omega))) (P9 _),?_,(st _ (by omega)).trans y0,(st _ (by omega)).trans y1⟩⟩
  ·exact(As (a:=(y w 0)) (st w.heap.size (by omega))).trans (by simp[World.cell?,y0])
  ·exact(As (a:=(Y9 w 0)) (st (w.heap.size+1) (by omega))).trans (by simp[World.cell?,y1])
  ·exact(st k (fun e=>aq (by rw[e];rfl))).trans ((j k (by omega) ao).trans (o.block k hk))
  ·exact((st _ (by omega)).trans y2).trans (by rw[C]))
 have HE:=O hE;have ad:OY w.heap.size (w.heap.size+1) c g t (S9 g s.nt f) (.iface ty F) X:=⟨(b.cell (p:=(y w 0)) (by show w.heap.size<_;omega)).trans d.1,(b.cell (p:=(Y9 w 0)) (by show w.heap.size+1<_;omega)).trans d.2.1,(b.cell (p:=(G c 1)) (by show c<_;omega)).trans d.2.2.1,(b.cell (p:=(G g t)) (by show g<_;omega)).trans d.2.2.2⟩;have E:∀cs,OY w.heap.size (w.heap.size+1) c g t (S9 g s.nt f) (.iface ty F) (W.alloc (.cells cs 162)).drew:=fun cs=>by
  have hb:B9 W (W.alloc (.cells cs 162)).drew:=(n9).drew;exact⟨(hb.cell (p:=(y w 0)) (by show w.heap.size<_;omega)).trans d.1,(hb.cell (p:=(Y9 w 0)) (by show w.heap.size+1<_;omega)).trans d.2.1,(hb.cell (p:=(G c 1)) (by show c<_;omega)).trans d.2.2.1,(hb.cell (p:=(G g t)) (by show g<_;omega)).trans d.2.2.2⟩
 have av:W.heap.size<X.heap.size:=by omega
 have x0:X.cell? (y w 0)=some (Q9 c):=ad.1;have aM:w.heap.size<X.heap.size:=by omega
 rw[m];clear B hE D n o b x2 b0 b1 hr M af C m
 go_enter func208,ntmps208
 go_wp2_with fail
 rw[<-H];clear H;refine H9 (OY w.heap.size (w.heap.size+1) c g t (S9 g s.nt f) (.iface ty F)) ?_;refine tz 0 (h:=tz 1 (h:=tz 2 (h:=tz 3 (h:=tz 4 (h:=tz 5 (h:=tz 6 (h:=tz 7 (h:=?_))))))));refine ry 8 (fun K hK=>?_);go_simp;refine hK.out _ _ (E _) (fun _=>?_);clear hK K;refine ry 9 (fun K hK=>?_);go_simp;refine hK.out _ _ (E _) (fun _=>?_);clear hK K;refine FM ?_;rw[<-I];clear I d ad E;go_wp2_with fail
 refine(Ga _ c B0 _ _ _ Bk A s 240 #[Q9 (w.heap.size+1+1),Q9 w.heap.size,Q9 (w.heap.size+1)] X HE).mono ?_;rintro e w1 ⟨⟨uu,rfl⟩,l,cu,P,r,m1,d1,j⟩;obtain⟨a6,ar,a7,⟨u0,a8⟩,bc,x⟩:=z v w1 l cu (by have:=d1.size;omega) j P r m1 d1;have au:=O x;clear m1 d1 j r x v HE x0;go_wp2_with fail
 refine H9 (Rt w.heap.size (w.heap.size+1) c t (S9 g s.nt f)) ?_;refine tz 0 (h:=tz 1 (h:=tz 2 (h:=tz 3 (h:=tz 4 (h:=tz 5 (h:=tz 6 (h:=tz 7 (h:=?_))))))));refine ry 8 (fun K hK=>?_);go_simp;refine hK.out _ _ ar (fun _=>?_);clear hK K;refine FM ?_;go_wp2_with fail
 go_end0;obtain⟨f1,f2,f3,f4⟩:=z au;exact⟨⟨_,rfl⟩,_,f1,f2,f3,l,cu,w.heap.size+1+1,w.heap.size,w.heap.size+1,f4,fun e=>by have e:g=w.heap.size+1+1:=Aaj e;omega⟩
theorem Gn{d:Dc}{k:Vl}(h:Inv Ky hN d)(hk:Ky k){p:Pr}(a:Has d p)(hl:Ap p.key k=true):0<=AE d k (hN k):=by
 rcases h.i0.place BA hk with⟨i,h1,h2,h3,h4⟩|⟨h1,h2⟩
 ·omega
 ·obtain⟨i,a1,a2,rfl⟩:=a;rw[h1 i a1 a2]at hl;cases hl
theorem UK{d:Dc}{k v:Vl}(h:Inv Ky hN d)(hk:Ky k)(b:v.ok=true):El d k v=(decide (v.kind≠0)&&decide (AE (CB hN d k v) k (hN k)<0)):=by
 have hi:=Gs BA h hk hk.1 b;have g:=h.i0.le;have j:=h.i0.turns;unfold El;rcases Hu BA h hk hk.1 b with⟨q,a1,a2,a3,_⟩|⟨q,a1,a2,a3,a4,_⟩|⟨a1,a2,a3,a4,a5⟩|⟨a1,a2,a3⟩
 ·simp[a3]
 ·have h1:=Gn h hk a1 a2;have h2:=Gn hi hk ((a4 ⟨q.key,v,q.turn⟩).2 (.inr rfl)) a2;rw[decide_eq_false (p:=AE d k (hN k)<0) (by omega),decide_eq_false (p:=AE (CB hN d k v) k (hN k)<0) (by omega)];simp
 ·have h2:=Gn hi hk ((a3 ⟨k,v,d.turns+1⟩).2 (.inr rfl)) (BA.refl _ hk);have c:=hi.i0.le;have f:=hi.i0.turns;rw[decide_eq_false (p:=AE (CB hN d k v) k (hN k)<0) (by omega),decide_eq_false (p:=d.live=500) (by omega),decide_eq_false (p:=d.turns=1000000000000) (by omega)];simp
 ·rw[a3];have h1:AE d k (hN k)<0:=by
   rcases h.i0.place BA hk with⟨i,b1,b2,b3,b4⟩|⟨b1,b2⟩
   ·rw[a1 _ (EY b1 b2)]at b3;cases b3
   ·omega
  by_cases a:v.kind=0
  ·simp[a]
  ·have:d.live=500\/d.turns=1000000000000:=by
    by_cases e:d.live<500
    ·right;have:¬d.turns<1000000000000:=fun e'=>a2 ⟨a,e,e'⟩
     omega
    ·left;omega
   rw[decide_eq_true h1];rcases this with e|e<;>simp[a,e]
section
theorem AD.JC{w w':Y}{bk:Nat}{r0 r1:V9}{R2:Nat}{E S:Nat->Nat}{d:Dc}(h:AD w bk r0 r1 R2 E S d)(hs:w.heap.size<=w'.heap.size)(hk:∀k,bk<=k->k<w.heap.size->w'.heap[k]?=w.heap[k]?):AD w' bk r0 r1 R2 E S d:=by
 have hb:=hk bk (A0 _) h.lt;have e:∀q,w'.cell? (G bk q)=w.cell? (G bk q):=fun q=>As (a:=(G bk q)) hb
 have c:∀{t:TypeId} {v:V9} {n:Nat} {f:Nat->Option Addr},Rw w (bk+1) t v n f->Rw w' (bk+1) t v n f:=fun g=>Ai g (fun q hq=>hk q (by have:=(g.lt q hq).1;omega) (g.lt q hq).2)
 refine⟨Be h.lt hs,(e _).trans h.c0,(e _).trans h.c1,(e _).trans h.c2,(e _).trans h.c3,(e _).trans h.c4,(e _).trans h.c5,(e _).trans h.c6,fun q=>(OK (a:=(G bk q)) hb).trans (h.fz q),c h.log,c h.ints,h.rf,c h.slots,h.ap,fun i hi=>(h.Ca i hi).keep hs (hk _ (Aar (h.eb i hi)) (h.Ca i hi).lt),h.eb,h.inj,fun j hj=>⟨fun b=>((h.sl j hj).1 b).keep hs (hk _ (Aar (h.sg j hj (by omega))) (Aj ((h.sl j hj).1 b).ob)),fun b=>((h.sl j hj).2 b).keep hs (hk _ (Aar (h.sg j hj (by omega))) (Aj ((h.sl j hj).2 b).ob))⟩,h.sg⟩
theorem Rd.Nw{X:Nat->Prop}{w:Y}{A:Ad}{t:Tb}{lo hi:Nat}{c0 c1 c2:Nat}(h:DV t.d w (.slice A.la t.d.n c0) (.slice A.ia t.d.m c1) (.slice A.xa t.d.x c2) lo hi)(hn:t.nv=0)(j:∀b cs ty,w.heap[b]?=some (.cells cs ty (0,0))->(ty=96\/ty=3)->lo<=b->¬X b):Rd X w A t:=fun w' hs hk=>by
 have hl:Lj t.d.L t.d.n w' (.slice A.la t.d.n c0) lo hi:=by
  rcases h.log with h|⟨b,e,Z,g,h1,h2,h3,h4,h5,i⟩
  ·exact .inl h
  ·obtain⟨c,hc,_,_⟩:=id h4;exact .inr ⟨b,e,Z,g,h1,h2,h3,Re h4 (hk b (Aj hc) (j b _ _ hc (.inl rfl) h2)),h5,i⟩
 have a:∀{f:Nat->Int} {n:Nat} {v:V9},I3 f n w v lo hi->I3 f n w' v lo hi:=fun k=>by
  rcases k with h|⟨b,e,Z,g,h1,h2,h3,h4,h5,i⟩
  ·exact .inl h
  ·obtain⟨c,hc,_,_⟩:=id h4;exact .inr ⟨b,e,Z,g,h1,h2,h3,Re h4 (hk b (Aj hc) (j b _ _ hc (.inr rfl) h2)),h5,i⟩
 obtain⟨la,lc,ia,ic,xa,xc,e0,e1,e2,l⟩:=DV.at (⟨hl,a h.ints,a h.index,h.gW,h.gX,h.a12⟩:DV t.d w' _ _ _ lo hi);cases e0;cases e1;cases e2;exact⟨.inl hn,l⟩
theorem U7(Bk:Nat->Nat)(x:Tb)(d:Dc)(k v:Vl)(la ia xa:T9)(lc ic xc:Nat):AF Bk ⟨none,0,la,lc,ia,ic,xa,xc⟩ (Dk x d k v)=.iface 239 (.agg #[N9,.slice la (CB hN d k v).n lc,.slice ia (CB hN d k v).m ic,.slice xa (CB hN d k v).x xc,J (CB hN d k v).used,J (CB hN d k v).live,J (CB hN d k v).turns]):=C3 rfl
def gU(Z:Nat->Prop)(c B0:Nat)(vN vT vS:V9)(Bk:Nat->Nat)(A:Nat->Ad)(s:AV)(t:Nat)(d:Dc)(k v:Vl)(w:Y)(e:Ending)(w':Y):Prop:=
 e=.returned (Bp (if El d k v=true then 5 else 0))/\∃a a',AZ Z w' c B0 vN vT vS a Bk (AM A t a') (Cg s t (Dk (s.T t) d k v))/\BG (Aq B0 c vN vT vS w) w (Aq B0 c vN vT vS w') w'/\∃f cu b g h,Jq w' c a t (AF Bk (A t) (s.T t)) f cu b g h/\vT.ownBlock≠some b
theorem H6(Z:Nat->Prop)(c B0:Nat)(vN vT vS:V9)(Bk:Nat->Nat)(A:Nat->Ad)(s:AV)(t:Nat)(la:T9)(lc:Nat)(ia:T9)(ic:Nat)(xa:T9)(xc:Nat)(d:Dc)(k v:Vl)(w:Y)(hM:AZ Z w c B0 vN vT vS (N9) Bk A s)(ht:t<s.nt)(bq:s.nt<=100)(hT:A8 w)(hD:Gy w la ia xa d)(hI:Inv Ky hN d)(hm:d.m<=4000000)(hk:Ky k)(hv:v.ok=true)(hR:KI k v)(b9:5<=B0):
  C9 234 #[Q9 c,J (t:Int),Dv la lc ia ic xa xc d,FQ k,FQ v] w fun e w'=>gU Z c B0 vN vT vS Bk A s t d k v w e w':=by
 have br:=O hR;clear hR;obtain⟨W,hW⟩:∃W,W=((w.alloc (.cells #[.slice la d.n lc,.slice ia d.m ic,.slice xa d.x xc,J d.used,J d.live,J d.turns] 92)).alloc (.cells #[J k.kind,J k.num,F9 k.Ae,.string k.str,J k.ref] 43)).alloc (.cells #[J v.kind,J v.num,F9 v.Ae,.string v.str,J v.ref] 43):=⟨_,rfl⟩;have ad:B9 w W:=by rw[hW];exact((n9).alloc (by simp) _).alloc (by simp;omega) _
 have ca:W.heap.size=w.heap.size+1+1+1:=by rw[hW];simp
 have b0:W.heap[w.heap.size]?=some (.cells #[.slice la d.n lc,.slice ia d.m ic,.slice xa d.x xc,J d.used,J d.live,J d.turns] 92 (0,0)):=by
  rw[hW];iterate 2 (refine(Fs _ _ _ (by simp;try omega)).trans ?_)
  exact BE _ _
 have b1:W.heap[w.heap.size+1]?=some (.cells #[J k.kind,J k.num,F9 k.Ae,.string k.str,J k.ref] 43 (0,0)):=by
  rw[hW];refine(Fs _ _ _ (by simp)).trans ?_;have h1:=BE (w.alloc (.cells #[.slice la d.n lc,.slice ia d.m ic,.slice xa d.x xc,J d.used,J d.live,J d.turns] 92)) (.cells #[J k.kind,J k.num,F9 k.Ae,.string k.str,J k.ref] 43);simpa using h1
 have b2:W.heap[w.heap.size+1+1]?=some (.cells #[J v.kind,J v.num,F9 v.Ae,.string v.str,J v.ref] 43 (0,0)):=by
  rw[hW];have h1:=BE ((w.alloc (.cells #[.slice la d.n lc,.slice ia d.m ic,.slice xa d.x xc,J d.used,J d.live,J d.turns] 92)).alloc (.cells #[J k.kind,J k.num,F9 k.Ae,.string k.str,J k.ref] 43)) (.cells #[J v.kind,J v.num,F9 v.Ae,.string v.str,J v.ref] 43);simpa using h1
 have hS:Small d:=hI.small (by omega);have au:=hI.sound BA;have av:=Gs BA hI hk hk.1 hv;have bt:=Sz (v:=v) BA hI hk;have M:=O (UK hI hk hv);have cb:=hM.lt;have aw:=(hM.t.lt);have cc:=hM.base;have x0:W.cell? (y w 0)=some (.slice la d.n lc):=by simp[World.cell?,b0]
 have x1:W.cell? (y w 1)=some (.slice ia d.m ic):=by simp[World.cell?,b0]
 have x2:W.cell? (y w 2)=some (.slice xa d.x xc):=by simp[World.cell?,b0]
 have x3:W.cell? (y w 3)=some (J d.used):=by simp[World.cell?,b0]
 have x4:W.cell? (y w 4)=some (J d.live):=by simp[World.cell?,b0]
 have x5:W.cell? (y w 5)=some (J d.turns):=by simp[World.cell?,b0]
 have lW:w.heap.size<W.heap.size:=by omega
 have HM:=O hM;have bu:=O ad;have ax:=O (And.intro b1 b2);have ay:=O (hD.below ad);have HT:=O hT;have HI:=O hI;have HS:=O hS;have az:=O au;have h:=O av;have HV:=O hv;have HK:=O hk;have bx:=O aw;clear hM ad b0 b1 b2 hD hT hI hS au av hv hk aw
 go_enter func234,ntmps234
 go_wp2_with fail
 rw[<-hW];clear hW;refine(GM la lc ia ic xa xc d _ ay HS az.d3 az.d4).mono ?_;rintro e w1 ⟨⟨bk,R0,R1,R2,E,S,rfl,aM,ae⟩,p⟩;have a6:=AD.TR aM ae HS;have cd:=ae.gb;have z1:=p.size;obtain⟨b1,b2⟩:=z ax;have b1:=(p.block _ (by omega)).trans b1;have b2:=(p.block _ (by omega)).trans b2;have k0:w1.cell? (Y9 w 0)=some (J k.kind):=by simp[World.cell?,b1]
 have k1:w1.cell? (Y9 w 1)=some (J k.num):=by simp[World.cell?,b1]
 have k2:w1.cell? (Y9 w 2)=some (F9 k.Ae):=by simp[World.cell?,b1]
 have k3:w1.cell? (Y9 w 3)=some (.string k.str):=by simp[World.cell?,b1]
 have k4:w1.cell? (Y9 w 4)=some (J k.ref):=by simp[World.cell?,b1]
 have v0:w1.cell? (Z9 w 0)=some (J v.kind):=by simp[World.cell?,b2]
 have v1:w1.cell? (Z9 w 1)=some (J v.num):=by simp[World.cell?,b2]
 have v2:w1.cell? (Z9 w 2)=some (F9 v.Ae):=by simp[World.cell?,b2]
 have v3:w1.cell? (Z9 w 3)=some (.string v.str):=by simp[World.cell?,b2]
 have v4:w1.cell? (Z9 w 4)=some (J v.ref):=by simp[World.cell?,b2]
 have l1:=Aj b1;have l2:=Aj b2;have r:=O (And.intro b1 b2);have a7:=O a6;have a8:=O (bu.trans (p.mono (by omega)));clear aM ae a6 p b1 b2 x0 x1 x2 x3 x4 x5 ay ax;go_wp2_with fail
 refine(TW A8 AL hN Ky BA LF bk (fun a b ha hb=>ha.below hb (by omega)) _ _ R2 E S d k v w1 (AL _ _ HT a8) a7 HS hm HI HK HK.1 HV br).mono ?_;rintro e w2 ⟨⟨⟨uu,rfl⟩,r0,r1,bc,E2,S2,af⟩,⟨C,_⟩⟩;have P:=O af;have z2:=C.size;have bd:=O (a8.trans (C.mono (by omega)));have F:=O (And.intro ((C.block _ (by omega)).trans r.1) ((C.block _ (by omega)).trans r.2));have b8:=af.lt;clear af C k0 k1 k2 k3 k4 v0 v1 v2 v3 v4 l1 l2 r a7;obtain⟨D,ag⟩:∃D,D=CB hN d k v:=⟨_,rfl⟩;rw[<-ag]at P h bt M;have bf:=O ag;clear ag;go_wp2_with fail
 refine(Qc bk r0 r1 bc E2 S2 D w2 P (h.small (by omega)) (fun j hj=>by
  rcases h.i0.ints j hj with e|e<;>omega) (fun j hj=>by
  rcases h.i0.idx.range j hj with e|e|⟨e1,e2,_⟩
  ·exact .inl e
  ·exact .inr (.inl e)
  ·exact .inr (.inr ⟨e1,by omega⟩))).mono ?_
 rintro e w3 ⟨⟨u0,u1,u2,rfl,ah⟩,l⟩;obtain⟨ua,uc,ub,ud,ue,uf,e0,e1,e2,-⟩:=ah.at;subst e0 e1 e2;have z3:=l.size;have ai:=bd.trans (l.mono (by omega));obtain⟨m3,d3⟩:=HM.below ai;have bz:=O m3;have b3:=O d3;have bg:Hid (Rd (OZ Z B0 c vN vT vS w3) w3 ⟨none,0,ua,uc,ub,ud,ue,uf⟩ (Dk (s.T t) d k v)):=O (by
  have aq:DV (Dk (s.T t) d k v).d w3 (.slice ua (Dk (s.T t) d k v).d.n uc) (.slice ub (Dk (s.T t) d k v).d.m ud) (.slice ue (Dk (s.T t) d k v).d.x uf) w2.heap.size w3.heap.size:=by
   show DV (CB hN d k v) w3 (.slice ua (CB hN d k v).n uc) (.slice ub (CB hN d k v).m ud) (.slice ue (CB hN d k v).x uf) _ _;rw[<-z bf];exact ah
  refine Rd.Nw (A:=⟨none,0,ua,uc,ub,ud,ue,uf⟩) aq rfl (fun b cs ty hb hty cg=>?_);rintro(e|e)
  ·rcases hty with rfl|rfl
   ·exact m3.Eo hb (by decide) (by decide) (by decide) (by decide) (by decide) e
   ·exact m3.Eo hb (by decide) (by decide) (by decide) (by decide) (by decide) e
  ·have:=HM.z b e;omega)
 have H:=O (And.intro ((l.block _ (by omega)).trans F.1) ((l.block _ (by omega)).trans F.2));have U:=O (P.below l);have b4:=O (AL _ _ HT ai);have b5:Hid (AF Bk ⟨none,0,ua,uc,ub,ud,ue,uf⟩ (Dk (s.T t) d k v)=.iface 239 (.agg #[N9,.slice ua D.n uc,.slice ub D.m ud,.slice ue D.x uf,J D.used,J D.live,J D.turns])):=O (by rw[U7,z bf]);have aj:=O (Hv Z c B0 vN vT vS Bk A s t ⟨none,0,ua,uc,ub,ud,ue,uf⟩ (Dk (s.T t) d k v) w3 m3 ht bq bg);rw[z b5]at aj;clear ah l ai m3 d3 P bd F bg;go_wp2_with fail
 refine aj.mono ?_;rintro e w4 ⟨⟨ch,rfl⟩,Q,bh,g,bj,gu,cu,bb,bw,bn,o,X⟩;have z4:=g.size;have R:∀q,w.heap.size<=q->q<w3.heap.size->w4.heap[q]?=w3.heap[q]?:=fun q h1 h2=>bj q h2 (by omega) (fun e=>by have:=(bx q e).2;omega)
 have ar:=O (U.JC z4 (fun q h1 h2=>R q (by omega) h2));have b1:=(R _ (by omega) (by omega)).trans H.1;have b2:=(R _ (by omega) (by omega)).trans H.2;have k0:w4.cell? (Y9 w 0)=some (J k.kind):=by simp[World.cell?,b1]
 have k1:w4.cell? (Y9 w 1)=some (J k.num):=by simp[World.cell?,b1]
 have k2:w4.cell? (Y9 w 2)=some (F9 k.Ae):=by simp[World.cell?,b1]
 have k3:w4.cell? (Y9 w 3)=some (.string k.str):=by simp[World.cell?,b1]
 have k4:w4.cell? (Y9 w 4)=some (J k.ref):=by simp[World.cell?,b1]
 have v0:w4.cell? (Z9 w 0)=some (J v.kind):=by simp[World.cell?,b2]
 have l1:=Aj b1;have l2:=Aj b2;have bm:A8 w4:=b4.below (B:=B0) ⟨g.os,g.tape,g.output,g.size,fun q hq=>g.block q (by omega) (fun e=>by have:=(bz.Lc e).1;omega)⟩ (by omega);have I:Hid (C9 263 #[Q9 bk,V k.kind k.num k.Ae k.str k.ref] w4 (R9 (.pointer (CO E2 (AE D k (hN k)))) w4)):=O (by
  obtain⟨b6,b7,hB⟩:=ar.book;exact Ig A8 AL bk b6 b7 bc E2 S2 D k (hN k) (LF k HK) w4 bm hB (h.small (by omega)) h.i0.d3 h.i0.d4)
 have ak:Hid (∀L,B9 w4 L->∃Q a',AZ Z L c B0 vN vT vS Q Bk (AM A t a') (Cg s t (Dk (s.T t) d k v))/\BG (Aq B0 c vN vT vS w) w (Aq B0 c vN vT vS L) L/\∃gu cu bb bw bn,Jq L c Q t (AF Bk (A t) (s.T t)) gu cu bb bw bn/\vT.ownBlock≠some bb):=O (fun L f=>by
  obtain⟨m5,d5⟩:=bh.below f;refine⟨Q,_,m5,(b3.trans g).trans d5,gu,cu,bb,bw,bn,o.keep (f.block _ ?_) (f.block _ (Aj o.k)) (f.block _ (Aj o.b)) (f.block _ (Aj o.n)),X⟩;exact(o.u.lt gu rfl).2)
 clear bh g bj o X R b1 b2 bm aj U H;by_cases i:v.kind=0
 ·have dv:(v.kind !=0)=false:=by simp[i]
  have HR:Hid (El d k v=false):=O (by rw[z M];simp[i]);clear i;go_wp2;refine DO (v:=Bp 0) (by simp[results,results234,go_sem,Bp]) rfl ⟨by rw[z HR];rfl,ak _ (DD _ _)⟩
 ·have dv:(v.kind !=0)=true:=by simp[i]
  by_cases hp:AE D k (hN k)<0
  ·have HR:Hid (El d k v=true):=O (by rw[z M];simp[i,hp]);have K:CO E2 (AE D k (hN k))=none:=by unfold CO;rw[Cs (by omega)]
   rw[K]at I;clear i hp K;go_wp2_with fail
   refine I.mono ?_;rintro e L ⟨rfl,f⟩;have ao:=O (ak L f);clear f;go_wp2;refine DO (v:=Bp 5) (by simp[results,results234,go_sem,Bp]) rfl ⟨by rw[z HR];rfl,ao⟩
  ·have HR:Hid (El d k v=false):=O (by rw[z M];simp[hp]);have K:CO E2 (AE D k (hN k))=some (G (E2 (AE D k (hN k)).toNat) 0):=by unfold CO;rw[C3 (by omega)]
   rw[K]at I;obtain⟨eb,bp⟩:∃eb,eb=E2 (AE D k (hN k)).toNat:=⟨_,rfl⟩;rw[<-bp]at I;clear i hp K bp;go_wp2_with fail
   refine I.mono ?_;rintro e L ⟨rfl,f⟩;have ao:=O (ak L f);clear f;go_wp2;refine DO (v:=Bp 0) (by simp[results,results234,go_sem,Bp]) rfl ⟨by rw[z HR];rfl,ao⟩
structure Jr (fn:Nat) (w:Y) (c:Nat) (vU:V9) (n a cu d e:Nat):Prop where
 v:vU=S9 a 1 cu
 u:w.ownsRow 0 1 1 (S9 a 1 cu) 1 [.func (.func fn) #[] #[Q9 d,Q9 e]]
 b:w.heap[d]?=some (.cells #[Q9 c] 121 (0,0))
 n:w.heap[e]?=some (.cells #[J (n:Int)] 3 (0,0))
theorem Jr.keep{fn:Nat}{w w':Y}{c:Nat}{vU:V9}{n a cu d f:Nat}(h:Jr fn w c vU n a cu d f)(h1:w'.heap[a]?=w.heap[a]?)(h2:w'.heap[d]?=w.heap[d]?)(h3:w'.heap[f]?=w.heap[f]?):Jr fn w' c vU n a cu d f:=
 ⟨h.v,Ai h.u (fun g e=>by cases e;exact h1),h2.trans h.b,h3.trans h.n⟩
def Fo(a c g:Nat)(vN:V9)(p:Nat)(W:Y):Prop:=W.cell? (G a 0)=some (Q9 c)/\W.cell? (G c 0)=some vN/\W.cell? (G g 0)=some (Q9 p)
theorem Fo.keep{b c g p:Nat}{vN:V9}{w w':Y}(h:Fo b c g vN p w)(h1:w'.heap[b]?=w.heap[b]?)(h2:w'.heap[c]?=w.heap[c]?)(h3:w'.heap[g]?=w.heap[g]?):Fo b c g vN p w':=
 ⟨(As (a:=(G b 0)) h1).trans h.1,(As (a:=(G c 0)) h2).trans h.2.1,(As (a:=(G g 0)) h3).trans h.2.2⟩
theorem fL(Bk:Nat->Nat):AF Bk default SL=.iface 236 (.agg #[N9,N9,N9,N9,J 0,J 0,J 0,Q9 (Bk 0)]):=by
 unfold AF;rw[Cs (by decide)];rfl
theorem NP(Z:Nat->Prop)(c B0:Nat)(vN vT vS:V9)(Bk:Nat->Nat)(A:Nat->Ad)(s:AV)(a:Ac)(w:Y)(m:AZ Z w c B0 vN vT vS (N9) Bk A s)(b6:s.nt<=100)(bd:0<s.nf):
  C9 141 #[Q9 c,IC a] w fun e w'=>(∃aj ak A',AZ Z w' c B0 vN aj vS ak Bk A' {s with nt:=s.nt+1,T:=AM s.T s.nt SL}/\BG (Aq B0 c vN vT vS w) w (Aq B0 c vN aj vS w') w'/\
   (s.nt≠100->e=.returned (.tuple #[DS (B5 s.nt),Bp 0]))/\(s.nt=100->e=.returned (.tuple #[DS (AO 0),Bp 5])/\∃D cu bw bn,Jr 202 w' c ak s.nt D cu bw bn)):=by
 obtain⟨L,tc,rfl⟩:=Ao m.t;obtain⟨na,nc,rfl⟩:=Ao m.n;obtain⟨f,bf,bg,ao⟩:∃f,na=some (G f 0)/\f<w.heap.size/\w.cell? (G f 0)=some (Q9 (Bk 0)):=by
  obtain⟨hl,⟨hv,h0⟩|⟨g,cap,cur,hv,hb,af,h1,h2,h3,h4⟩⟩:=m.n
  ·omega
  ·cases hv;exact⟨g,rfl,(E1.1 af).1,by rw[I9 m.n 0 (by omega),JM bd]⟩
 subst bf;obtain⟨i0,bh,bj,bk,bm⟩:=Tn MA;obtain⟨W,M⟩:∃W,W=(((w.alloc (.cells #[Q9 c] 121)).alloc (.cells (Bn a) 51)).alloc (.cells Ns 45)).alloc (.cells #[J (s.nt:Int)] 3):=⟨_,rfl⟩;have P:B9 w W:=by rw[M];exact(((n9).alloc (by simp) _).alloc (by simp;omega) _).alloc (by simp;omega) _
 have aq:W.heap.size=w.heap.size+1+1+1+1:=by rw[M];simp
 have b0:W.heap[w.heap.size]?=some (.cells #[Q9 c] 121 (0,0)):=by
  rw[M];iterate 3 (refine(Fs _ _ _ (by simp;try omega)).trans ?_)
  exact BE _ _
 have b2:FK W (w.heap.size+1+1):=by
  rw[M];refine(Fs _ _ _ (by simp)).trans ?_;have h1:=BE ((w.alloc (.cells #[Q9 c] 121)).alloc (.cells (Bn a) 51)) (.cells Ns 45);simpa using h1
 have b3:W.heap[w.heap.size+1+1+1]?=some (.cells #[J (s.nt:Int)] 3 (0,0)):=by
  rw[M];have h1:=BE (((w.alloc (.cells #[Q9 c] 121)).alloc (.cells (Bn a) 51)).alloc (.cells Ns 45)) (.cells #[J (s.nt:Int)] 3);simpa using h1
 obtain⟨hE,ar⟩:=m.enter P;have b7:=m.lt;have o:=m.base;obtain⟨c0,c1,c2,c3,cf⟩:=m.cells;have au:c≠f:=fun e=>m.BS m.n (by decide) (by rw[e];rfl)
 have HE:=O hE;have av:=O ar;have aw:=O (And.intro b0 (And.intro b2 b3));have HZ:=O aq;have ax:=O ((P.cell (p:=(G f 0)) bg).trans ao);have b8:c<w.heap.size+1:=by omega
 have b9:c<w.heap.size+1+1:=by omega
 have ca:c<w.heap.size+1+1+1:=by omega
 clear m hE ar b0 b2 b3 c0 c2 c3 cf P aq ao
 go_enter func141,ntmps141
 go_wp2_with fail
 rw[<-M];clear M c1;refine(Ga _ c B0 _ _ _ Bk A s 202 #[Q9 w.heap.size,Q9 (w.heap.size+1+1+1)] W HE).mono ?_;rintro e w1 ⟨⟨uu,rfl⟩,D,cu,cb,Q,k,R,r⟩;have zW:=z HZ;have bz:=R.size;obtain⟨b0,b2,b3⟩:=z aw;have b0:=(r _ (by omega) (by omega)).trans b0;have b2:FK w1 (w.heap.size+1+1):=(r _ (by omega) (by omega)).trans b2;have b3:=(r _ (by omega) (by omega)).trans b3;have ay:w1.cell? (G f 0)=some (Q9 (Bk 0)):=(As (a:=(G f 0)) (r f (by omega) (fun e=>au e.symm))).trans ax;obtain⟨c0,c1,c2,c3,cf⟩:=k.cells;obtain⟨KV,az⟩:∃KV,KV=Value.iface 236 (.agg #[N9,N9,N9,N9,J 0,J 0,J 0,Q9 (Bk 0)]):=⟨_,rfl⟩;have j:B9 w1 ((w1.alloc (.cells #[KV] 162)).drew):=(n9).drew;have S:Fo w.heap.size c f (S9 f s.nf nc) (Bk 0) w1.drew:=⟨by show w1.cell? _=_;simp[World.cell?,b0],c0,ay⟩;have u:Fo w.heap.size c f (S9 f s.nf nc) (Bk 0) (w1.alloc (.cells #[KV] 162)).drew:=Fo.keep (w:=w1) S (j.block w.heap.size (by omega)) (j.block c (by omega)) (j.block f (by omega));have xX:(w1.alloc (.cells #[KV] 162)).drew.cell? (G c 1)=some (.slice L s.nt tc):=(j.cell (p:=(G c 1)) (by show c<_;omega)).trans c1;have xY:(w1.alloc (.cells #[KV] 162)).cell? (G c 1)=some (.slice L s.nt tc):=xX;have bp:=O k.t;have cc:B0<=w1.heap.size:=k.base;have HF:Hid (∀g3 b w3,w3.ownsRow B0 162 1 (S9 g3 (s.nt+1) b) (s.nt+1) (kL Bk A s s.nt++[KV])->(w1.alloc (.cells #[KV] 162)).drew.grownBy w3 (Value.ownBlock (.slice L s.nt tc))->(Value.ownBlock (.slice L s.nt tc)=some g3\/g3=(w1.alloc (.cells #[KV] 162)).drew.heap.size)->
   Fo w.heap.size c f (S9 f s.nf nc) (Bk 0) w3/\Fo w.heap.size c f (S9 f s.nf nc) (Bk 0) (w3.setCell (G c 1) (S9 g3 (s.nt+1) b))/\w3.cell? (G c 1)=some (.slice L s.nt tc)/\w3.frozen? (G c 1)=false/\c<w3.heap.size/\
   (w3.setCell (G c 1) (S9 g3 (s.nt+1) b)).heap[w.heap.size]?=some (.cells #[Q9 c] 121 (0,0))/\FK (w3.setCell (G c 1) (S9 g3 (s.nt+1) b)) (w.heap.size+1+1)/\(w3.setCell (G c 1) (S9 g3 (s.nt+1) b)).heap[w.heap.size+1+1+1]?=some (.cells #[J (s.nt:Int)] 3 (0,0))/\(w3.setCell (G c 1) (S9 g3 (s.nt+1) b)).heap[D]?=w1.heap[D]?/\
   AZ (ZB Z w.heap.size W.heap.size) (w3.setCell (G c 1) (S9 g3 (s.nt+1) b)) c B0 (S9 f s.nf nc) (S9 g3 (s.nt+1) b) vS (S9 D 1 cu) Bk (AM A s.nt default) {s with nt:=s.nt+1,T:=AM s.T s.nt SL}/\BG (Aq B0 c (S9 f s.nf nc) (.slice L s.nt tc) vS w) w (Aq B0 c (S9 f s.nf nc) (S9 g3 (s.nt+1) b) vS (w3.setCell (G c 1) (S9 g3 (s.nt+1) b))) (w3.setCell (G c 1) (S9 g3 (s.nt+1) b))):=O (by
  intro g3 b w3 h1 h2 h3;have bq:w3.ownsRow B0 162 1 (S9 g3 (s.nt+1) b) (s.nt+1) (kL Bk A s s.nt++[AF Bk default SL]):=by rw[fL,<-az];exact h1
  obtain⟨k1,k2,k3⟩:=k.XL j h2 bq (h3.imp id (fun e=>by rw[e];exact j.size)) (Rd.empty rfl rfl rfl rfl);have i:∀(q:Nat) (cs:Array Value) (ty:TypeId),w1.heap[q]?=some (Obj.cells cs ty (0,0))->ty≠162->w3.heap[q]?=w1.heap[q]?:=fun q cs ty hq ht=>by
   have aM:=Aj hq;refine(h2.block q (Be aM j.size) (fun e=>?_)).trans (j.block q aM);obtain⟨cur,hb,_⟩:=A3 k.t e.symm;rw[hb]at hq;cases hq;exact ht rfl
  have q0:=i _ _ _ b0 (by decide);have q2:=i _ _ _ b2 (by decide);have q3:=i _ _ _ b3 (by decide);obtain⟨b1,br,_⟩:=A3 Q rfl;have qu:=i D _ _ br (by decide);have qc:=i c _ _ k.BR (by decide);obtain⟨b4,bt,_⟩:=A3 k.n rfl;have qn:=i f _ _ bt (by decide);have l:Fo w.heap.size c f (S9 f s.nf nc) (Bk 0) w3:=Fo.keep (w:=w1) S q0 qc qn;have st:∀q,q≠c->(w3.setCell (G c 1) (S9 g3 (s.nt+1) b)).heap[q]?=w3.heap[q]?:=fun q hq=>At _ _ _ _ (by exact hq)
  refine⟨l,⟨(As (a:=(y w 0)) (st w.heap.size (by omega))).trans l.1,k2.cells.1,(As (a:=(G f 0)) (st f (fun e=>au e.symm))).trans l.2.2⟩,(As (a:=(G c 1)) qc).trans c1,(OK (a:=(G c 1)) qc).trans (cf 1),Aj k1,(st _ (by omega)).trans (q0.trans b0),(st _ (by omega)).trans (q2.trans b2),(st _ (by omega)).trans (q3.trans b3),(st _ (by omega)).trans qu,k2,(av.trans R).trans k3⟩)
 have bu:=O Q;have cd:Hid (w1.heap[D]?=w1.heap[D]?):=O rfl;clear k R r Q b0 b2 b3 c0 c2 c3 cf ay HE av aw ax j;subst az;go_wp2_with fail
 refine H9 (Fo w.heap.size c f (S9 f s.nf nc) (Bk 0)) ?_;refine tz 0 (h:=tz 1 (h:=tz 2 (h:=tz 3 (h:=tz 4 (h:=tz 6 (h:=tz 7 (h:=tz 8 (h:=tz 9 (h:=tz 10 (h:=tz 11 (h:=tz 12 (h:=?_))))))))))));refine tz 13 (h:=tz 14 (h:=?_));refine AaG (rs:=[5,15]) (by kernel_rfl) (by simp) ?_;refine RC rfl (fun K hK=>?armA) (RC rfl (fun K hK=>?armB) AaI)
 case' armA=>
  go_simp;refine hK.out _ _ S (fun _=>?_);clear hK K;refine ry 15 (fun K hK=>?_);go_simp;refine hK.out _ _ u (fun bx=>?_);clear hK K
 case' armB=>
  go_simp;refine hK.out _ _ u (fun bx=>?_);clear hK K;refine ry 5 (fun K hK=>?_);go_simp;refine hK.out _ _ u (fun _=>?_);clear hK K
 all_goals
  refine ry 16 (fun K hK=>?_);refine Aap _ rfl (.tmp 21) (.tmp 31) 116 rfl B0 162 i0 .nilIface 1 16 underlying116 bh bj bk bm rfl (by decide) (.slice L s.nt tc) s.nt (kL Bk A s s.nt) (by simp[Act.eval]) (World.ownsRow.drew (IH bp _)) (y w1 0) 1 1 [(.iface 236 (.agg #[N9,N9,N9,N9,J 0,J 0,J 0,Q9 (Bk 0)]))] (by simp[Act.eval]) rfl (GP (w:=(w1.alloc (.cells #[(.iface 236 (.agg #[N9,N9,N9,N9,J 0,J 0,J 0,Q9 (Bk 0)]))] 162)).drew) (BE w1 _)) (by simp[Value.oneCell']) (by decide) (by unfold maxLen;omega) (by omega) (by simp;omega) _ rfl ?_;intro g3 b w3 x E B b5;obtain⟨l,a6,x3,f3,cg,d0,d2,d3,U,m4,F⟩:=z HF g3 b w3 x E B;have HX:=O (And.intro d0 (And.intro d2 (And.intro d3 (And.intro U (And.intro m4 F)))));clear x E B d0 d2 d3 U m4 F;refine hK.out _ _ l (fun ag=>?_);clear hK K;refine tz 17 (h:=tz 18 (h:=tz 19 (h:=?_)));refine ry 20 (fun K hK=>?_);go_simp;refine hK.out _ _ a6 (fun _=>?_);clear hK K;refine FM ?_;clear l a6 ag x3 f3;obtain⟨w4,a7⟩:∃w4,w4=w3.setCell (G c 1) (S9 g3 (s.nt+1) b):=⟨_,rfl⟩;rw[<-a7]at HX ⊢;clear a7;obtain⟨d0,d2,d3,U,m4,F⟩:=z HX;obtain⟨_,y1,_,_,_⟩:=m4.cells;have ch:=m4.lt;have l0:=Aj d0;have l2:=d2.lt;have l3:=Aj d3;have y0:w4.cell? (y w 0)=some (Q9 c):=by simp[World.cell?,d0]
  have y3:w4.cell? (G (w.heap.size+1+1+1) 0)=some (J (s.nt:Int)):=by simp[World.cell?,d3]
  obtain⟨w5,H,a8⟩:=CC d2 (AO 0);obtain⟨w6,I,bb⟩:=CC d2 (B5 s.nt);have ah:=O H;have ai:=O I;have C:=O a8;have bc:=O bb;clear d0 d2 d3 U m4 F H I a8 bb;by_cases hf:s.nt=100
  ·have d:decide ((100:Int)<(s.nt:Int)+1)=true:=by simp;omega
   have V:=O hf;clear hf;go_wp2_with (refine Ak rfl rfl _ ah ?_)
   obtain⟨r0,r1,r2,r3,r4,r5,r6,r7,r8,r9,X,ad⟩:=An.read C.BR;refine DO (v:=.tuple #[DS (AO 0),Bp 5]) (by simp[results,results141,go_sem,r0,r1,r2,r3,r4,r5,r6,r7,r8,r9,X,ad,Bp]) rfl ?_;obtain⟨d0,d2,d3,U,m4,F⟩:=z HX;obtain⟨mm,ae⟩:=m4.Jd F o (by omega) (by omega) d2 C;refine⟨_,_,_,mm,ae,fun h=>absurd V h,fun _=>⟨rfl,D,cu,w.heap.size,w.heap.size+1+1+1,rfl,MR (Ai bu (fun q e=>?_)) (P9 _),?_,?_⟩⟩
   ·cases e;exact(C.other _ (by show D≠w.heap.size+1+1;omega)).trans U
   ·exact(C.other _ (by omega)).trans d0
   ·exact(C.other _ (by omega)).trans d3
  ·have d:decide ((100:Int)<(s.nt:Int)+1)=false:=by simp;omega
   have V:=O hf;clear hf;go_wp2_with (refine Ak rfl rfl _ ai ?_)
   obtain⟨r0,r1,r2,r3,r4,r5,r6,r7,r8,r9,X,ad⟩:=An.read bc.BR;refine DO (v:=.tuple #[DS (B5 s.nt),Bp 0]) (by simp[results,results141,go_sem,r0,r1,r2,r3,r4,r5,r6,r7,r8,r9,X,ad,Bp]) rfl ?_;obtain⟨d0,d2,d3,U,m4,F⟩:=z HX;obtain⟨mm,ae⟩:=m4.Jd F o (by omega) (by omega) d2 bc;exact⟨_,_,_,mm,ae,fun _=>rfl,fun h=>absurd h V⟩
def NU(a b c n:Nat)(W:Y):Prop:=W.cell? (G a 0)=some (Q9 c)/\W.cell? (G b 0)=some (J (n:Int))
theorem VI(Z:Nat->Prop)(c B0:Nat)(vN vS vU:V9)(Bk:Nat->Nat)(A:Nat->Ad)(s:AV)(n g d f i:Nat)(w:Y)(j:AZ Z w c B0 vN (S9 g s.nt d) vS vU Bk A s)(hb:w.heap[f]?=some (.cells #[Q9 c] 121 (0,0)))(b:w.heap[i]?=some (.cells #[J (n:Int)] 3 (0,0)))(hn:n<=s.nt)(h1:s.nt<=200):
  C9 202 #[Q9 f,Q9 i] w fun e w'=>(∃u,e=.returned u)/\AZ Z w' c B0 vN (S9 g n d) vS vU Bk A {s with nt:=n}/\BG (Aq B0 c vN (S9 g s.nt d) vS w) w (Aq B0 c vN (S9 g n d) vS w') w':=by
 have B:=j.lt;obtain⟨c0,c1,c2,c3,cf⟩:=j.cells;obtain⟨r,v⟩:=j.iX rfl hn;have l:s.nt<=d:=by
  obtain⟨_,⟨m,_⟩|⟨g',cap,cur,m,_,_,h2,_⟩⟩:=j.t
  ·cases m
  ·cases m;exact h2
 have o:f≠c:=fun e=>by rw[e,j.BR]at hb;cases hb
 have p:i≠c:=fun e=>by rw[e,j.BR]at b;cases b
 have lb:=Aj hb;have D:=Aj b;have k:NU f i c n w.drew:=⟨by show w.cell? _=_;simp[World.cell?,hb],by show w.cell? _=_;simp[World.cell?,b]⟩;have q:NU f i c n (w.setCell (G c 1) (S9 g n d)).drew:=⟨(As (a:=(G f 0)) (At _ _ _ _ (by exact o))).trans k.1,(As (a:=(G i 0)) (At _ _ _ _ (by exact p))).trans k.2⟩;have xf:=cf 1;have C:n<=d:=FZ hn l;have x:=O (And.intro r.drew v.Qf);clear j r v hb b c0 c2 c3 cf
 go_enter func202,ntmps202
 go_wp2_with fail
 refine H9 (NU f i c n) ?_;refine tz 0 (h:=tz 1 (h:=tz 2 (h:=tz 3 (h:=tz 4 (h:=tz 6 (h:=?_))))));refine ry 5 (fun K hK=>?_);go_simp;refine hK.out _ _ k (fun _=>?_);clear hK K;refine tz 7 (h:=tz 8 (h:=tz 9 (h:=tz 10 (h:=?_))));refine ry 11 (fun K hK=>?_);go_simp;refine hK.out _ _ q (fun _=>?_);clear hK K;refine FM ?_;go_wp2_with fail
 go_end0;exact⟨⟨_,rfl⟩,x.1,x.2⟩
theorem ZY(Z:Nat->Prop)(c B0:Nat)(vN vT vS vU:V9)(Bk:Nat->Nat)(A:Nat->Ad)(s:AV)(n f cu p q:Nat)(w:Y)(j:AZ Z w c B0 vN vT vS vU Bk A s)(B:Jr 202 w c vU n f cu p q)(hn:n<=s.nt)(C:0<s.nt)(h1:s.nt<=200):
  C9 115 #[Q9 c] w fun e w'=>(∃u,e=.returned u)/\∃a b,AZ Z w' c B0 vN a vS b Bk A {s with nt:=n}/\BG (Aq B0 c vN vT vS w) w (Aq B0 c vN a vS w') w':=by
 obtain⟨D,hu,hb,k⟩:=B;subst D;obtain⟨g,d,r,E,F,t,v⟩:=j.FI C;subst r;have H:=j.lt;obtain⟨c0,c1,c2,c3,cf⟩:=j.cells;have u0:w.cell? (G f 0)=some (.func (.func 202) #[] #[Q9 p,Q9 q]):=by rw[I9 hu 0 (by omega)];rfl
 have L:f<w.heap.size:=(hu.lt f rfl).2;have I:=O j;have x:=O (And.intro hb k);clear j hb k hu t v c0 c2
 go_enter func115,ntmps115
 go_wp2;go_loopw [2] (fun i wr=>(i=J 0/\wr=w)\/(i=J (-1)/\∃a b,AZ Z wr c B0 vN a vS b Bk A {s with nt:=n}/\BG (Aq B0 c vN (S9 g s.nt d) vS w) w (Aq B0 c vN a vS wr) wr)) (fun i _=>(intOf i+1).toNat)
 case atStart=>exact .inl ⟨rfl,rfl⟩
 case round=>
  rcases hrel with⟨rfl,rfl⟩|⟨rfl,a,b,m1,d1⟩
  ·have l:Hid (∀w1,AZ Z w1 c B0 vN (S9 g n d) vS (S9 f 1 cu) Bk A {s with nt:=n}/\BG (Aq B0 c vN (S9 g s.nt d) vS wr) wr (Aq B0 c vN (S9 g n d) vS w1) w1->∃a b,AZ Z w1 c B0 vN a vS b Bk A {s with nt:=n}/\BG (Aq B0 c vN (S9 g s.nt d) vS wr) wr (Aq B0 c vN a vS w1) w1):=O (fun w1 h=>⟨_,_,h⟩);go_wp2_with fail
   refine(VI Z c B0 vN vS _ Bk A s n g d p q wr I x.1 x.2 hn h1).mono ?_;rintro e w1 ⟨⟨uu,rfl⟩,m⟩;have K:=O (l w1 m);clear m;go_wp2;go_roundw
   case rel=>exact .inr ⟨rfl,K⟩
   case measure=>simp[intOf]
  ·have o:=O (And.intro m1 d1);clear m1 d1;go_wp2;go_end0;exact⟨⟨_,rfl⟩,a,b,o.1,o.2⟩
theorem VH(Z:Nat->Prop)(c B0:Nat)(vN vT vU:V9)(Bk:Nat->Nat)(A:Nat->Ad)(s:AV)(n g d f i:Nat)(w:Y)(j:AZ Z w c B0 vN vT (S9 g s.ns d) vU Bk A s)(hb:w.heap[f]?=some (.cells #[Q9 c] 121 (0,0)))(b:w.heap[i]?=some (.cells #[J (n:Int)] 3 (0,0)))(hn:n<=s.ns)(h1:s.ns<=200):
  C9 205 #[Q9 f,Q9 i] w fun e w'=>(∃u,e=.returned u)/\AZ Z w' c B0 vN vT (S9 g n d) vU Bk A {s with ns:=n}/\BG (Aq B0 c vN vT (S9 g s.ns d) w) w (Aq B0 c vN vT (S9 g n d) w') w':=by
 have x:=j.lt;obtain⟨c0,c2,c1,c3,cf⟩:=j.cells;obtain⟨r,t⟩:=j.iW rfl hn;have l:s.ns<=d:=by
  obtain⟨_,⟨m,_⟩|⟨g',cap,cur,m,_,_,h2,_⟩⟩:=j.si
  ·cases m
  ·cases m;exact h2
 have o:f≠c:=fun e=>by rw[e,j.BR]at hb;cases hb
 have p:i≠c:=fun e=>by rw[e,j.BR]at b;cases b
 have lb:=Aj hb;have C:=Aj b;have k:NU f i c n w.drew:=⟨by show w.cell? _=_;simp[World.cell?,hb],by show w.cell? _=_;simp[World.cell?,b]⟩;have q:NU f i c n (w.setCell (G c 2) (S9 g n d)).drew:=⟨(As (a:=(G f 0)) (At _ _ _ _ (by exact o))).trans k.1,(As (a:=(G i 0)) (At _ _ _ _ (by exact p))).trans k.2⟩;have xf:=cf 2;have B:n<=d:=FZ hn l;have v:=O (And.intro r.drew t.Qf);clear j r t hb b c0 c2 c3 cf
 go_enter func205,ntmps205
 go_wp2_with fail
 refine H9 (NU f i c n) ?_;refine tz 0 (h:=tz 1 (h:=tz 2 (h:=tz 3 (h:=tz 5 (h:=?_)))));refine ry 4 (fun K hK=>?_);go_simp;refine hK.out _ _ k (fun _=>?_);clear hK K;refine tz 6 (h:=tz 7 (h:=tz 8 (h:=?_)));refine ry 9 (fun K hK=>?_);go_simp;refine hK.out _ _ q (fun _=>?_);clear hK K;refine FM ?_;go_wp2_with fail
 go_end0;exact⟨⟨_,rfl⟩,v.1,v.2⟩
theorem ZX(Z:Nat->Prop)(c B0:Nat)(vN vT vS vU:V9)(Bk:Nat->Nat)(A:Nat->Ad)(s:AV)(n f cu p q:Nat)(w:Y)(j:AZ Z w c B0 vN vT vS vU Bk A s)(C:Jr 205 w c vU n f cu p q)(hn:n<=s.ns)(D:0<s.ns)(h1:s.ns<=200):
  C9 115 #[Q9 c] w fun e w'=>(∃u,e=.returned u)/\∃a b,AZ Z w' c B0 vN vT a b Bk A {s with ns:=n}/\BG (Aq B0 c vN vT vS w) w (Aq B0 c vN vT a w') w':=by
 obtain⟨E,hu,hb,k⟩:=C;subst E;obtain⟨g,d,r,F,H,t,v⟩:=j.M6 D;subst r;have I:=j.lt;obtain⟨c0,c2,c1,c3,cf⟩:=j.cells;have u0:w.cell? (G f 0)=some (.func (.func 205) #[] #[Q9 p,Q9 q]):=by rw[I9 hu 0 (by omega)];rfl
 have M:f<w.heap.size:=(hu.lt f rfl).2;have K:=O j;have B:=O (And.intro hb k);clear j hb k hu t v c0 c2
 go_enter func115,ntmps115
 go_wp2;go_loopw [2] (fun i wr=>(i=J 0/\wr=w)\/(i=J (-1)/\∃a b,AZ Z wr c B0 vN vT a b Bk A {s with ns:=n}/\BG (Aq B0 c vN vT (S9 g s.ns d) w) w (Aq B0 c vN vT a wr) wr)) (fun i _=>(intOf i+1).toNat)
 case atStart=>exact .inl ⟨rfl,rfl⟩
 case round=>
  rcases hrel with⟨rfl,rfl⟩|⟨rfl,x,b,m1,d1⟩
  ·have l:Hid (∀w1,AZ Z w1 c B0 vN vT (S9 g n d) (S9 f 1 cu) Bk A {s with ns:=n}/\BG (Aq B0 c vN vT (S9 g s.ns d) wr) wr (Aq B0 c vN vT (S9 g n d) w1) w1->∃a b,AZ Z w1 c B0 vN vT a b Bk A {s with ns:=n}/\BG (Aq B0 c vN vT (S9 g s.ns d) wr) wr (Aq B0 c vN vT a w1) w1):=O (fun w1 h=>⟨_,_,h⟩);go_wp2_with fail
   refine(VH Z c B0 vN vT _ Bk A s n g d p q wr K B.1 B.2 hn h1).mono ?_;rintro e w1 ⟨⟨uu,rfl⟩,m⟩;have L:=O (l w1 m);clear m;go_wp2;go_roundw
   case rel=>exact .inr ⟨rfl,L⟩
   case measure=>simp[intOf]
  ·have o:=O (And.intro m1 d1);clear m1 d1;go_wp2;go_end0;exact⟨⟨_,rfl⟩,x,b,o.1,o.2⟩
def V0(a b d c t:Nat)(e vT:V9)(W:Y):Prop:=W.cell? (G b 0)=some (Q9 c)/\W.cell? (G d 0)=some (J (t:Int))/\W.cell? (G a 0)=some e/\W.cell? (G c 1)=some vT
theorem Rb{α:Type}(f:Nat->α)(i:Nat)(a:α):AM (AM f i a) i (f i)=f:=by
 funext j
 unfold AM;by_cases h:j=i
 ·subst h;simp
 ·simp[h]
theorem VG(Z:Nat->Prop)(c B0:Nat)(vN vS vU:V9)(Bk:Nat->Nat)(A:Nat->Ad)(s:AV)(t:Nat)(a':Ad)(x':Tb)(g i j k l:Nat)(w:Y)(m:AZ Z w c B0 vN (S9 g s.nt i) vS vU Bk (AM A t a') (Cg s t x'))(hk:w.heap[j]?=some (.cells #[AF Bk (A t) (s.T t)] 162 (0,0)))(r:j≠g)(hb:w.heap[k]?=some (.cells #[Q9 c] 121 (0,0)))(d:w.heap[l]?=some (.cells #[J (t:Int)] 3 (0,0)))(C:t<s.nt)(h1:s.nt<=200)(D:Rd (OZ Z B0 c vN (S9 g s.nt i) vS w) w (A t) (s.T t)):
  C9 240 #[Q9 j,Q9 k,Q9 l] w fun e w'=>(∃u,e=.returned u)/\AZ Z w' c B0 vN (S9 g s.nt i) vS vU Bk A s/\BG (Aq B0 c vN (S9 g s.nt i) vS w) w (Aq B0 c vN (S9 g s.nt i) vS w') w':=by
 have I:=m.lt;obtain⟨c0,c1,c2,c3,cf⟩:=m.cells;obtain⟨p,v⟩:=m.Jm (t:=t) rfl C D;have E:AM (AM A t a') t (A t)=A:=Rb A t a';have F:Cg (Cg s t x') t (s.T t)=s:=by
  show{s with T:=AM (AM s.T t x') t (s.T t)}=s;rw[Rb]
 rw[E,F]at p;have b:=m.t;have L:g<w.heap.size:=(b.lt g rfl).2;have n:∃u,w.cell? (G g t)=some u:=⟨_,by rw[I9 b t (by show t<s.nt*1;omega),Je (by exact C)]⟩;have M:w.frozen? (G g t)=false:=by obtain⟨cur,hb,_⟩:=A3 b rfl;simp[World.frozen?,hb]
 obtain⟨gt,n⟩:=n;obtain⟨ty,q,o⟩:=Kk Bk (A t) (s.T t);rw[o]at p v hk;have x:c≠g:=fun e=>m.BS m.t (by decide) (by rw[e];rfl)
 have nb:k≠g:=fun e=>by obtain⟨cur,hc,_⟩:=A3 b rfl;rw[e,hc]at hb;cases hb
 have P:l≠g:=fun e=>by obtain⟨cur,hc,_⟩:=A3 b rfl;rw[e,hc]at d;cases d
 have lb:=Aj hb;have Q:=Aj d;have R:=Aj hk;have f:V0 j k l c t (.iface ty q) (S9 g s.nt i) w.drew:=⟨by show w.cell? _=_;simp[World.cell?,hb],by show w.cell? _=_;simp[World.cell?,d],by show w.cell? _=_;simp[World.cell?,hk],c1⟩;have B:V0 j k l c t (.iface ty q) (S9 g s.nt i) (w.setCell (G g t) (.iface ty q)).drew:=⟨(As (a:=(G k 0)) (At _ _ _ _ (by exact nb))).trans f.1,(As (a:=(G l 0)) (At _ _ _ _ (by exact P))).trans f.2.1,(As (a:=(G j 0)) (At _ _ _ _ (by exact r))).trans f.2.2.1,(As (a:=(G c 1)) (At _ _ _ _ (by exact x))).trans f.2.2.2⟩;have H:=O (And.intro p.drew v.Qf);clear m p v hb d hk c0 c1 c2 c3 cf D b o E F
 go_enter func240,ntmps240
 go_wp2_with fail
 refine H9 (V0 j k l c t (.iface ty q) (S9 g s.nt i)) ?_;refine tz 0 (h:=tz 1 (h:=tz 2 (h:=tz 3 (h:=tz 4 (h:=tz 5 (h:=tz 6 (h:=tz 7 (h:=?_))))))));refine ry 8 (fun K hK=>?_);go_simp;refine hK.out _ _ B (fun _=>?_);clear hK K;refine FM ?_;go_wp2_with fail
 go_end0;exact⟨⟨_,rfl⟩,H.1,H.2⟩
theorem ZW(Z:Nat->Prop)(c B0:Nat)(vN vT vS vU:V9)(Bk:Nat->Nat)(A:Nat->Ad)(s:AV)(t:Nat)(a':Ad)(x':Tb)(j cu k q r:Nat)(w:Y)(l:AZ Z w c B0 vN vT vS vU Bk (AM A t a') (Cg s t x'))(I:Jq w c vU t (AF Bk (A t) (s.T t)) j cu k q r)(v:vT.ownBlock≠some k)(F:t<s.nt)(h1:s.nt<=200)(H:Rd (OZ Z B0 c vN vT vS w) w (A t) (s.T t)):
  C9 115 #[Q9 c] w fun e w'=>(∃u,e=.returned u)/\∃a b,AZ Z w' c B0 vN a vS b Bk A s/\BG (Aq B0 c vN vT vS w) w (Aq B0 c vN a vS w') w':=by
 obtain⟨K,hu,hk,hb,m⟩:=I;subst K;obtain⟨g,d,f,L,M,x,B⟩:=l.FI F;have f:vT=S9 g s.nt d:=f;subst f;have C:k≠g:=fun e=>v (by rw[e];rfl)
 have P:=l.lt;obtain⟨c0,c1,c2,c3,cf⟩:=l.cells;have u0:w.cell? (G j 0)=some (.func (.func 240) #[] #[Q9 k,Q9 q,Q9 r]):=by rw[I9 hu 0 (by omega)];rfl
 have S:j<w.heap.size:=(hu.lt j rfl).2;have Q:=O l;have D:=O (And.intro hk (And.intro hb m));have E:=O H;clear l hk hb m hu x B c0 c2 H
 go_enter func115,ntmps115
 go_wp2;go_loopw [2] (fun i wr=>(i=J 0/\wr=w)\/(i=J (-1)/\∃a b,AZ Z wr c B0 vN a vS b Bk A s/\BG (Aq B0 c vN (S9 g s.nt d) vS w) w (Aq B0 c vN a vS wr) wr)) (fun i _=>(intOf i+1).toNat)
 case atStart=>exact .inl ⟨rfl,rfl⟩
 case round=>
  rcases hrel with⟨rfl,rfl⟩|⟨rfl,a,b,m1,d1⟩
  ·have n:Hid (∀w1,AZ Z w1 c B0 vN (S9 g s.nt d) vS (S9 j 1 cu) Bk A s/\BG (Aq B0 c vN (S9 g s.nt d) vS wr) wr (Aq B0 c vN (S9 g s.nt d) vS w1) w1->∃a b,AZ Z w1 c B0 vN a vS b Bk A s/\BG (Aq B0 c vN (S9 g s.nt d) vS wr) wr (Aq B0 c vN a vS w1) w1):=O (fun w1 h=>⟨_,_,h⟩);go_wp2_with fail
   refine(VG Z c B0 vN vS _ Bk A s t a' x' g d k q r wr Q D.1 C D.2.1 D.2.2 F h1 E).mono ?_;rintro e w1 ⟨⟨uu,rfl⟩,o⟩;have R:=O (n w1 o);clear o;go_wp2;go_roundw
   case rel=>exact .inr ⟨rfl,R⟩
   case measure=>simp[intOf]
  ·have p:=O (And.intro m1 d1);clear m1 d1;go_wp2;go_end0;exact⟨⟨_,rfl⟩,a,b,p.1,p.2⟩
def G1(a ab c:Nat)(k:ByteArray)(W:Y):Prop:=W.cell? (G a 0)=some (Q9 c)/\W.cell? (G ab 7)=some (.string k)
theorem G1.keep{b ab c:Nat}{k:ByteArray}{w w':Y}(h:G1 b ab c k w)(h1:w'.heap[b]?=w.heap[b]?)(h2:w'.heap[ab]?=w.heap[ab]?):G1 b ab c k w':=
 ⟨(As (a:=(G b 0)) h1).trans h.1,(As (a:=(G ab 7)) h2).trans h.2⟩
theorem PY(Z:Nat->Prop)(c B0:Nat)(vN vT vS:V9)(Bk:Nat->Nat)(A:Nat->Ad)(s:AV)(a:Ac)(w:Y)(T:AZ Z w c B0 vN vT vS (N9) Bk A s)(bf:s.ns<=50):
  C9 147 #[Q9 c,IC a] w fun e w'=>(∃U V,AZ Z w' c B0 vN vT U V Bk A {s with ns:=s.ns+1,S:=AM s.S s.ns ⟨a.k.str,-1,0,0,0⟩}/\BG (Aq B0 c vN vT vS w) w (Aq B0 c vN vT U w') w'/\
   (s.ns≠50->e=.returned (.tuple #[DS (B5 s.ns),Bp 0]))/\(s.ns=50->e=.returned (.tuple #[DS (AO 0),Bp 5])/\∃u cu bw bn,Jr 205 w' c V s.ns u cu bw bn)):=by
 obtain⟨sa,sc,rfl⟩:=Ao T.si;obtain⟨i0,aw,ax,ay,az⟩:=Tn MB;obtain⟨W,x⟩:∃W,W=(((w.alloc (.cells #[Q9 c] 121)).alloc (.cells (Bn a) 51)).alloc (.cells Ns 45)).alloc (.cells #[J (s.ns:Int)] 3):=⟨_,rfl⟩;have X:B9 w W:=by rw[x];exact(((n9).alloc (by simp) _).alloc (by simp;omega) _).alloc (by simp;omega) _
 have ag:W.heap.size=w.heap.size+1+1+1+1:=by rw[x];simp
 have b0:W.heap[w.heap.size]?=some (.cells #[Q9 c] 121 (0,0)):=by
  rw[x];iterate 3 (refine(Fs _ _ _ (by simp;try omega)).trans ?_)
  exact BE _ _
 have b1:OW W (w.heap.size+1) a:=by
  rw[x];iterate 2 (refine(Fs _ _ _ (by simp;try omega)).trans ?_)
  have h1:=BE (w.alloc (.cells #[Q9 c] 121)) (.cells (Bn a) 51);simpa using h1
 have b2:FK W (w.heap.size+1+1):=by
  rw[x];refine(Fs _ _ _ (by simp)).trans ?_;have h1:=BE ((w.alloc (.cells #[Q9 c] 121)).alloc (.cells (Bn a) 51)) (.cells Ns 45);simpa using h1
 have b3:W.heap[w.heap.size+1+1+1]?=some (.cells #[J (s.ns:Int)] 3 (0,0)):=by
  rw[x];have h1:=BE (((w.alloc (.cells #[Q9 c] 121)).alloc (.cells (Bn a) 51)).alloc (.cells Ns 45)) (.cells #[J (s.ns:Int)] 3);simpa using h1
 obtain⟨hE,ah⟩:=T.enter X;have bg:=T.lt;have j:=T.base;obtain⟨c0,c1,c2,c3,cf⟩:=T.cells;have HE:=O hE;have ai:=O ah;have aj:=O (And.intro b0 (And.intro b1 (And.intro b2 b3)));have HZ:=O ag;have bh:c<w.heap.size+1:=by omega
 have bj:c<w.heap.size+1+1:=by omega
 have bk:c<w.heap.size+1+1+1:=by omega
 clear T hE ah b0 b1 b2 b3 c0 c1 c3 cf X ag
 go_enter func147,ntmps147
 go_wp2_with fail
 rw[<-x];clear x c2;refine(Ga _ c B0 _ _ _ Bk A s 205 #[Q9 w.heap.size,Q9 (w.heap.size+1+1+1)] W HE).mono ?_;rintro e w1 ⟨⟨uu,rfl⟩,u,cu,bm,F,i,H,l⟩;have zW:=z HZ;have bb:=H.size;obtain⟨b0,b1,b2,b3⟩:=z aj;have b0:=(l _ (by omega) (by omega)).trans b0;have b1:OW w1 (w.heap.size+1) a:=(l _ (by omega) (by omega)).trans b1;have b2:FK w1 (w.heap.size+1+1):=(l _ (by omega) (by omega)).trans b2;have b3:=(l _ (by omega) (by omega)).trans b3;obtain⟨c0,c1,c2,c3,cf⟩:=i.cells;have g:B9 w1 ((w1.alloc (.cells #[.string a.k.str,J (-1),J 0,J 0,J 0] 103)).drew):=(n9).drew;have I:G1 w.heap.size (w.heap.size+1) c a.k.str w1.drew:=⟨by show w1.cell? _=_;simp[World.cell?,b0],by show w1.cell? _=_;exact b1.all.2.2.2.2.2.2.2.1⟩;have m:G1 w.heap.size (w.heap.size+1) c a.k.str (w1.alloc (.cells #[.string a.k.str,J (-1),J 0,J 0,J 0] 103)).drew:=G1.keep (w:=w1) I (g.block w.heap.size (by omega)) (g.block (w.heap.size+1) (by omega));have xX:(w1.alloc (.cells #[.string a.k.str,J (-1),J 0,J 0,J 0] 103)).drew.cell? (G c 2)=some (.slice sa s.ns sc):=(g.cell (p:=(G c 2)) (by show c<_;omega)).trans c2;have xY:(w1.alloc (.cells #[.string a.k.str,J (-1),J 0,J 0,J 0] 103)).cell? (G c 2)=some (.slice sa s.ns sc):=xX;have aM:=O i.si;have bp:B0<=w1.heap.size:=i.base;have HF:Hid (∀g3 b w3,w3.ownsRow B0 103 5 (S9 g3 (s.ns+1) b) (s.ns+1) (Kz s.S s.ns++M8 ⟨a.k.str,-1,0,0,0⟩)->(w1.alloc (.cells #[.string a.k.str,J (-1),J 0,J 0,J 0] 103)).drew.grownBy w3 (Value.ownBlock (.slice sa s.ns sc))->(Value.ownBlock (.slice sa s.ns sc)=some g3\/g3=(w1.alloc (.cells #[.string a.k.str,J (-1),J 0,J 0,J 0] 103)).drew.heap.size)->
   G1 w.heap.size (w.heap.size+1) c a.k.str w3/\G1 w.heap.size (w.heap.size+1) c a.k.str (w3.setCell (G c 2) (S9 g3 (s.ns+1) b))/\w3.cell? (G c 2)=some (.slice sa s.ns sc)/\w3.frozen? (G c 2)=false/\c<w3.heap.size/\
   (w3.setCell (G c 2) (S9 g3 (s.ns+1) b)).heap[w.heap.size]?=some (.cells #[Q9 c] 121 (0,0))/\FK (w3.setCell (G c 2) (S9 g3 (s.ns+1) b)) (w.heap.size+1+1)/\(w3.setCell (G c 2) (S9 g3 (s.ns+1) b)).heap[w.heap.size+1+1+1]?=some (.cells #[J (s.ns:Int)] 3 (0,0))/\(w3.setCell (G c 2) (S9 g3 (s.ns+1) b)).heap[u]?=w1.heap[u]?/\
   AZ (ZB Z w.heap.size W.heap.size) (w3.setCell (G c 2) (S9 g3 (s.ns+1) b)) c B0 vN vT (S9 g3 (s.ns+1) b) (S9 u 1 cu) Bk A {s with ns:=s.ns+1,S:=AM s.S s.ns ⟨a.k.str,-1,0,0,0⟩}/\BG (Aq B0 c vN vT (.slice sa s.ns sc) w) w (Aq B0 c vN vT (S9 g3 (s.ns+1) b) (w3.setCell (G c 2) (S9 g3 (s.ns+1) b))) (w3.setCell (G c 2) (S9 g3 (s.ns+1) b))):=O (by
  intro g3 b w3 h1 h2 h3;obtain⟨k1,k2,k3⟩:=i.XK g h2 h1 (h3.imp id (fun e=>by rw[e];exact g.size));have f:∀(q:Nat) (cs:Array Value) (ty:TypeId),w1.heap[q]?=some (Obj.cells cs ty (0,0))->ty≠103->w3.heap[q]?=w1.heap[q]?:=fun q cs ty hq ht=>by
   have ak:=Aj hq;refine(h2.block q (Be ak g.size) (fun e=>?_)).trans (g.block q ak);obtain⟨cur,hb,_⟩:=A3 i.si e.symm;rw[hb]at hq;cases hq;exact ht rfl
  have q0:=f _ _ _ b0 (by decide);have q1:=f _ _ _ b1 (by decide);have q2:=f _ _ _ b2 (by decide);have q3:=f _ _ _ b3 (by decide);obtain⟨bc,a6,_⟩:=A3 F rfl;have qu:=f u _ _ a6 (by decide);have qc:=f c _ _ i.BR (by decide);have n:G1 w.heap.size (w.heap.size+1) c a.k.str w3:=G1.keep (w:=w1) I q0 q1;have st:∀q,q≠c->(w3.setCell (G c 2) (S9 g3 (s.ns+1) b)).heap[q]?=w3.heap[q]?:=fun q hq=>At _ _ _ _ (by exact hq)
  refine⟨n,G1.keep n (st w.heap.size (by omega)) (st (w.heap.size+1) (by omega)),(As (a:=(G c 2)) qc).trans c2,(OK (a:=(G c 2)) qc).trans (cf 2),Aj k1,(st _ (by omega)).trans (q0.trans b0),(st _ (by omega)).trans (q2.trans b2),(st _ (by omega)).trans (q3.trans b3),(st _ (by omega)).trans qu,k2,(ai.trans H).trans k3⟩)
 have a7:=O F;have bq:Hid (w1.heap[u]?=w1.heap[u]?):=O rfl;clear i H l F b0 b1 b2 b3 c0 c1 c3 cf HE ai aj g;go_wp2_with fail
 refine H9 (G1 w.heap.size (w.heap.size+1) c a.k.str) ?_;refine tz 0 (h:=tz 1 (h:=tz 2 (h:=tz 3 (h:=tz 5 (h:=tz 6 (h:=tz 7 (h:=tz 8 (h:=?_))))))));refine AaG (rs:=[4,9]) (by kernel_rfl) (by simp) ?_;refine RC rfl (fun K hK=>?armA) (RC rfl (fun K hK=>?armB) AaI)
 case' armA=>
  go_simp;refine hK.out _ _ I (fun _=>?_);clear hK K;refine ry 9 (fun K hK=>?_);go_simp;refine hK.out _ _ m (fun a8=>?_);clear hK K
 case' armB=>
  go_simp;refine hK.out _ _ m (fun a8=>?_);clear hK K;refine ry 4 (fun K hK=>?_);go_simp;refine hK.out _ _ m (fun _=>?_);clear hK K
 all_goals
  refine ry 10 (fun K hK=>?_);refine Aap _ rfl (.tmp 19) (.tmp 24) 40 rfl B0 103 i0 (.agg #[E9,J 0,J 0,J 0,J 0]) 5 48 underlying40 aw ax ay az rfl (by decide) (.slice sa s.ns sc) s.ns (Kz s.S s.ns) (by simp[Act.eval]) (World.ownsRow.drew (IH aM _)) (y w1 0) 1 1 (M8 ⟨a.k.str,-1,0,0,0⟩) (by simp[Act.eval]) rfl (GP (w:=(w1.alloc (.cells #[.string a.k.str,J (-1),J 0,J 0,J 0] 103)).drew) (BE w1 _)) (by simp[M8,Value.oneCell']) (by decide) (by unfold maxLen;omega) (by omega) (by simp;omega) _ rfl ?_;intro g3 b w3 o B r bd;obtain⟨n,ao,x3,f3,br,d0,d2,d3,L,m4,C⟩:=z HF g3 b w3 o B r;have HX:=O (And.intro d0 (And.intro d2 (And.intro d3 (And.intro L (And.intro m4 C)))));clear o B r d0 d2 d3 L m4 C;refine hK.out _ _ n (fun ad=>?_);clear hK K;refine tz 11 (h:=tz 12 (h:=?_));refine ry 13 (fun K hK=>?_);go_simp;refine hK.out _ _ ao (fun _=>?_);clear hK K;refine FM ?_;clear n ao ad x3 f3;obtain⟨w4,aq⟩:∃w4,w4=w3.setCell (G c 2) (S9 g3 (s.ns+1) b):=⟨_,rfl⟩;rw[<-aq]at HX ⊢;clear aq;obtain⟨d0,d2,d3,L,m4,C⟩:=z HX;obtain⟨_,_,y1,_,_⟩:=m4.cells;have bt:=m4.lt;have l0:=Aj d0;have l2:=d2.lt;have l3:=Aj d3;have y0:w4.cell? (y w 0)=some (Q9 c):=by simp[World.cell?,d0]
  have y3:w4.cell? (G (w.heap.size+1+1+1) 0)=some (J (s.ns:Int)):=by simp[World.cell?,d3]
  obtain⟨w5,D,ar⟩:=CC d2 (AO 0);obtain⟨w6,E,au⟩:=CC d2 (B5 s.ns);have ae:=O D;have af:=O E;have t:=O ar;have av:=O au;clear d0 d2 d3 L m4 C D E ar au;by_cases hf:s.ns=50
  ·have d:decide ((50:Int)<(s.ns:Int)+1)=true:=by simp;omega
   have M:=O hf;clear hf;go_wp2_with (refine Ak rfl rfl _ ae ?_)
   obtain⟨r0,r1,r2,r3,r4,r5,r6,r7,r8,r9,P,Q⟩:=An.read t.BR;refine DO (v:=.tuple #[DS (AO 0),Bp 5]) (by simp[results,results147,go_sem,r0,r1,r2,r3,r4,r5,r6,r7,r8,r9,P,Q,Bp]) rfl ?_;obtain⟨d0,d2,d3,L,m4,C⟩:=z HX;obtain⟨mm,R⟩:=m4.Jd C j (by omega) (by omega) d2 t;refine⟨_,_,mm,R,fun h=>absurd M h,fun _=>⟨rfl,u,cu,w.heap.size,w.heap.size+1+1+1,rfl,MR (Ai a7 (fun q e=>?_)) (P9 _),?_,?_⟩⟩
   ·cases e;exact(t.other _ (by show u≠w.heap.size+1+1;omega)).trans L
   ·exact(t.other _ (by omega)).trans d0
   ·exact(t.other _ (by omega)).trans d3
  ·have d:decide ((50:Int)<(s.ns:Int)+1)=false:=by simp;omega
   have M:=O hf;clear hf;go_wp2_with (refine Ak rfl rfl _ af ?_)
   obtain⟨r0,r1,r2,r3,r4,r5,r6,r7,r8,r9,P,Q⟩:=An.read av.BR;refine DO (v:=.tuple #[DS (B5 s.ns),Bp 0]) (by simp[results,results147,go_sem,r0,r1,r2,r3,r4,r5,r6,r7,r8,r9,P,Q,Bp]) rfl ?_;obtain⟨d0,d2,d3,L,m4,C⟩:=z HX;obtain⟨mm,R⟩:=m4.Jd C j (by omega) (by omega) d2 av;exact⟨_,_,mm,R,fun _=>rfl,fun h=>absurd h M⟩
structure L0 (s s':AV):Prop where
 nf:s.nf=s'.nf
 F:s.F=s'.F
 nt:s.nt=s'.nt
 ns:s.ns=s'.ns
 T:∀i,i<s.nt->s.T i=s'.T i
 S:∀i,i<s.ns->s.S i=s'.S i
theorem L0.refl(s:AV):L0 s s:=⟨rfl,rfl,rfl,rfl,fun _ _=>rfl,fun _ _=>rfl⟩
section
variable {Z:Nat->Prop} {w w':Y} {c B0:Nat} {vN vT vS vU:V9} {Bk:Nat->Nat} {A:Nat->Ad} {s s':AV}
theorem AZ.same(h:AZ Z w c B0 vN vT vS vU Bk A s)(e:L0 s s'):AZ Z w c B0 vN vT vS vU Bk A s':=by
 obtain⟨nf,F,nt,T,ns,S⟩:=s;obtain⟨f,F',j,T',k,S'⟩:=s';obtain⟨e1,e2,e3,b,a,d⟩:=e;simp only at e1 e2 e3 b a d;subst e1 e2 e3 b;refine⟨h.BR,h.ge,h.n,h.nd,?_,?_,h.u,h.z,fun i hi=>?_⟩
 ·have h1:=h.t;show World.ownsRow _ _ _ _ _ _ (kL Bk A ⟨nf,F,nt,T',ns,S'⟩ nt);rw[MD (Bk':=Bk) (A':=A) (s':=⟨nf,F,nt,T,ns,S⟩) (fun i hi=>by show AF Bk (A i) (T' i)=AF Bk (A i) (T i);rw[a i hi])];exact h1
 ·have h1:=h.si;show World.ownsRow _ _ _ _ _ _ (Kz S' ns);rw[Vu (g:=S) (fun i hi=>(d i hi).symm)];exact h1
 ·have h1:=h.rd i hi;show Rd _ _ (A i) (T' i);rw[<-a i hi];exact h1
theorem BG.oz{b d f:V9}(a:BG (Aq B0 c vN vT vS w) w (Aq B0 c b d f w') w'):BG (OZ Z B0 c vN vT vS w) w (OZ Z B0 c b d f w') w':=
 ⟨a.os,a.tape,a.output,a.size,fun k h1 h2=>a.block k h1 (fun e=>h2 (.inl e)),fun k e=>e.elim (fun e=>(a.own k e).imp .inl id) (fun e=>.inl (.inr e))⟩
def Nu(Z:Nat->Prop)(w:Y)(c B0:Nat)(vN vT vS vU:V9)(a:AV):Prop:=
 ∃Bk A s1,AZ Z w c B0 vN vT vS vU Bk A s1/\
  ((vU=N9/\L0 s1 a)\/
   (∃n b cu d e,Jr 202 w c vU n b cu d e/\n<=s1.nt/\0<s1.nt/\s1.nt<=200/\L0 {s1 with nt:=n} a)\/
   (∃n b cu d e,Jr 205 w c vU n b cu d e/\n<=s1.ns/\0<s1.ns/\s1.ns<=200/\L0 {s1 with ns:=n} a)\/
   (∃t f a' x' b cu g d e,A=AM f t a'/\s1=Cg a t x'/\Jq w c vU t (AF Bk (f t) (a.T t)) b cu g d e/\vT.ownBlock≠some g/\t<a.nt/\a.nt<=200/\Rd (OZ Z B0 c vN vT vS w) w (f t) (a.T t)))
theorem Nu.below{f:AV}(h:Nu Z w c B0 vN vT vS vU f)(hb:B9 w w'):Nu Z w' c B0 vN vT vS vU f/\BG (Aq B0 c vN vT vS w) w (Aq B0 c vN vT vS w') w':=by
 obtain⟨Bk,A,s1,g,hu⟩:=h;obtain⟨m1,d1⟩:=g.below hb;refine⟨⟨Bk,A,s1,m1,?_⟩,d1⟩;rcases hu with h|⟨n,a,cu,d,e,h,h2⟩|⟨n,a,cu,d,e,h,h2⟩|⟨t,i,a',x',a,cu,j,d,e,e1,e2,h,h3,h4,h5,l⟩
 ·exact .inl h
 ·exact .inr (.inl ⟨n,a,cu,d,e,h.keep (hb.block _ (h.u.lt a rfl).2) (hb.block _ (Aj h.b)) (hb.block _ (Aj h.n)),h2⟩)
 ·exact .inr (.inr (.inl ⟨n,a,cu,d,e,h.keep (hb.block _ (h.u.lt a rfl).2) (hb.block _ (Aj h.b)) (hb.block _ (Aj h.n)),h2⟩))
 ·exact .inr (.inr (.inr ⟨t,i,a',x',a,cu,j,d,e,e1,e2,h.keep (hb.block _ (h.u.lt a rfl).2) (hb.block _ (Aj h.k)) (hb.block _ (Aj h.b)) (hb.block _ (Aj h.n)),h3,h4,h5,l.step d1.oz⟩))
theorem Nu.Jd{w1 d:Y}{f g i l:V9}{v:AV}{rb B:Nat}{x:An}(h:Nu (ZB Z w.heap.size B) w1 c B0 f g i l v)(C:BG (Aq B0 c vN vT vS w) w (Aq B0 c f g i w1) w1)(m:B0<=w.heap.size)(j:w.heap.size<=rb)(hz:rb<B)(r:FK w1 rb)(a:Bt w1 d rb (EX x).toArray 45):
  Nu Z d c B0 f g i l v/\BG (Aq B0 c vN vT vS w) w (Aq B0 c f g i d) d:=by
 obtain⟨Bk,A,s1,s,hu⟩:=h;obtain⟨f1,f2⟩:=s.Jd C m j hz r a;have D:=(s.box (.inr ⟨j,hz⟩) (FZ m j) (s.Eo r (by decide) (by decide) (by decide) (by decide) (by decide)) ⟨a.os,a.tape,a.output,a.size⟩ a.other a.BR (by decide)).2;have kp:∀(b:Nat) (cs:Array Value) (ty:TypeId),w1.heap[b]?=some (.cells cs ty (0,0))->ty≠45->d.heap[b]?=w1.heap[b]?:=fun b cs ty hb E=>a.other b (fun e=>by
  rw[e,r]at hb;cases hb;exact E rfl)
 refine⟨⟨Bk,A,s1,f1,?_⟩,f2⟩;rcases hu with h|⟨n,o,cu,p,q,h,h2⟩|⟨n,o,cu,p,q,h,h2⟩|⟨t,F,a',x',o,cu,H,p,q,e1,e2,h,h3,h4,h5,I⟩
 ·exact .inl h
 ·obtain⟨cur,hc,_⟩:=A3 h.u rfl;exact .inr (.inl ⟨n,o,cu,p,q,h.keep (kp _ _ _ hc (by decide)) (kp _ _ _ h.b (by decide)) (kp _ _ _ h.n (by decide)),h2⟩)
 ·obtain⟨cur,hc,_⟩:=A3 h.u rfl;exact .inr (.inr (.inl ⟨n,o,cu,p,q,h.keep (kp _ _ _ hc (by decide)) (kp _ _ _ h.b (by decide)) (kp _ _ _ h.n (by decide)),h2⟩))
 ·obtain⟨cur,hc,_⟩:=A3 h.u rfl;refine .inr (.inr (.inr ⟨t,F,a',x',o,cu,H,p,q,e1,e2,h.keep (kp _ _ _ hc (by decide)) (kp _ _ _ h.k (by decide)) (kp _ _ _ h.b (by decide)) (kp _ _ _ h.n (by decide)),h3,h4,h5,fun w3 hs hk=>?_⟩));refine I w3 (by rw[<-a.size];exact hs) (fun k k1 k2=>(hk k (by rw[a.size];exact k1) (fun e=>k2 (e.imp (D k) .inl))).trans (a.other k (fun e=>k2 (.inr (.inr (by rw[e];exact⟨j,hz⟩))))))
end
theorem ZV(c:Nat)(vN vT vS:V9)(w:Y)(hb:w.heap[c]?=some (.cells #[vN,vT,vS,N9] 198 (0,0))):
  C9 115 #[Q9 c] w fun e w'=>(∃u,e=.returned u)/\w'=w:=by
 have c3:w.cell? (G c 3)=some (N9):=by simp[World.cell?,hb]
 have a:=Aj hb;clear hb
 go_enter func115,ntmps115
 go_wp2;go_loopw [2] (fun i wr=>i=J (-1)/\wr=w) (fun i _=>0)
 case atStart=>exact⟨rfl,rfl⟩
 case round=>
  obtain⟨rfl,rfl⟩:=hrel;go_wp2;go_end0;exact⟨⟨_,rfl⟩,rfl⟩
theorem VO{Z:Nat->Prop}{w:Y}{c B0:Nat}{vN vT vS vU:V9}{k:AV}(h:Nu Z w c B0 vN vT vS vU k):
  C9 115 #[Q9 c] w fun e w'=>(∃u,e=.returned u)/\∃a d b Bk' A',AZ Z w' c B0 vN a d b Bk' A' k/\BG (Aq B0 c vN vT vS w) w (Aq B0 c vN a d w') w':=by
 obtain⟨Bk,A,s1,f,hu⟩:=h;rcases hu with⟨rfl,h⟩|⟨n,g,cu,i,j,h,h2,h3,h4,h5⟩|⟨n,g,cu,i,j,h,h2,h3,h4,h5⟩|⟨t,l,a',x',g,cu,m,i,j,rfl,rfl,h,h3,h4,h5,o⟩
 ·refine(ZV c vN vT vS w f.BR).mono ?_;rintro e w' ⟨hu,rfl⟩;exact⟨hu,_,_,_,_,_,f.same h,BG.refl _ _⟩
 ·refine(ZY Z c B0 vN vT vS vU Bk A s1 n g cu i j w f h h2 h3 h4).mono ?_;rintro e w' ⟨hu,a,b,m1,d1⟩;exact⟨hu,_,_,_,_,_,m1.same h5,d1⟩
 ·refine(ZX Z c B0 vN vT vS vU Bk A s1 n g cu i j w f h h2 h3 h4).mono ?_;rintro e w' ⟨hu,d,b,m1,d1⟩;exact⟨hu,_,_,_,_,_,m1.same h5,d1⟩
 ·refine(ZW Z c B0 vN vT vS vU Bk l k t a' x' g cu m i j w f h h3 h4 h5 o).mono ?_;rintro e w' ⟨hu,a,b,m1,d1⟩;exact⟨hu,_,_,_,_,_,m1,d1⟩
end
section
def S8(Z:Nat->Prop)(c B0:Nat)(vN vT vS:V9)(s:AV)(t:Nat)(k v:Vl)(w:Y)(e:Ending)(w':Y):Prop:=
 ∃a b d f,e=.returned (Bp (C2 s t k v))/\BG (Aq B0 c vN vT vS w) w (Aq B0 c a b d w') w'/\
  ((C2 s t k v=0/\∃Bk' A',AZ Z w' c B0 a b d f Bk' A' (BO s t k v))\/(C2 s t k v≠0/\Nu Z w' c B0 a b d f (BO s t k v)))
structure Z8 (w W:Y) (k v:Vl):Prop where
 k:W.heap[w.heap.size]?=some (.cells #[J k.kind,J k.num,F9 k.Ae,.string k.str,J k.ref] 43 (0,0))
 v:W.heap[w.heap.size+1]?=some (.cells #[J v.kind,J v.num,F9 v.Ae,.string v.str,J v.ref] 43 (0,0))
theorem Z8.below{w W W':Y}{k v:Vl}(h:Z8 w W k v)(hb:B9 W W'):Z8 w W' k v:=⟨(hb.block _ (Aj h.k)).trans h.k,(hb.block _ (Aj h.v)).trans h.v⟩
theorem Z8.cells{w W:Y}{k v:Vl}(h:Z8 w W k v):(W.cell? (y w 0)=some (J k.kind)/\W.cell? (y w 1)=some (J k.num)/\W.cell? (y w 2)=some (F9 k.Ae)/\W.cell? (y w 3)=some (.string k.str)/\W.cell? (y w 4)=some (J k.ref))/\(W.cell? (Y9 w 0)=some (J v.kind)/\W.cell? (Y9 w 1)=some (J v.num)/\W.cell? (Y9 w 2)=some (F9 v.Ae)/\W.cell? (Y9 w 3)=some (.string v.str)/\W.cell? (Y9 w 4)=some (J v.ref)):=by
 obtain⟨h1,h2⟩:=h;exact⟨⟨by simp[World.cell?,h1],by simp[World.cell?,h1],by simp[World.cell?,h1],by simp[World.cell?,h1],by simp[World.cell?,h1]⟩,⟨by simp[World.cell?,h2],by simp[World.cell?,h2],by simp[World.cell?,h2],by simp[World.cell?,h2],by simp[World.cell?,h2]⟩⟩
theorem jZ(w:Y)(k v:Vl):∃W,W=(w.alloc (.cells #[J k.kind,J k.num,F9 k.Ae,.string k.str,J k.ref] 43)).alloc (.cells #[J v.kind,J v.num,F9 v.Ae,.string v.str,J v.ref] 43)/\B9 w W/\Z8 w W k v/\W.heap.size=w.heap.size+1+1:=by
 refine⟨_,rfl,(n9).alloc (by simp) _,⟨(Fs _ _ _ (by simp)).trans (BE _ _),?_⟩,by simp⟩;have h1:=BE (w.alloc (.cells #[J k.kind,J k.num,F9 k.Ae,.string k.str,J k.ref] 43)) (.cells #[J v.kind,J v.num,F9 v.Ae,.string v.str,J v.ref] 43);simpa using h1
theorem Tv(v:Vl)(w:Y):(Instr.field 43 (V v.kind v.num v.Ae v.str v.ref) 0).run prog w=.ok (J v.kind) w:=by kernel_rfl
attribute [local go_sem] Tv
theorem Yv{s:AV}{t:Nat}{k v:Vl}(h:v.kind=0/\(CX s.F (s.T t) k).kind=0):C2 s t k v=0/\BO s t k v=s:=by
 have e:Ce s (s.T t) k v=.no:=C3 h;unfold C2 BO;rw[e];exact⟨rfl,rfl⟩
theorem Yu{s:AV}{t:Nat}{k v:Vl}(h:¬(v.kind=0/\(CX s.F (s.T t) k).kind=0))(hx:(s.T t).shape=-1):(El (s.T t).d k v=true->C2 s t k v=5/\BO s t k v=s)/\(El (s.T t).d k v=false->C2 s t k v=0/\BO s t k v=Cg s t (Dk (s.T t) (s.T t).d k v)):=by
 have e:Ce s (s.T t) k v=if El (s.T t).d k v=true then .full else .Nw:=by
  unfold Ce;rw[Cs h,Cs (by omega)]
 refine⟨fun hf=>?_,fun hf=>?_⟩
 ·rw[C3 hf]at e;unfold C2 BO;rw[e];exact⟨rfl,rfl⟩
 ·rw[Cs (by rw[hf];decide)]at e;unfold C2 BO;rw[e];exact⟨rfl,rfl⟩
section
variable {Z:Nat->Prop} {w w1 w2:Y} {c B0:Nat} {vN vT vS vU:V9} {Bk:Nat->Nat} {A:Nat->Ad} {s:AV} {t:Nat} {k v:Vl} {e:Ending}
theorem gU.un(j:AZ Z w c B0 vN vT vS vU Bk A s)(hb:B9 w w1)(f:¬(v.kind=0/\(CX s.F (s.T t) k).kind=0))(hx:(s.T t).shape=-1)(l:t<s.nt)(n:s.nt<=100)(h:gU Z c B0 vN vT vS Bk A s t (s.T t).d k v w1 e w2):S8 Z c B0 vN vT vS s t k v w e w2:=by
 obtain⟨b,a,a',m,g,o,cu,p,q,r,u,i⟩:=h;obtain⟨m1,d1⟩:=j.below hb;obtain⟨x,B⟩:=Yu f hx;cases hf:El (s.T t).d k v
 ·obtain⟨e1,e2⟩:=B hf;rw[hf]at b;exact⟨vN,vT,vS,a,by rw[b,e1];rfl,d1.trans g,.inl ⟨e1,Bk,AM A t a',by rw[e2];exact m⟩⟩
 ·obtain⟨e1,e2⟩:=x hf;rw[hf]at b;refine⟨vN,vT,vS,a,by rw[b,e1];rfl,d1.trans g,.inr ⟨by rw[e1];decide,?_⟩⟩;rw[e2];exact⟨Bk,AM A t a',_,m,.inr (.inr (.inr ⟨t,A,a',_,o,cu,p,q,r,rfl,rfl,u,i,l,by omega,((j.rd t l).step d1.oz).step g.oz⟩))⟩
end
theorem Yy(Z:Nat->Prop)(c B0:Nat)(vN vT vS:V9)(Bk:Nat->Nat)(A:Nat->Ad)(s:AV)(t:Nat)(k v:Vl)(w:Y)(l:AZ Z w c B0 vN vT vS (N9) Bk A s)(D:t<s.nt)(E:s.nt<=100)(P:A8 w)(hx:(s.T t).shape=-1)(M:Inv Ky hN (s.T t).d)(H:Rp (s.T t).d)(hm:(s.T t).d.m<=4000000)(hk:Ky k)(hv:v.ok=true)(Q:KI k v)(R:5<=B0):
  C9 203 #[Q9 c,J (t:Int),FQ k,FQ v] w fun e w'=>S8 Z c B0 vN vT vS s t k v w e w':=by
 obtain⟨g,S,U,V,au,u,X⟩:=l.FI D;subst U;have I:AF Bk (A t) (s.T t)=.iface 239 (IJ (A t) (s.T t)):=C3 hx;rw[I]at u;obtain⟨W,hW,i,x,ad⟩:=jZ w k v;have ae:=l.lt;have hS:Small (s.T t).d:=M.small (by omega);obtain⟨n,q⟩:∃n,n=CX s.F (s.T t) k:=⟨_,rfl⟩;have r:Hid (∀w1,B9 W w1->C9 349 #[IJ (A t) (s.T t),FQ k] w1 (R9 (FQ n) w1)):=O (fun w1 h1=>by
  have a:=i.trans (h1.mono (by omega));rw[q];exact G6 (A t) (s.T t) s.F k w1 (AL _ _ P a) hx M H hS hk (((l.rd t D).now.2).below a))
 have af:Hid (∀w1,B9 w w1->¬(v.kind=0/\n.kind=0)->C9 234 #[Q9 c,J (t:Int),Dv (A t).la (A t).lc (A t).ia (A t).ic (A t).xa (A t).xc (s.T t).d,FQ k,FQ v] w1 fun e w'=>S8 Z c B0 vN (S9 g s.nt S) vS s t k v w e w'):=O (fun w1 h1 b=>by
  refine(H6 Z c B0 vN _ vS Bk A s t (A t).la (A t).lc (A t).ia (A t).ic (A t).xa (A t).xc (s.T t).d k v w1 (l.below h1).1 D E (AL _ _ P h1) (((l.rd t D).now.2).below h1) M hm hk hv Q R).mono ?_;intro e w2 h2;exact gU.un l h1 (by rw[<-q];exact b) hx D E h2)
 have ag:Hid (∀w1,B9 w w1->v.kind=0/\n.kind=0->S8 Z c B0 vN (S9 g s.nt S) vS s t k v w (.returned (Bp 0)) w1):=O (fun w1 h1 h2=>by
  obtain⟨e1,e2⟩:=Yv (s:=s) (t:=t) (k:=k) (v:=v) (by rw[<-q];exact h2);obtain⟨m1,d1⟩:=l.below h1;exact⟨_,_,_,_,by rw[e1],d1,.inl ⟨e1,Bk,A,by rw[e2];exact m1⟩⟩)
 have x1:=(i.cell (p:=(G c 1)) ae).trans l.cells.2.1;have xg:=(i.cell (p:=(G g t)) V).trans u;obtain⟨⟨k0,k1,k2,k3,k4⟩,⟨v0,v1,v2,v3,v4⟩⟩:=x.cells;have lc:c<W.heap.size:=by omega
 have lg:g<W.heap.size:=by omega
 have l0:w.heap.size<W.heap.size:=by omega
 have l1:w.heap.size+1<W.heap.size:=by omega
 have ah:=O x;have L:=O i;have av:=jT (IJ (A t) (s.T t));have aw:=kD (IJ (A t) (s.T t));clear l P M H hm hk hv hS q i x u X I hx ad
 go_enter func203,ntmps203
 go_upto_region 1 with fail
 rw[<-hW];clear hW;by_cases b:v.kind=0/\n.kind=0
 case pos=>
  have d1:(v.kind==0)=true:=by simp[b.1]
  have d2:(n.kind==0)=true:=by simp[b.2]
  have HN:=O b;clear b;refine qr W ?_;refine N (h:=N (h:=N (h:=N (h:=N (h:=N (h:=N (h:=N (h:=N (h:=N (h:=N (h:=N (h:=?_))))))))))));refine N (h:=?_);refine GS (fun K hK=>?_);go_simp;apply Exists.intro;refine And.intro (fun w' f=>?_) (hK _ ?_)
  ·go_invoke
   (try go_simp)
   refine((r _ f)).mono ?_;rintro e ai ⟨rfl,hb⟩;exact⟨rfl,f.trans (hb.mono f.size)⟩
  clear hK K;refine N (h:=N (h:=N (h:=?_)));refine GO ?_;intro w1 a;have HE:=O (ag w1 (L.trans (a.mono (by omega))) HN);clear a;go_wp2;refine DO (v:=Bp 0) (by simp[results,results203,go_sem,Bp]) rfl HE
 have B:(v.kind=0/\n.kind≠0)\/v.kind≠0:=by
  by_cases h:v.kind=0
  ·exact .inl ⟨h,fun e=>b ⟨h,e⟩⟩
  ·exact .inr h
 have HN:=O b;clear b;rcases B with⟨h1,h2⟩|h1
 case' inl=>
  have d1:(v.kind==0)=true:=by simp[h1]
  have d2:(n.kind==0)=false:=by simp[h2]
  clear h1 h2;refine qr W ?_;refine N (h:=N (h:=N (h:=N (h:=N (h:=N (h:=N (h:=N (h:=N (h:=N (h:=N (h:=N (h:=?_))))))))))));refine N (h:=?_);refine GS (fun K hK=>?_);go_simp;apply Exists.intro;refine And.intro (fun w' f=>?_) (hK _ ?_)
  ·go_invoke
   (try go_simp)
   refine((r _ f)).mono ?_;rintro e ai ⟨rfl,hb⟩;exact⟨rfl,f.trans (hb.mono f.size)⟩
  clear hK K;refine N (h:=N (h:=N (h:=?_)));refine GO ?_;intro w1 a
 case' inr=>
  have d1:(v.kind==0)=false:=by simp[h1]
  clear h1
  go_quiet (fail)
  obtain⟨w1,C⟩:∃w1,w1=W.drewN nq:=⟨_,rfl⟩;have a:B9 W w1:=by rw[C];exact⟨rfl,rfl,rfl,A0 _,fun _ _=>rfl⟩
  rw[<-C];clear C
 all_goals
  have x1:=(a.cell (p:=(G c 1)) lc).trans x1;have xg:=(a.cell (p:=(G g t)) lg).trans xg;obtain⟨⟨k0,k1,k2,k3,k4⟩,⟨v0,v1,v2,v3,v4⟩⟩:=(ah.below a).cells;have z1:=a.size;have ax:c<w1.heap.size:=by omega
  have ay:g<w1.heap.size:=by omega
  have az:w.heap.size<w1.heap.size:=by omega
  have aM:w.heap.size+1<w1.heap.size:=by omega
  have aj:Hid (∀o,B9 w (w1.alloc o)):=O (fun o=>(L.trans (a.mono (by omega))).alloc (by omega) _);clear a;go_wp2_with fail
  refine(af _ (aj _) HN).mono ?_;intro e w3 hP;obtain⟨ak,ao,aq,ar,he,j⟩:=hP;have HP:Hid (S8 Z c B0 vN (S9 g s.nt S) vS s t k v w (.returned (Bp (C2 s t k v))) w3):=O ⟨ak,ao,aq,ar,rfl,j⟩;subst he;clear j;go_wp2;refine DO (v:=Bp (C2 s t k v)) (by simp[results,results203,go_sem]) rfl HP
end
section
attribute [local go_sem] Tv
def Hd(kb vb rb p:Nat)(k v:Vl)(A:Ad)(t:Tb)(W:Y):Prop:=
 W.cell? (G kb 0)=some (J k.kind)/\W.cell? (G kb 1)=some (J k.num)/\W.cell? (G kb 2)=some (F9 k.Ae)/\W.cell? (G kb 3)=some (.string k.str)/\W.cell? (G kb 4)=some (J k.ref)/\
 W.cell? (G vb 0)=some (J v.kind)/\W.cell? (G vb 1)=some (J v.num)/\W.cell? (G vb 2)=some (F9 v.Ae)/\W.cell? (G vb 3)=some (.string v.str)/\W.cell? (G vb 4)=some (J v.ref)/\
 W.cell? (G rb 0)=some (.slice A.va t.nv A.vc)/\W.cell? (G rb 1)=some (.slice A.la t.d.n A.lc)/\W.cell? (G rb 2)=some (.slice A.ia t.d.m A.ic)/\W.cell? (G rb 3)=some (.slice A.xa t.d.x A.xc)/\W.cell? (G rb 4)=some (J t.d.used)/\W.cell? (G rb 5)=some (J t.d.live)/\W.cell? (G rb 6)=some (J t.d.turns)/\W.cell? (G rb 7)=some (Q9 p)
theorem Hd.keep{kb vb rb p:Nat}{k v:Vl}{A:Ad}{t:Tb}{W W':Y}(h:Hd kb vb rb p k v A t W)(h1:W'.heap[kb]?=W.heap[kb]?)(h2:W'.heap[vb]?=W.heap[vb]?)(h3:W'.heap[rb]?=W.heap[rb]?):Hd kb vb rb p k v A t W':=by
 have e1:∀q,W'.cell? (G kb q)=W.cell? (G kb q):=fun q=>As (a:=(G kb q)) h1
 have e2:∀q,W'.cell? (G vb q)=W.cell? (G vb q):=fun q=>As (a:=(G vb q)) h2
 have e3:∀q,W'.cell? (G rb q)=W.cell? (G rb q):=fun q=>As (a:=(G rb q)) h3
 obtain⟨a0,a1,a2,a3,a4,a5,j,l,m,a9,b,c,a12,d,e,f,g,i⟩:=h;exact⟨(e1 _).trans a0,(e1 _).trans a1,(e1 _).trans a2,(e1 _).trans a3,(e1 _).trans a4,(e2 _).trans a5,(e2 _).trans j,(e2 _).trans l,(e2 _).trans m,(e2 _).trans a9,(e3 _).trans b,(e3 _).trans c,(e3 _).trans a12,(e3 _).trans d,(e3 _).trans e,(e3 _).trans f,(e3 _).trans g,(e3 _).trans i⟩
theorem Hd.of{w W:Y}{rb p:Nat}{k v:Vl}{A:Ad}{t:Tb}(h:Z8 w W k v)(a:W.heap[rb]?=some (.cells (BT p A t).toArray 236 (0,0))):Hd w.heap.size (w.heap.size+1) rb p k v A t W:=by
 obtain⟨⟨k0,k1,k2,k3,k4⟩,⟨v0,v1,v2,v3,v4⟩⟩:=h.cells;have hc:=Et a;exact⟨k0,k1,k2,k3,k4,v0,v1,v2,v3,v4,hc 0 _ rfl,hc 1 _ rfl,hc 2 _ rfl,hc 3 _ rfl,hc 4 _ rfl,hc 5 _ rfl,hc 6 _ rfl,hc 7 _ rfl⟩
section
variable {Z:Nat->Prop} {w w1 w2:Y} {c B0:Nat} {vN vT vS vU:V9} {Bk:Nat->Nat} {A:Nat->Ad} {s:AV} {t:Nat} {k v:Vl} {e:Ending}
theorem BG.boxes{b d f:V9}(g:BG (Aq B0 c vN vT vS w1) w1 (Aq B0 c b d f w2) w2)(a:AZ Z w1 c B0 vN vT vS vU Bk A s){q:Nat}{cs:Array Value}{ty:TypeId}(hq:w1.heap[q]?=some (Obj.cells cs ty (0,0)))(h:ty=236\/ty=43\/ty=45\/ty=51):w2.heap[q]?=w1.heap[q]?:=
 g.block q (Aj hq) (fun e=>by
  rcases h with rfl|rfl|rfl|rfl
  ·exact a.Eo hq (by decide) (by decide) (by decide) (by decide) (by decide) e
  ·exact a.Eo hq (by decide) (by decide) (by decide) (by decide) (by decide) e
  ·exact a.Eo hq (by decide) (by decide) (by decide) (by decide) (by decide) e
  ·exact a.Eo hq (by decide) (by decide) (by decide) (by decide) (by decide) e)
theorem VP(h:Ce s (s.T t) k v=.loose){j:Nat}(hx:(s.T t).shape=j):C2 s t k v=0/\BO s t k v=Cg s t (Dk (s.T t) (Bc s.F j (s.T t).V (s.T t).nv) k v):=by
 unfold C2 BO;rw[h];refine⟨rfl,?_⟩;show Cg s t (Dk (s.T t) (Bc s.F (s.T t).shape.toNat (s.T t).V (s.T t).nv) k v)=_;rw[hx];rfl
theorem NG{F:Nat->Bf}{j:Nat}{V:Nat->Vl}{n:Nat}{d:Dc}(h:Ru F j V n d)(hn:n<=12):El d k v=false:=by
 unfold El;rw[h.live,h.turns,decide_eq_false (p:=((n:Int)=500)) (by omega),decide_eq_false (p:=((n:Int)=1000000000000)) (by omega)];simp
end
theorem Yx(Z:Nat->Prop)(c B0:Nat)(vN vT vS:V9)(Bk:Nat->Nat)(A:Nat->Ad)(s:AV)(t j:Nat)(k v:Vl)(w:Y)(M:AZ Z w c B0 vN vT vS (N9) Bk A s)(hf:Ar s.nf s.F=0)(ht:t<s.nt)(b6:s.nt<=100)(hT:A8 w)(hx:(s.T t).shape=j)(hj:j<s.nf)(U:(s.T t).nv=nf s.F j)(bm:bare (s.T t).d)(az:∀i,i<(s.T t).nv->MQ ((s.T t).V i)=true)(hk:Ky k)(hv:v.ok=true)(b7:KI k v)(b8:5<=B0)(bn:∀i,i<s.nt->(s.T i).shape=-1\/∃j:Nat,(s.T i).shape=j/\j<s.nf):
  C9 203 #[Q9 c,J (t:Int),FQ k,FQ v] w fun e w'=>S8 Z c B0 vN vT vS s t k v w e w':=by
 obtain⟨g,P,b9,ca,cx,aM,cb⟩:=M.FI ht;subst b9;have bp:AF Bk (A t) (s.T t)=.iface 236 (B4 (Bk j) (A t) (s.T t)):=by
  unfold AF;rw[Cs (by omega),hx];rfl
 rw[bp]at aM;obtain⟨W,hW,X,a6,cc⟩:=jZ w k v;have cd:=M.lt;have bh:(s.T t).nv<=12:=by rw[U];exact IU hf hj
 obtain⟨gv,au⟩:∃gv,gv=CX s.F (s.T t) k:=⟨_,rfl⟩;have ah:Hid (∀w1,B9 W w1->C9 342 #[B4 (Bk j) (A t) (s.T t),FQ k] w1 (R9 (FQ gv) w1)):=O (fun w1 h1=>by
  have a:=X.trans (h1.mono (by omega));rw[au];exact IX (A t) (s.T t) s B0 Bk j k w1 (IE.below M.nd a) hf hj hx U (((M.rd t ht).now.1).below a rfl))
 have cg:Hid (∀w1,B9 w w1->v.kind=0/\gv.kind=0->S8 Z c B0 vN (S9 g s.nt P) vS s t k v w (.returned (Bp 0)) w1):=O (fun w1 h1 h2=>by
  obtain⟨e1,e2⟩:=Yv (s:=s) (t:=t) (k:=k) (v:=v) (by rw[<-au];exact h2);obtain⟨m1,d1⟩:=M.below h1;exact⟨_,_,_,_,by rw[e1],d1,.inl ⟨e1,Bk,A,by rw[e2];exact m1⟩⟩)
 have ch:Hid (∀w1,B9 w w1->¬(v.kind=0/\gv.kind=0)->C9 233 #[Q9 c,B4 (Bk j) (A t) (s.T t),FQ k,FQ v] w1 fun e w'=>gV Z c B0 vN (S9 g s.nt P) vS (N9) Bk A s t k v w1 e w'):=O (fun w1 h1 f=>Lz Z c B0 vN _ vS _ Bk A s t j k v w1 (M.below h1).1 hf ht hx hj U bm hk (by rw[<-au];exact f) bn);have HY:Hid (∀w1 w3 w4 l B' p a' x' s',B9 w w1->AF B' a' x'=.iface 236 (.agg (BT p a' x').toArray)->Cg s' t x'=BO s t k v->Ce s (s.T t) k v≠.full->s'.nt=s.nt->AZ Z w3 c B0 l (S9 g s.nt P) vS (N9) B' A s'->BG (Aq B0 c vN (S9 g s.nt P) vS w1) w1 (Aq B0 c l (S9 g s.nt P) vS w3) w3->Rd (OZ Z B0 c l (S9 g s.nt P) vS w3) w3 a' x'->B9 w3 w4->
   C9 208 #[Q9 c,J (t:Int),.iface 236 (.agg (BT p a' x').toArray)] w4 fun e w'=>(∃u,e=.returned u)/\S8 Z c B0 vN (S9 g s.nt P) vS s t k v w (.returned (Bp 0)) w'):=O (fun w1 w3 w4 l B' p a' x' s' h1 e1 e2 e3 e4 m3 d3 hR h4=>by
  obtain⟨m4,d4⟩:=m3.below h4;obtain⟨_,d1⟩:=M.below h1;have hc:C2 s t k v=0:=by unfold C2;rw[Cs e3]
  rw[<-e1];refine(Hv Z c B0 l _ vS B' A s' t a' x' w4 m4 (by omega) (by omega) (hR.step d4.oz)).mono ?_;rintro e Q ⟨hu,a7,m5,d5,_⟩;exact⟨hu,l,_,vS,a7,by rw[hc],((d1.trans d3).trans d4).trans d5,.inl ⟨hc,B',AM A t a',by rw[<-e2];exact m5⟩⟩)
 have av:=Gk hf hj (W:=(s.T t).V) (fun q hq=>az q (by omega)) (s.T t).nv (by omega);have bq:Hid (∀w4,B9 w w4\/(∃w3,AZ Z w3 c B0 vN (S9 g s.nt P) vS (N9) Bk A s/\A8 w3/\B9 w3 w4)->C9 235 #[B4 (Bk j) (A t) (s.T t)] w4 fun e w'=>(∃v0 v1 v2,e=.returned (Z0 v0 v1 v2 (Bc s.F j (s.T t).V (s.T t).nv))/\DV (Bc s.F j (s.T t).V (s.T t).nv) w' v0 v1 v2 w4.heap.size w'.heap.size)/\B9 w4 w'):=O (fun w4 h4=>by
  have hq:∃w3,AZ Z w3 c B0 vN (S9 g s.nt P) vS (N9) Bk A s/\A8 w3/\B9 w3 w4:=h4.elim (fun h=>⟨w,M,hT,h⟩) id;obtain⟨w3,m3,R,hb⟩:=hq;exact RE (A t) (s.T t) s B0 Bk j w4 (AL _ _ R hb) (IE.below m3.nd hb) hf hj U (((m3.rd t ht).now.1).below hb rfl) az)
 have br:Hid (∀w1 w3 Q u0 c0 u1 c1 u2 c2,B9 w w1->Ce s (s.T t) k v=.loose->AZ Z w3 c B0 vN (S9 g s.nt P) vS (N9) Bk A s->A8 w3->BG (Aq B0 c vN (S9 g s.nt P) vS w1) w1 (Aq B0 c vN (S9 g s.nt P) vS w3) w3->B9 w3 Q->Gy Q u0 u1 u2 (Bc s.F j (s.T t).V (s.T t).nv)->
   C9 234 #[Q9 c,J (t:Int),Dv u0 c0 u1 c1 u2 c2 (Bc s.F j (s.T t).V (s.T t).nv),FQ k,FQ v] Q fun e w'=>e=.returned (Bp 0)/\S8 Z c B0 vN (S9 g s.nt P) vS s t k v w (.returned (Bp 0)) w'/\∀(q:Nat) (cs:Array Value) (ty:TypeId),Q.heap[q]?=some (Obj.cells cs ty (0,0))->(ty=236\/ty=43\/ty=45\/ty=51)->w'.heap[q]?=Q.heap[q]?):=O (fun w1 w3 Q u0 c0 u1 c1 u2 c2 h1 hw m3 R d3 h5 hD=>by
  obtain⟨m5,d5⟩:=m3.below h5;obtain⟨_,d1⟩:=M.below h1;obtain⟨e1,e2⟩:=VP hw hx;refine(H6 Z c B0 vN _ vS Bk A s t u0 c0 u1 c1 u2 c2 _ k v Q m5 ht b6 (AL _ _ R h5) hD av.ls.inv (by rw[av.m];omega) hk hv b7 b8).mono ?_;rintro e w6 ⟨he,a7,a',m6,d6,_⟩;rw[NG av bh]at he;refine⟨he,⟨vN,_,vS,a7,by rw[e1],((d1.trans d3).trans d5).trans d6,.inl ⟨e1,Bk,AM A t a',by rw[e2];exact m6⟩⟩,fun q cs ty hq hty=>d6.boxes m5 hq hty⟩)
 have x1:=(X.cell (p:=(G c 1)) cd).trans M.cells.2.1;have xg:=(X.cell (p:=(G g t)) ca).trans aM;obtain⟨⟨k0,k1,k2,k3,k4⟩,⟨v0,v1,v2,v3,v4⟩⟩:=a6.cells;have lc:c<W.heap.size:=by omega
 have lg:g<W.heap.size:=by omega
 have l0:w.heap.size<W.heap.size:=by omega
 have l1:w.heap.size+1<W.heap.size:=by omega
 have cj:=O a6;have bt:=O X;have ck:=O hT;have cl:=O M;have b5:=M.base;have cy:=iK (B4 (Bk j) (A t) (s.T t));obtain⟨D,hD⟩:∃D,D=Bc s.F j (s.T t).V (s.T t).nv:=⟨_,rfl⟩;rw[<-hD]at bq br;clear M hT hk hv au X a6 aM cb bp hx cc hf U bm az bn av hD
 go_enter func203,ntmps203
 go_upto_region 1 with fail
 rw[<-hW];clear hW;by_cases f:v.kind=0/\gv.kind=0
 case pos=>
  have d1:(v.kind==0)=true:=by simp[f.1]
  have d2:(gv.kind==0)=true:=by simp[f.2]
  have HN:=O f;clear f;refine qr W ?_;refine N (h:=N (h:=N (h:=N (h:=N (h:=N (h:=N (h:=N (h:=N (h:=N (h:=N (h:=N (h:=?_))))))))))));refine N (h:=?_);refine GS (fun K hK=>?_);go_simp;apply Exists.intro;refine And.intro (fun w' E=>?_) (hK _ ?_)
  ·go_invoke
   (try go_simp)
   refine((ah _ E)).mono ?_;rintro e cm ⟨rfl,hb⟩;exact⟨rfl,E.trans (hb.mono E.size)⟩
  clear hK K;refine N (h:=N (h:=N (h:=?_)));refine GO ?_;intro w1 a;have HE:=O (cg w1 (bt.trans (a.mono (by omega))) HN);clear a;go_wp2;refine DO (v:=Bp 0) (by simp[results,results203,go_sem,Bp]) rfl HE
 have ar:(v.kind=0/\gv.kind≠0)\/v.kind≠0:=by
  by_cases h:v.kind=0
  ·exact .inl ⟨h,fun e=>f ⟨h,e⟩⟩
  ·exact .inr h
 have HN:=O f;clear f;rcases ar with⟨h1,h2⟩|h1
 case' inl=>
  have d1:(v.kind==0)=true:=by simp[h1]
  have d2:(gv.kind==0)=false:=by simp[h2]
  clear h1 h2;refine qr W ?_;refine N (h:=N (h:=N (h:=N (h:=N (h:=N (h:=N (h:=N (h:=N (h:=N (h:=N (h:=N (h:=?_))))))))))));refine N (h:=?_);refine GS (fun K hK=>?_);go_simp;apply Exists.intro;refine And.intro (fun w' E=>?_) (hK _ ?_)
  ·go_invoke
   (try go_simp)
   refine((ah _ E)).mono ?_;rintro e cm ⟨rfl,hb⟩;exact⟨rfl,E.trans (hb.mono E.size)⟩
  clear hK K;refine N (h:=N (h:=N (h:=?_)));refine GO ?_;intro w1 a
 case' inr=>
  have d1:(v.kind==0)=false:=by simp[h1]
  clear h1
  go_quiet (fail)
  obtain⟨w1,a8⟩:∃w1,w1=W.drewN nq:=⟨_,rfl⟩;have a:B9 W w1:=by rw[a8];exact⟨rfl,rfl,rfl,A0 _,fun _ _=>rfl⟩
  rw[<-a8];clear a8
 all_goals
  have x1:=(a.cell (p:=(G c 1)) lc).trans x1;have xg:=(a.cell (p:=(G g t)) lg).trans xg;have z1:=a.size;have cz:c<w1.heap.size:=by omega
  have cN:g<w1.heap.size:=by omega
  have c3:w.heap.size<w1.heap.size:=by omega
  have c4:w.heap.size+1<w1.heap.size:=by omega
  obtain⟨S,aw⟩:∃S,S=w1.alloc (.cells #[.slice (A t).va (s.T t).nv (A t).vc,.slice (A t).la (s.T t).d.n (A t).lc,.slice (A t).ia (s.T t).d.m (A t).ic,.slice (A t).xa (s.T t).d.x (A t).xc,J (s.T t).d.used,J (s.T t).d.live,J (s.T t).d.turns,Q9 (Bk j)] 236):=⟨_,rfl⟩;have bb:B9 w1 S:=by rw[aw];exact(DD _ _).alloc (A0 _) _
  have ax:S.heap[w1.heap.size]?=some (.cells (BT (Bk j) (A t) (s.T t)).toArray 236 (0,0)):=by rw[aw];exact BE _ _
  have ai:B9 w S:=(bt.trans (a.mono (by omega))).trans (bb.mono (by omega));have af:=O ai;have ad:=(cj.below a).below bb;have L:=O ad;have bu:=O ax;obtain⟨⟨k0,k1,k2,k3,k4⟩,⟨v0,v1,v2,v3,v4⟩⟩:=ad.cells;have cn:Hid (S.heap[w1.heap.size]?=some (.cells #[.slice (A t).va (s.T t).nv (A t).vc,.slice (A t).la (s.T t).d.n (A t).lc,.slice (A t).ia (s.T t).d.m (A t).ic,.slice (A t).xa (s.T t).d.x (A t).xc,J (s.T t).d.used,J (s.T t).d.live,J (s.T t).d.turns,Q9 (Bk j)] 236 (0,0))):=O ax;have z2:=Aj ax;have c5:w.heap.size<S.heap.size:=by omega
  have c6:w.heap.size+1<S.heap.size:=by omega
  have bj:Hid ((Instr.storeAt 236 (Q9 w1.heap.size) (B4 (Bk j) (A t) (s.T t))).run prog (w1.alloc (.cells B3 236))=.ok () S):=O (by rw[aw];exact PQ w1 (Bk j) (A t) (s.T t));clear a bb ax ai ad aw;go_upto_region 6 with(refine Ak rfl rfl _ bj ?_)
  clear x1 xg;go_wp2_with (first|(refine Aan rfl 236 _ rfl w1.heap.size rfl _ _ _ _ cn underlying236 rfl K0 ?_))
  refine(ch S af HN).mono ?_;rintro e w3 (⟨rfl,aj,m3,d3⟩|⟨l,B',p,a',x',s',rfl,e1,e2,e3,e4,m3,d3,hR⟩)
  focus
   have ag:=(cl.below af).1;have ak:Z8 w w3 k v:=⟨(d3.boxes ag L.k (.inr (.inl rfl))).trans L.k,(d3.boxes ag L.v (.inr (.inl rfl))).trans L.v⟩;have bc:=(d3.boxes ag bu (.inl rfl)).trans bu;have R:A8 w3:=(AL _ _ ck af).below (B:=B0) ⟨d3.os,d3.tape,d3.output,d3.size,fun q hq=>d3.block q (by omega) (fun e=>by have:=(ag.Lc e).1;omega)⟩ (by omega);have bw:=O m3;have cq:=O d3;have bx:=O R;have cr:=O aj;obtain⟨H,o⟩:∃H,H=w3.alloc (.cells B3 236):=⟨_,rfl⟩;have I:B9 w3 H:=by rw[o];exact(DD _ _).alloc (A0 _) _
   have r:=ak.below I;have C:=(I.block _ (Aj bc)).trans bc;have bz:Hd w.heap.size (w.heap.size+1) w1.heap.size (Bk j) k v (A t) (s.T t) H.drew:=Hd.of (W:=H) r C;have ae:Hid ((Instr.storeAt 236 (Q9 w3.heap.size) (.agg B3)).run prog (w3.alloc (.cells B3 236))=.ok () H):=O (by
    rw[o];exact EW (t:=236) (v:=.agg B3) (old:=B3.toList) (vs:=B3.toList) D7 w3 (ty:=236) rfl rfl LN rfl)
   have bd:=O I;have ao:=O r;have ct:=O C;have b0:=Aj r.k;have b1:=Aj r.v;have b2:=Aj C;clear m3 d3 R aj ag ak bc I r C o k0 k1 k2 k3 k4 v0 v1 v2 v3 v4;go_upto_region 10 with(refine Ak rfl rfl _ ae ?_)
   refine H9 (Hd w.heap.size (w.heap.size+1) w1.heap.size (Bk j) k v (A t) (s.T t)) ?_;refine tz 0 (h:=tz 1 (h:=tz 2 (h:=tz 4 (h:=tz 5 (h:=?_)))));refine ry 3 (fun K hK=>?_);go_simp;have aq:B9 w3 H.drew:=bd.drew;refine(bq _ (.inr ⟨w3,bw,bx,aq⟩)).mono ?_;rintro e Q ⟨⟨u0,u1,u2,rfl,b3⟩,b⟩;have b:B9 H Q:=Below.trans (DD _ _).drew b;obtain⟨ua,uc,ub,ud,ue,uf,q0,q1,q2,b4⟩:=b3.at;subst q0 q1 q2;have bf:=bz.keep (W':=Q) (b.block _ b0) (b.block _ b1) (b.block _ b2);have bk:=O (br S w3 Q ua uc ub ud ue uf af cr bw bx cq (bd.trans (b.mono bd.size)) b4);have bg:=O (And.intro ((b.block _ b0).trans ao.k) (And.intro ((b.block _ b1).trans ao.v) ((b.block _ b2).trans ct)));refine hK.out _ _ bf (fun _=>?_);clear hK K bz b3 b4 b aq;refine ry 6 (fun K hK=>?_);go_simp;refine bk.mono ?_;rintro e w6 ⟨rfl,hP,ay⟩;have cu:=bf.keep (W':=w6) (ay _ _ _ bg.1 (.inr (.inl rfl))) (ay _ _ _ bg.2.1 (.inr (.inl rfl))) (ay _ _ _ bg.2.2 (.inl rfl));have HP:=O hP;refine hK.out _ _ cu (fun _=>?_);clear hK K bf hP ay;refine tz 7 (h:=?_);refine FM ?_;go_wp2_with fail
  rotate_left
  focus
   obtain⟨H,o⟩:∃H,H=w3.alloc (.cells (BT p a' x').toArray 236):=⟨_,rfl⟩;have I:B9 w3 H:=by rw[o];exact(DD _ _).alloc (A0 _) _
   have C:H.heap[w3.heap.size]?=some (.cells (BT p a' x').toArray 236 (0,0)):=by rw[o];exact BE _ _
   have ae:Hid ((Instr.storeAt 236 (Q9 w3.heap.size) (.agg (BT p a' x').toArray)).run prog (w3.alloc (.cells B3 236))=.ok () H):=O (by
    rw[o];exact PQ w3 p a' x')
   have cv:=O (HY S w3 H l B' p a' x' s' af e1 e2 e3 e4 m3 d3 hR I);have cw:=O C;have l4:=Aj C;clear m3 d3 e1 e2 e3 e4 hR I C o k0 k1 k2 k3 k4 v0 v1 v2 v3 v4;go_upto_region 8 with(refine Ak rfl rfl _ ae ?_)
   go_wp2_with (first|(refine Aan rfl 236 _ rfl w3.heap.size rfl _ _ _ _ cw underlying236 rfl K0 ?_))
   refine cv.mono ?_;rintro e Q ⟨⟨uu,rfl⟩,hP⟩;have HP:=O hP;clear hP;go_wp2
  rotate_left;all_goals
   refine DO (v:=Bp 0) (by simp[results,results203,go_sem,Bp]) rfl HP
theorem Nn(Z:Nat->Prop)(c B0:Nat)(vN vT vS:V9)(Bk:Nat->Nat)(A:Nat->Ad)(s:AV)(t:Nat)(k v:Vl)(w:Y)(h:AZ Z w c B0 vN vT vS (N9) Bk A s)(a:V7 s)(g:t<s.nt)(l:A8 w)(hk:Ky k)(n:v.ok=true)(b:KI k v)(d:5<=B0):
  C9 203 #[Q9 c,J (t:Int),FQ k,FQ v] w fun e w'=>S8 Z c B0 vN vT vS s t k v w e w':=by
 have hx:=a.t t g;rcases hx.way with⟨h1,h2,h3⟩|⟨j,h1,h2,h3,h4,h5⟩
 ·exact Yy Z c B0 vN vT vS Bk A s t k v w h g a.nt l h1 h3 hx.wf hx.m hk n b d
 ·exact Yx Z c B0 vN vT vS Bk A s t j k v w h a.f g a.nt l h1 h2 h3 h4 (fun i hi=>(h5 i hi).1) hk n b d (fun i hi=>by
   rcases(a.t i hi).way with⟨e,_⟩|⟨q,e,hq,_⟩
   ·exact .inl e
   ·exact .inr ⟨q,e,hq⟩)
end
theorem Sa{s:AV}{B0 t:Nat}{Bk:Nat->Nat}{A:Ad}(hf:Ar s.nf s.F=0)(hx:O4 s (s.T t))(n:Int):
  (AF Bk A (s.T t)=.iface 239 (IJ A (s.T t))/\∃b,∀w,Ue w s B0 Bk A (s.T t)->C9 347 #[IJ A (s.T t),J n] w (R9 (FV b ((TV s t).next n)) w))\/
  (∃p,AF Bk A (s.T t)=.iface 236 (B4 p A (s.T t))/\∃b,∀w,Ue w s B0 Bk A (s.T t)->C9 340 #[B4 p A (s.T t),J n] w (R9 (FV b ((TV s t).next n)) w)):=by
 rcases hx.way with⟨h1,h2,h3⟩|⟨j,h1,h2,h3,h4,h5⟩
 ·refine .inl ⟨C3 h1,(JJ (s.T t).d n).1,fun w a=>?_⟩;rw[XD h1 h3];exact JZ A (s.T t) n w a.tb a.d hx.small hx.wf (FW h3)
 ·refine .inr ⟨Bk j,?_,Pj s j (s.T t) n,fun w a=>?_⟩
  ·unfold AF;rw[Cs (by omega),h1];rfl
  ·rw[Sv h1];exact Lu A (s.T t) s B0 Bk j n w a.nd hf h2 h3 a.v
def GA(c g ab t:Nat)(vT a:V9)(n:Int)(W:Y):Prop:=W.cell? (G c 1)=some vT/\W.cell? (G g t)=some a/\W.cell? (G ab 1)=some (J (t:Int))/\W.cell? (G ab 3)=some (J n)
theorem GA.keep{c g ab t:Nat}{vT b:V9}{n:Int}{w w':Y}(h:GA c g ab t vT b n w)(hc:w'.heap[c]?=w.heap[c]?)(hg:w'.heap[g]?=w.heap[g]?)(d:w'.heap[ab]?=w.heap[ab]?):GA c g ab t vT b n w':=by
 obtain⟨h1,h2,h3,h4⟩:=h;exact⟨(As (a:=(G c 1)) hc).trans h1,(As (a:=(G g t)) hg).trans h2,(As (a:=(G ab 1)) d).trans h3,(As (a:=(G ab 3)) d).trans h4⟩
theorem WE(b:Bool)(p:Pr)(w:Y):(Instr.field 254 (FV b p) 1).run prog w=.ok (.agg (Eb p).toArray) w:=by kernel_rfl
theorem Yb{w:Y}{b:Nat}(hb:w.heap[b]?=some (.cells aT.toArray 96 (0,0)))(p:Pr):∃w',(Instr.storeAt 96 (Q9 b) (.agg (Eb p).toArray)).run prog w=.ok () w'/\Bt w w' b (Eb p).toArray 96:=
 BD (old:=aT) (vs:=Eb p) T7 hb rfl rfl (Er p) rfl
def YM(p:Pr):An:=⟨0,p.turn,p.key,p.val⟩
attribute [local go_sem] WE
theorem SR(Z:Nat->Prop)(c B0:Nat)(vN vT vS vU:V9)(Bk:Nat->Nat)(A:Nat->Ad)(s:AV)(a:Ac)(t:Nat)(w:Y)(L:AZ Z w c B0 vN vT vS vU Bk A s)(hf:Ar s.nf s.F=0)(hx:O4 s (s.T t))(hT:A8 w)(et:a.t=t)(ht:t<s.nt)(ao:s.nt<=100):
  C9 144 #[Q9 c,IC a] w (R9 (.tuple #[DS (YM ((TV s t).next a.n)),Bp 0]) w):=by
 obtain⟨g,V,hv,X,aq,M,ad⟩:=L.FI ht;subst hv;obtain⟨W,hW,o,hA,hR,hz⟩:=boxes w a;have ae:=L.lt;have P:=(L.iJ hT ht).below o;have f:∀kv,AF Bk (A t) (s.T t)=kv->GA c g w.heap.size t (S9 g s.nt V) kv a.n W.drew:=fun kv e=>by
  obtain⟨a0,a1,a2,a3,_⟩:=hA.all;rw[et]at a1;exact⟨(o.cell (p:=(G c 1)) ae).trans L.cells.2.1,(o.cell (p:=(G g t)) X).trans (M.trans (by rw[e])),a1,a3⟩
 have Q:=O P;have HB:=O o;have HQ:=O hR;have af:=O f;have R:=O (Sa (B0:=B0) (Bk:=Bk) (A:=A t) hf hx a.n);obtain⟨p,hp⟩:∃p,p=(TV s t).next a.n:=⟨_,rfl⟩;rw[<-hp]at R ⊢;have zw:=o.size;clear L hA hR P f hf hx hT M ad o et hp
 go_enter func144,ntmps144
 go_wp2_with fail
 rw[<-hW];clear hW;rcases z R with⟨H,fb,hC⟩|⟨pn,H,fb,hC⟩
 case' inl=>refine Da (GA c g w.heap.size t (S9 g s.nt V) (.iface 239 (IJ (A t) (s.T t))) a.n) (by kernel_rfl) ?_
 case' inr=>refine Da (GA c g w.heap.size t (S9 g s.nt V) (.iface 236 (B4 pn (A t) (s.T t))) a.n) (by kernel_rfl) ?_
 all_goals
  have f:=z af _ H;have HC:=O hC;clear hC H;change wpAnyH _ _ _ _ _ _ _ _ (World.drew _);refine tz 0 (h:=tz 1 (h:=tz 2 (h:=tz 3 (h:=tz 4 (h:=tz 5 (h:=tz 6 (h:=tz 7 (h:=tz 8 (h:=tz 9 (h:=tz 10 (h:=?_)))))))))));refine AaG (rs:=[11,13]) (by kernel_rfl) (by simp) ?_;refine RC rfl (fun K hK=>?_) (RC rfl (fun K hK=>?_) AaI)
  focus
   go_simp;refine(HC _ (Q.below (DD _ _).drew)).mono ?_;rintro e w3 ⟨rfl,d⟩;have d:B9 W w3:=Below.trans (DD _ _).drew d;have i:=f.keep (w':=w3) (d.block c (by omega)) (d.block g (by omega)) (d.block w.heap.size (by omega));have z3:=d.size;have B:GA c g w.heap.size t _ _ a.n (w3.alloc (.cells aT.toArray 96)):=i.keep (Fs _ _ _ (by omega)) (Fs _ _ _ (by omega)) (Fs _ _ _ (by omega));have j:GA c g w.heap.size t _ _ a.n (w3.alloc (.cells (Eb p).toArray 96)):=i.keep (Fs _ _ _ (by omega)) (Fs _ _ _ (by omega)) (Fs _ _ _ (by omega));have ag:=O d;refine hK.out _ _ i (fun _=>?_);clear hK K f d;refine tz 12 (h:=?_);refine ry 13 (fun K hK=>?_);go_simp;refine hK.out _ _ B (fun _=>?_);clear hK K;refine ry 14 (fun K hK=>?_);refine Cm rfl rfl _ (Nc w3 p) ?_;refine hK.out _ _ j (fun _=>?_);clear hK K;refine FM ?_;obtain⟨w4,u⟩:∃w4,w4=w3.alloc (.cells (Eb p).toArray 96):=⟨_,rfl⟩;have b:w4.heap[w3.heap.size]?=some (.cells (Eb p).toArray 96 (0,0)):=by rw[u];exact BE _ _
   have x:Hid (B9 W w4):=O (by rw[u];exact ag.alloc z3 _);rw[<-u];obtain⟨k,r⟩:∃k,k=w3.heap.size:=⟨_,rfl⟩;rw[<-r]at b ⊢;clear u i B j r
  rotate_left
  focus
   go_simp;have m:B9 W (W.alloc (.cells aT.toArray 96)).drew:=(n9).drew;have C:GA c g w.heap.size t _ _ a.n (W.alloc (.cells aT.toArray 96)).drew:=f.keep (m.block c (by omega)) (m.block g (by omega)) (m.block w.heap.size (by omega));refine hK.out _ _ C (fun _=>?_);clear hK K;refine ry 11 (fun K hK=>?_);go_simp;refine(HC _ (Q.below m)).mono ?_;rintro e w3 ⟨rfl,d⟩;have l:B9 W w3:=m.trans (d.mono m.size);have S:w3.heap[W.heap.size]?=some (.cells aT.toArray 96 (0,0)):=(d.block _ (by simp)).trans (BE W _);have i:=f.keep (w':=w3) (l.block c (by omega)) (l.block g (by omega)) (l.block w.heap.size (by omega));obtain⟨w4,D,q⟩:=Yb S p;have j:=i.keep (w':=w4) (q.other c (by omega)) (q.other g (by omega)) (q.other w.heap.size (by omega));have b:=q.BR;have x:Hid (B9 W w4):=O (q.below l (A0 _));have U:=O D;refine hK.out _ _ i (fun _=>?_);clear hK K f d l m C D q S;refine tz 12 (h:=?_);refine ry 14 (fun K hK=>?_);refine Cm rfl rfl _ U ?_;refine hK.out _ _ j (fun _=>?_);clear hK K i j;refine FM ?_;obtain⟨k,r⟩:∃k,k=W.heap.size:=⟨_,rfl⟩;have ar:w.heap.size+1≠k:=by omega
   rw[<-r]at b ⊢;clear r
  rotate_left;all_goals
   have au:=Aj b;have z4:=x.size;have p0:w4.cell? (G k 0)=some (J p.key.kind):=by rw[NB w4 _ _ _ _ _ b];rfl
   have p1:w4.cell? (G k 1)=some (J p.key.num):=by rw[NB w4 _ _ _ _ _ b];rfl
   have p2:w4.cell? (G k 2)=some (F9 p.key.Ae):=by rw[NB w4 _ _ _ _ _ b];rfl
   have p3:w4.cell? (G k 3)=some (.string p.key.str):=by rw[NB w4 _ _ _ _ _ b];rfl
   have p4:w4.cell? (G k 4)=some (J p.key.ref):=by rw[NB w4 _ _ _ _ _ b];rfl
   have p5:w4.cell? (G k 5)=some (J p.val.kind):=by rw[NB w4 _ _ _ _ _ b];rfl
   have p6:w4.cell? (G k 6)=some (J p.val.num):=by rw[NB w4 _ _ _ _ _ b];rfl
   have p7:w4.cell? (G k 7)=some (F9 p.val.Ae):=by rw[NB w4 _ _ _ _ _ b];rfl
   have p8:w4.cell? (G k 8)=some (.string p.val.str):=by rw[NB w4 _ _ _ _ _ b];rfl
   have p9:w4.cell? (G k 9)=some (J p.val.ref):=by rw[NB w4 _ _ _ _ _ b];rfl
   have fY:w4.cell? (G k 10)=some (J p.turn):=by rw[NB w4 _ _ _ _ _ b];rfl
   obtain⟨w5,E,I⟩:=CC (HQ.below x (by omega)) (YM p);have ah:=O E;have ai:=O I;obtain⟨r0,r1,r2,r3,r4,r5,r6,r7,r8,r9,aj,ak⟩:=An.read I.BR;clear E I b;go_wp2_with (refine Ak rfl rfl _ ah ?_)
   refine DO (v:=.tuple #[DS (YM p),Bp 0]) (by simp[results,results144,go_sem,r0,r1,r2,r3,r4,r5,r6,r7,r8,r9,aj,ak,Bp]) rfl ⟨rfl,?_⟩;exact ai.below (HB.trans (x.mono HB.size)) (by omega)
section
section
variable {M:Nat} {s:AV}
theorem QL{n:Int}(a:0<=n)(h1:n<=1000000000000):0<=FC n/\FC n<=1000000000000:=by
 unfold FC
 split<;>omega
theorem Gg(d:Fg M s){i t:Nat}(hi:i<s.ns)(k:t<s.nt)(h:0<=Bg s i t):∃j q:Nat,(s.T t).shape=j/\j<s.nf/\Bg s i t=q/\q<(s.T t).nv/\BW s.F j (s.S i).key=q:=by
 obtain⟨_,_,_,_,_,hs⟩:=d.si i hi;unfold Bg at h ⊢;rcases(d.t t k).way with⟨e,_⟩|⟨j,e,hj,b,_⟩
 ·exfalso;rw[Cs (by unfold My;simp[e]),Cs (by omega)]at h;omega
 ·by_cases c:My s i t=true
  ·rw[C3 c]at h ⊢;have h2:(s.T t).shape=(s.S i).shape:=by unfold My at c;simp at c;exact c.2
   rcases hs with⟨h3,_⟩|⟨h3,h4,h5,l⟩
   ·omega
   ·rw[<-h2,e,show((j:Int)).toNat=j by omega]at l;rcases JK d.f hj (s.S i).key with a|⟨q,a,g⟩
    ·omega
    ·exact⟨j,q,e,hj,by omega,by rw[b];exact g,a⟩
  ·rw[Cs c,C3 (by omega),e,show((j:Int)).toNat=j by omega]at h ⊢;rcases JK d.f hj (s.S i).key with a|⟨q,a,g⟩
   ·omega
   ·exact⟨j,q,rfl,hj,a,by rw[b];exact g,a⟩
theorem P1.fN{t:Tb}{S':Nat->Si}{a:Nat}(h:P1 M s t):P1 M {s with ns:=a,S:=S'} t:=⟨h.way,h.wf,h.m⟩
theorem Ij(a:Fg M s){i t:Nat}(hi:i<s.ns)(d:t<s.nt):Fg M (Ba s i t):=by
 refine⟨a.f,a.nt,a.ns,fun q hq=>(a.t q hq).fN,fun q hq=>?_⟩;show Rr _ (AM s.S i (Ej s i t) q);by_cases e:q=i
 ·subst e;rw[Ah];obtain⟨h1,h2,h3,h4,h5,b⟩:=a.si q hi;have o1:=QL h2 h4;have o2:=QL h3 h5;unfold Ej
  split
  ·exact⟨h1,o1.1,h3,o1.2,h5,b⟩
  ·split
   ·rename_i g c
    refine⟨h1,h2,o2.1,h4,o2.2,.inr ⟨c.1,?_,c.2,rfl⟩⟩;rcases(a.t t d).way with⟨e,_⟩|⟨j,e,hj,_⟩
    ·omega
    ·show(s.T t).shape<(s.nf:Int);omega
   ·exact⟨h1,h2,o2.1,h4,o2.2,b⟩
 ·rw[Ag _ _ e];exact a.si q hq
theorem Iz(a:Fg M s){t:Nat}{x:Tb}(hx:P1 M s x):Fg M (Cg s t x):=by
 refine⟨a.f,a.nt,a.ns,fun q hq=>?_,a.si⟩;show P1 M _ (AM s.T t x q);by_cases e:q=t
 ·subst e;rw[Ah];exact⟨hx.way,hx.wf,hx.m⟩
 ·rw[Ag _ _ e];have h:=a.t q hq;exact⟨h.way,h.wf,h.m⟩
theorem Oe(b:Fg M s){j:Nat}(hj:j<s.nf){key:ByteArray}(hk:key.size<=4000)(c:BW s.F j key<0){r:Nat}(e:EN s.nf s.F j key=r):Ar (Em s.nf s.F j key) (C6 s.nf s.F j key)=0/\s.nf<=Em s.nf s.F j key/\(∀i,i<s.nf->C6 s.nf s.F j key i=s.F i)/\r<Em s.nf s.F j key/\NY (Em s.nf s.F j key) (C6 s.nf s.F j key) j key r:=by
 rcases Qr s.nf s.F j key with⟨q,h1,h2,h3,h4⟩|⟨h1,h2,h3,h4,h5⟩|⟨h1,h2,h3,h4,h5,d⟩
 ·rw[h3,h4];have:q=r:=by omega
  subst this;exact⟨b.f,A0 _,fun _ _=>rfl,h1.2.1,h1⟩
 ·omega
 ·rw[h5,d];have:r=s.nf:=by omega
  subst this;have a:0<s.nf:=by omega
  refine⟨RV b.f hj hk c h1 h2 h3,by omega,fun i hi=>C7 i hi,by omega,⟨a,by omega,?_,?_⟩⟩
  ·rw[Fj]
  ·rw[Fj]
theorem KE(s:AV)(x:Tb)(k v:Vl):
  (Ce s x k v=.no)\/
  (Ce s x k v=.DF/\0<=x.shape/\k.kind=4/\v.kind≠0/\0<=BW s.F x.shape.toNat k.str)\/
  (Ce s x k v=.grow/\0<=x.shape/\k.kind=4/\v.kind≠0/\BW s.F x.shape.toNat k.str<0/\0<=EN s.nf s.F x.shape.toNat k.str)\/
  (Ce s x k v=.loose/\0<=x.shape)\/(Ce s x k v=.Nw/\x.shape<0/\El x.d k v=false)\/(Ce s x k v=.full/\x.shape<0/\El x.d k v=true):=by
 unfold Ce
 split
 ·exact .inl rfl
 ·split
  ·rename_i a
   split
   ·rename_i h1
    split
    ·rename_i h2
     exact .inr (.inl ⟨rfl,a,h1.1,h1.2,h2⟩)
    ·rename_i h2
     split
     ·rename_i h3
      exact .inr (.inr (.inl ⟨rfl,a,h1.1,h1.2,by omega,h3⟩))
     ·exact .inr (.inr (.inr (.inl ⟨rfl,a⟩)))
   ·exact .inr (.inr (.inr (.inl ⟨rfl,a⟩)))
  ·rename_i a
   split
   ·rename_i h1
    exact .inr (.inr (.inr (.inr (.inr ⟨rfl,by omega,h1⟩))))
   ·rename_i h1
    exact .inr (.inr (.inr (.inr (.inl ⟨rfl,by omega,by simpa using h1⟩))))
theorem OG(c:Fg M s){t:Nat}(H:t<s.nt){k v:Vl}(hk:Ky k)(o:v.ok=true)(p:Wf v):Fg (M+4002) (BO s t k v):=by
 have b:=c.mono (Nat.le_add_right M 4002);have hx:=c.t t H;have w:k.kind=4->k.str.size<=4000:=fun h=>by
  have h1:=hk.1;unfold Db Vl.ok AB at h1;simp[h]at h1;omega
 unfold BO;rcases KE s (s.T t) k v with h|⟨h,u,h1,h2,h3⟩|⟨h,u,h1,h2,h3,h4⟩|⟨h,u⟩|⟨h,u,h1⟩|⟨h,u,h1⟩
 ·rw[h];exact b
 ·rw[h];rcases hx.way with⟨e,_⟩|⟨j,e,hj,g,hb,a⟩
  ·omega
  ·refine Iz b ⟨.inr ⟨j,e,hj,g,hb,fun i hi=>?_⟩,hx.wf,FZ hx.m (Nat.le_add_right _ _)⟩;show MQ (AM (s.T t).V _ v i)=true/\Wf (AM (s.T t).V _ v i);by_cases e2:i=(BW s.F (s.T t).shape.toNat k.str).toNat
   ·rw[e2,Ah];exact⟨by simp[MQ,o,h2],p⟩
   ·rw[Ag _ _ e2];exact a i hi
 ·rw[h];rcases hx.way with⟨e,_⟩|⟨j,e,hj,g,hb,a⟩
  ·omega
  ·have l:(s.T t).shape.toNat=j:=by omega
   rw[l]at h3 h4 ⊢;obtain⟨r,D⟩:∃r:Nat,EN s.nf s.F j k.str=r:=⟨(EN s.nf s.F j k.str).toNat,by omega⟩;obtain⟨g1,g2,g3,g4,g5⟩:=Oe c hj (w h1) h3 D;rw[D];obtain⟨_,I,K,_,_⟩:=Au c.f;obtain⟨_,p2,L,_,_⟩:=Au g1;have n:∀q,q<s.nf->nf (C6 s.nf s.F j k.str) q=nf s.F q:=fun q hq=>MP g3 hq
   refine⟨g1,c.nt,c.ns,fun q hq=>?_,fun q hq=>?_⟩
   ·show P1 _ _ (AM s.T t (CI (s.T t) (r:Int) v) q);by_cases e2:q=t
    ·subst e2;rw[Ah];refine⟨.inr ⟨r,rfl,g4,?_,hb,fun i hi=>?_⟩,hx.wf,FZ hx.m (Nat.le_add_right _ _)⟩
     ·show(s.T q).nv+1=nf (C6 s.nf s.F j k.str) r;rw[Pw p2 L g5,n j hj,g]
     ·show MQ (AM (s.T q).V (s.T q).nv v i)=true/\Wf (AM (s.T q).V (s.T q).nv v i);have hi:i<(s.T q).nv+1:=hi;by_cases e3:i=(s.T q).nv
      ·rw[e3,Ah];exact⟨by simp[MQ,o,h2],p⟩
      ·rw[Ag _ _ e3];exact a i (by omega)
    ·rw[Ag _ _ e2];have h5:=c.t q hq;refine⟨?_,h5.wf,FZ h5.m (Nat.le_add_right _ _)⟩;rcases h5.way with P|⟨i,a1,a2,a3,a4,a5⟩
     ·exact .inl P
     ·exact .inr ⟨i,a1,Be a2 g2,by rw[a3];exact(n i a2).symm,a4,a5⟩
   ·obtain⟨a1,a2,a3,a4,a5,x⟩:=c.si q hq;refine⟨a1,a2,a3,a4,a5,?_⟩;rcases x with x|⟨b1,b2,b3,b4⟩
    ·exact .inl x
    ·have A:(s.S q).shape.toNat<s.nf:=by omega
     refine .inr ⟨b1,by show(s.S q).shape<((Em s.nf s.F j k.str:Nat):Int);omega,b3,?_⟩;show BW (C6 s.nf s.F j k.str) (s.S q).shape.toNat (s.S q).key=(s.S q).place;rw[Ji I K g3 A];exact b4
 ·rw[h];rcases hx.way with⟨e,_⟩|⟨j,e,hj,g,hb,a⟩
  ·omega
  ·have l:(s.T t).shape.toNat=j:=by omega
   have B:=Gk c.f hj (W:=(s.T t).V) (fun q hq=>(a q (by omega)).1) (s.T t).nv (by omega);have C:∀i,i<=(s.T t).nv->Rp (Bc s.F j (s.T t).V i):=fun i=>by
    induction i with
    |zero=>exact fun _ q hq=>absurd hq (NO _)
    |succ i ih=>exact fun hi=>(ih (by omega)).put (F5 (Hk c.f hj (show i<nf s.F j by omega))).2 (a i (by omega)).2
   refine Iz b ⟨.inl ⟨rfl,rfl,?_⟩,?_,?_⟩
   ·show Inv Ky hN (CB hN (Bc s.F (s.T t).shape.toNat (s.T t).V (s.T t).nv) k v);rw[l];exact Gs BA B.ls.inv hk hk.1 o
   ·show Rp (CB hN (Bc s.F (s.T t).shape.toNat (s.T t).V (s.T t).nv) k v);rw[l];exact(C _ (A0 _)).put hk.2 p
   ·show(CB hN (Bc s.F (s.T t).shape.toNat (s.T t).V (s.T t).nv) k v).m<=_;rw[l];have:=Sz (v:=v) BA B.ls.inv hk;rw[B.m]at this;omega
 ·rw[h];rcases hx.way with⟨e,e2,E⟩|⟨j,e,_⟩
  ·refine Iz b ⟨.inl ⟨rfl,rfl,Gs BA E hk hk.1 o⟩,hx.wf.put hk.2 p,?_⟩;have:=Sz (v:=v) BA E hk;have:=hx.m;show(CB hN (s.T t).d k v).m<=_;omega
  ·omega
 ·rw[h];exact b
theorem Yl(a:Fg M s):P1 M s SL:=by
 obtain⟨h1,h2,_⟩:=Au a.f;refine⟨.inr ⟨0,rfl,by have:=h1.1;omega,?_,⟨rfl,rfl,rfl,rfl,rfl,rfl⟩,fun i hi=>absurd hi (NO _)⟩,fun q hq=>absurd hq (NO _),P9 _⟩;show 0=(s.F 0).count.toNat;rw[h2.2.2];rfl
theorem JE{v:Vl}(f:Wf v)(h:Cj v=0):Ky (Bw v):=by
 obtain⟨c,a,h1,h2⟩:=cI v f;rw[BI]at h1;have e:Cj v=c/\(Bw v).kind=a.kind/\(Bw v).num=a.num/\(Bw v).Ae=a.Ae/\(Bw v).str=a.str/\(Bw v).ref=a.ref:=by
  simp[KV]at h1;exact h1
 obtain⟨e0,e1,e2,e3,b,d⟩:=e;have g:Bw v=a:=by
  generalize Bw v=x at*;cases x;cases a;simp only at e1 e2 e3 b d;subst e1 e2 e3 b d;rfl
 rw[g];exact h2 (by omega)
theorem OM(c:Fg M s)(a:Ac)(n:Wf a.k)(g:Wf a.v):Fg (M+4002) (FH s a):=by
 have b:=c.mono (Nat.le_add_right M 4002);unfold FH
 split
 ·rename_i hc
  obtain⟨c1,c2,c3,c4⟩:=Eg hc;obtain⟨r1,r2,D,o,E,_,_⟩:=BX c1;unfold Df
  split
  ·split
   ·exact b
   ·rename_i h1 h2
    refine⟨c.f,by show s.nt+1<=100;have:=c.nt;omega,c.ns,fun i hi=>?_,c.si⟩;show P1 _ _ (AM s.T s.nt SL i);have hi:i<s.nt+1:=hi;by_cases e:i=s.nt
    ·rw[e,Ah];have:=Yl b;exact⟨this.way,this.wf,this.m⟩
    ·rw[Ag _ _ e];have:=b.t i (by omega);exact⟨this.way,this.wf,this.m⟩
  ·split
   ·split
    ·exact b
    ·rename_i h1 l h2
     have p:=J6 c1 l;refine⟨c.f,c.nt,by show s.ns+1<=50;have:=c.ns;omega,fun i hi=>(b.t i hi).fN,fun i hi=>?_⟩;show Rr _ (AM s.S s.ns _ i);have hi:i<s.ns+1:=hi;by_cases e:i=s.ns
     ·rw[e,Ah];exact⟨Yg D p,AaC _,AaC _,by show(0:Int)<=1000000000000;decide,by show(0:Int)<=1000000000000;decide,.inl ⟨rfl,rfl⟩⟩
     ·rw[Ag _ _ e];exact c.si i (by omega)
   ·split
    ·rename_i h1 l h2
     have x:=c2 (by simp[B7,h2]);exact OG c (by omega) (JE n (c4 (.inl h2))) o g
    ·split
     ·rename_i h1 l h2 r
      have x:=c2 (by simp[B7,r]);have hs:=c3 (by simp[Cp,r]);exact Ij b (by omega) (by omega)
     ·split
      ·rename_i h1 l h2 r A
       have x:=c2 (by simp[B7,A]);have hs:=c3 (by simp[Cp,A]);have hi:a.site.toNat<s.ns:=by omega
       have d:a.t.toNat<s.nt:=by omega
       have B:=Ij c hi d
       split
       ·rename_i h
        obtain⟨j,q,e1,e2,e3,F,H⟩:=Gg c hi d h.1;refine Iz (B.mono (Nat.le_add_right M 4002)) ?_;have hx:=b.t a.t.toNat d;rcases hx.way with⟨e,_⟩|⟨j',e,hj,u,hb,w⟩
        ·omega
        ·refine⟨.inr ⟨j',e,hj,u,hb,fun i hi=>?_⟩,hx.wf,hx.m⟩;show MQ (AM (s.T a.t.toNat).V _ a.v i)=true/\Wf (AM (s.T a.t.toNat).V _ a.v i);by_cases C:i=(Bg s a.site.toNat a.t.toNat).toNat
         ·rw[C,Ah];exact⟨by simp[MQ,o,h.2],g⟩
         ·rw[Ag _ _ C];exact w i hi
       ·exact OG B d (F5 (c.si _ hi).1) o g
      ·exact b
 ·exact b
end
end
end Go.Proofs.YtgmlkfgfjjggnaaGreatDoor
