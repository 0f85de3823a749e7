import Derived.Test.YtgmlkfgfjjggnaaGreatDoorSBF
import Derived.Test.YtgmlkfgfjjggnaaGreatDoorSBI
import Derived.Handy
set_option linter.unusedVariables false
set_option linter.unusedSimpArgs false
set_option maxHeartbeats 40000000
set_option maxRecDepth 100000
namespace Go.Proofs.YtgmlkfgfjjggnaaGreatDoor
section
open Go.RowKit
attribute [local go_sem] run_store_float run_equalIn_float run_store_func
theorem siR_one(f:Nat->Si):∀n,∀u∈siR f n,u.oneCell'=true
 |0,u,h=>by cases h
 |n+1,u,h=>by
  rcases List.mem_append.1 h with h|h
  ·exact siR_one f n u h
  ·simp only[siL,List.mem_cons,List.not_mem_nil,or_false]at h
   rcases h with h|h|h|h|h<;>(rw[h];rfl)
theorem SiAt.news{w:World}{a:Option Addr}{n:Nat}{f:Nat->Si}(h:SiAt w a n f):n=0\/∃ad,a=some ad/\∀j u,(siR f n)[j]?=some u->w.cell? (ad.add j)=some u:=by
 rcases h with h|⟨b,off,e,hlt,hc⟩
 ·exact .inl h
 ·refine .inr ⟨_,e,fun j u hu=>?_⟩
  have hadd:(⟨b,off,none⟩:Addr).add j=⟨b,off+j,none⟩:=by unfold Addr.add;split<;>simp_all
  rw[hadd]
  have hj:j<n*5:=by
   have:=(List.getElem?_eq_some_iff.1 hu).1
   rwa [siR_length]at this
  obtain⟨i,r,hi,hr,e⟩:∃i r,i<n/\r<5/\j=i*5+r:=⟨j/5,j%5,by omega,by omega,by omega⟩
  subst e
  rw[siR_get hi hr]at hu
  obtain⟨c0,c1,c2,c3,c4⟩:=hc i hi
  rw[<-Nat.add_assoc]
  rcases r with _|_|_|_|_|r
  all_goals first|(cases hu;assumption)|omega
theorem SiOwn.news{w:World}{B:Nat}{a:Option Addr}{n cp:Nat}{f:Nat->Si}(h:SiOwn w B (.slice a n cp) n f):n=0\/∃ad,a=some ad/\∀j u,(siR f n)[j]?=some u->w.cell? (ad.add j)=some u:=by
 obtain⟨hl,⟨hv,h0⟩|⟨g',cap,cur,hv,hb,hblk,h1,h2,h3,h4⟩⟩:=id h
 ·exact .inl h0
 ·cases hv
  refine .inr ⟨_,rfl,fun j u hu=>?_⟩
  have hj:j<n*5:=by
   have:=(List.getElem?_eq_some_iff.1 hu).1
   rwa [siR_length]at this
  have hadd:(⟨g',0,none⟩:Addr).add j=⟨g',j,none⟩:=by unfold Addr.add;split<;>simp_all
  rw[hadd,World.ownsRow.cellAt h j hj]
  exact hu
theorem SiV.of{f:Nat->Si}{n B:Nat}{w:World}{v:Value}(h:SiOwn w B v n f):SiV f n w v B w.heap.size:=by
 have hlt:=h.lt
 obtain⟨hl,⟨hv,h0⟩|⟨g',cap,cur,hv,hb,hblk,h1,h2,h3,h4⟩⟩:=h
 ·exact .inl ⟨h0,hv⟩
 ·subst hv
  refine .inr ⟨g',cap,cap*5,fun j=>(cur[j]?).getD undef,rfl,hb,(hlt g' rfl).2,⟨cur,hblk,h3,fun i hi=>by simp[Array.getElem?_eq_getElem (show i<cur.size by omega)]⟩,by omega,fun j hj=>?_⟩
  have h5:=siR_get (f:=f) (n:=n) (i:=j/5) (j:=j%5) (by omega) (by omega)
  rw[show j/5*5+j%5=j by omega,<-h4,List.getElem?_take,if_pos hj,Array.getElem?_toList]at h5
  show(cur[j]?).getD undef=_
  rw[h5]
  rfl
theorem GV.of{f:Nat->Shp}{n B:Nat}{w:World}{v:Value}(h:ShOwn w B v n f)(hn:0<n):GV f n w v B w.heap.size:=by
 have hlt:=h.lt
 obtain⟨hl,⟨hv,h0⟩|⟨g',cap,cur,hv,hb,hblk,h1,h2,h3,h4⟩⟩:=id h
 ·exact .inl ⟨h0,hv⟩
 ·subst hv
  obtain⟨k1,k2⟩:=ShOwn.in h
  exact .inr ⟨hn,g',cap,rfl,k1,(hlt g' rfl).2,k2⟩
def HeldOw(bx:Nat)(vN vT:Value)(W:World):Prop:=W.cell? ⟨bx,0,none⟩=some vN/\W.cell? ⟨bx,1,none⟩=some vT
theorem openWork_any(B0:Nat)(na:Option Addr)(nn nc:Nat)(ta:Option Addr)(tn tc:Nat)(sa:Option Addr)(sc:Nat)(Bk:Nat->Nat)(A:Nat->Ad)(s:Sto)(w:World)(hB:B0<=w.heap.size)(hns:s.ns<=50)(hn:NdOwn w B0 (.slice na nn nc) s.nf Bk)(hnd:NdS w s B0 Bk)(ht:TbOwn w B0 (.slice ta tn tc) s.nt Bk A s)(hS:SiAt w sa s.ns s.S)(hr:∀w' (O:Nat->Prop),Below w.heap.size w w'->(∀k,O k->B0<=k)->∀i,i<s.nt->Rd O w' (A i) (s.T i)):
  Calls Tryz.prog 56 #[.agg #[.slice na nn nc,.slice ta tn tc],.slice sa s.ns sc] w fun e w'=>(∃c vS,e=.returned (.pointer (some ⟨c,0,none⟩))/\WkM (fun _=>False) w' c B0 (.slice na nn nc) (.slice ta tn tc) vS (.slice none 0 0) Bk A s)/\Below w.heap.size w w':=by
 obtain⟨i0,hi0,hz0,hz1,hz2⟩:=info_parts infoSite
 obtain⟨W,hW⟩:∃W,W=w.alloc (.cells #[.slice na nn nc,.slice ta tn tc] 118):=⟨_,rfl⟩
 have hbW:Below w.heap.size w W:=by rw[hW];exact(Below.refl _ _).alloc (Nat.le_refl _) _
 have hzW:W.heap.size=w.heap.size+1:=by rw[hW];simp
 have x0:W.cell? ⟨w.heap.size,0,none⟩=some (.slice na nn nc):=by rw[hW];simp[go_sem]
 have x1:W.cell? ⟨w.heap.size,1,none⟩=some (.slice ta tn tc):=by rw[hW];simp[go_sem]
 have hS0:HeldOw w.heap.size (.slice na nn nc) (.slice ta tn tc) W.drew:=⟨x0,x1⟩
 have HNW:=uy (SiAt.news (hS.below hbW rfl))
 have HF:Hid (∀a3 c3 w3,w3.ownsRow B0 103 5 (.slice a3 s.ns c3) s.ns (siR s.S s.ns)->W.drew.grownBy w3 none->(∀q,(Value.slice a3 s.ns c3).ownBlock=some q->q=w.heap.size+1)->
   HeldOw w.heap.size (.slice na nn nc) (.slice ta tn tc) w3/\HeldOw w.heap.size (.slice na nn nc) (.slice ta tn tc) (w3.alloc (.cells #[.slice na nn nc,.slice ta tn tc,.slice a3 s.ns c3,.slice none 0 0] 198))/\WkM (fun _=>False) (w3.alloc (.cells #[.slice na nn nc,.slice ta tn tc,.slice a3 s.ns c3,.slice none 0 0] 198)) w3.heap.size B0 (.slice na nn nc) (.slice ta tn tc) (.slice a3 s.ns c3) (.slice none 0 0) Bk A s/\Below w.heap.size w (w3.alloc (.cells #[.slice na nn nc,.slice ta tn tc,.slice a3 s.ns c3,.slice none 0 0] 198))):=uy (by
  intro a3 c3 w3 h1 h2 h3
  have hk:∀k,k<W.heap.size->w3.heap[k]?=W.heap[k]?:=fun k hk=>h2.block k hk (by simp)
  have hz3:W.heap.size<=w3.heap.size:=h2.size
  have hB3:Below w.heap.size w w3:=⟨h2.os.trans hbW.os,h2.tape.trans hbW.tape,h2.output.trans hbW.output,by omega,fun k hk'=>(hk k (by omega)).trans (hbW.block k hk')⟩
  have hB4:Below w.heap.size w (w3.alloc (.cells #[.slice na nn nc,.slice ta tn tc,.slice a3 s.ns c3,.slice none 0 0] 198)):=hB3.alloc (by omega) _
  have y0:HeldOw w.heap.size (.slice na nn nc) (.slice ta tn tc) w3:=⟨(World.cell?_of_block (a:=⟨w.heap.size,0,none⟩) (hk w.heap.size (by omega))).trans x0,(World.cell?_of_block (a:=⟨w.heap.size,1,none⟩) (hk w.heap.size (by omega))).trans x1⟩
  obtain⟨N,M,hn1,hn2⟩:=hnd
  refine⟨y0,⟨(World.cell?_of_block (a:=⟨w.heap.size,0,none⟩) (Deep.blk_alloc_lt _ _ w.heap.size (by omega))).trans y0.1,(World.cell?_of_block (a:=⟨w.heap.size,1,none⟩) (Deep.blk_alloc_lt _ _ w.heap.size (by omega))).trans y0.2⟩,⟨Deep.blk_alloc_new _ _,by omega,own_belowK hn hB4,⟨N,M,hn1.below hB4,hn2⟩,own_belowK ht hB4,World.ownsRow.alloc h1 _,⟨_,_,_,rfl⟩,fun k e=>e.elim,fun i hi=>?_⟩,hB4⟩
  refine hr _ _ hB4 (fun k e=>?_) i hi
  rcases e with e|e
  ·rcases e with e|e|e|e|⟨e,_⟩
   ·omega
   ·exact(hn.lt k e).1
   ·exact(ht.lt k e).1
   ·exact(h1.lt k e).1
   ·exact e
  ·exact e.elim)
 have hzz:B0<=W.heap.size:=by omega
 clear hn hnd ht hS hr x0 x1 hbW
 go_enter Tryz.func56,Tryz.ntmps56
 go_wp2_with fail
 rw[<-hW]
 clear hW
 refine wpN_held (HeldOw w.heap.size (.slice na nn nc) (.slice ta tn tc)) (by kernel_rfl) ?_
 change wpAnyH _ _ _ _ _ _ _ _ (World.drew _)
 refine tq 0 (v:=?_) ?_ ?_;rotate_left;intro w' ⟨s0,s1⟩;go_simp;try with_reducible rfl
 simp only[Act.put,sA,sB,sC]
 refine tq 1 (v:=?_) ?_ ?_;rotate_left;intro w' ⟨s0,s1⟩;go_simp;try with_reducible rfl
 simp only[Act.put,sA,sB,sC]
 refine wpAnyH_ready (rs:=[2]) (by kernel_rfl) (by simp) ?_
 refine AllReadyH.cons rfl (fun K hK=>?_) AllReadyH.nil
 refine step_append_copy _ rfl (.const (.slice none 0 0)) (.tmp 6) 40 rfl B0 103 i0 (.agg #[.string ⟨#[]⟩,.int .i64 0,.int .i64 0,.int .i64 0,.int .i64 0]) 5 48 Tryz.underlying40 hi0 hz0 hz1 hz2 rfl (by decide) (by simp[Act.eval]) sa s.ns sc (siR s.S s.ns) (by simp[Act.eval]) (siR_length _ _) (uh HNW) (siR_one _ _) (by unfold maxLen;omega) (by omega) hzz (w.heap.size+1) hzW ?_
 intro a3 c3 w3 hown3 hgr3 hloc3
 obtain⟨hS3,hS4,hM4,hB4⟩:=uh HF a3 c3 w3 hown3 hgr3 hloc3
 have HM:=uy (And.intro hM4 hB4)
 refine hK.out _ _ hS3 (fun _=>?_)
 clear hK K hown3 hgr3 hloc3 hM4 hB4
 simp only[Act.put,List.getElem_toArray,List.getElem_cons_succ,List.getElem_cons_zero,List.setIfInBounds_toArray,List.set_cons_succ,List.set_cons_zero]
 refine tq 3 (v:=?_) ?_ ?_;rotate_left;intro w' ⟨s0,s1⟩;go_simp;try with_reducible rfl
 (try simp only[Act.put]);(try simp only[List.setIfInBounds_toArray]);(try simp only[List.set_cons_succ]);try simp only[List.set_cons_zero]
 refine wpAnyH_ready (rs:=[4]) (by kernel_rfl) (by simp) ?_
 refine AllReadyH.cons rfl (fun K hK=>?_) AllReadyH.nil
 go_simp
 refine hK.out _ _ hS4 (fun _=>?_)
 clear hK K
 refine tq 5 (v:=?_) ?_ ?_;rotate_left;intro w' ⟨s0,s1⟩;go_simp;try with_reducible rfl
 (try simp only[Act.put]);(try simp only[List.setIfInBounds_toArray]);(try simp only[List.set_cons_succ]);try simp only[List.set_cons_zero]
 refine wpAnyH_done (by kernel_rfl) ?_ _
 refine QN.normal ?_
 go_wp2_with fail
 refine bodyPost_ret (v:=.pointer (some ⟨w3.heap.size,0,none⟩)) (by simp[results,Tryz.results56,go_sem]) rfl ⟨⟨_,_,rfl,(uh HM).1⟩,(uh HM).2⟩
end
section
open Go.RowKit
attribute [local go_sem] run_store_float run_equalIn_float run_store_func
theorem sz_store(w:World):(sizeOf 42).run Tryz.prog w=.ok 3 w:=by kernel_rfl
theorem info3:(Tryz.prog.info? 42).map (·.size)=some 3:=by kernel_rfl
abbrev St0:Array Value:=#[.slice none 0 0,.slice none 0 0,.slice none 0 0]
theorem kind_table{s:Sto}{B0:Nat}{Bk:Nat->Nat}{A:Ad}{x:Tb}(hf:forestOk s.nf s.F=0)(hx:TGd s x):
  (kindV Bk A x=.iface 239 (HdA A x)/\∀w,NdS w s B0 Bk->VAt w A.va x.nv x.V->DAt w A.la A.ia A.xa x.d->Calls Tryz.prog 352 #[HdA A x] w fun e w'=>TabP x w e w')\/
  (∃p,kindV Bk A x=.iface 236 (ShdA p A x)/\∀w,NdS w s B0 Bk->VAt w A.va x.nv x.V->DAt w A.la A.ia A.xa x.d->Calls Tryz.prog 345 #[ShdA p A x] w fun e w'=>TabP x w e w'):=by
 rcases hx.way with⟨h1,h2,h3⟩|⟨j,h1,h2,h3,h4,h5⟩
 ·exact .inl ⟨if_pos h1,fun w _ _ hd=>unshapedTable_any A x w h1 h2 hd hx.small⟩
 ·refine .inr ⟨Bk j,?_,fun w hn hv _=>shapedTable_any A x s B0 Bk j w hn h2 h1 (TGd.nv hx hf) h4 hv⟩
  unfold kindV
  rw[if_neg (by omega),h1]
  rfl
structure SWay (w:World) (b:Nat) (vF vT vS:Value) (s:Sto) (n k:Nat) (H:Nat->Hs) (L:Nat->Nat) (wr:World):Prop where
 box:wr.heap[b]?=some (.cells #[vF,vT,vS] 42 (0,0))
 res:wr.heap[w.heap.size]?=some (.cells St0 42 (0,0))
 lt:w.heap.size<b
 bel:Below w.heap.size w wr
 f:ShOwn wr w.heap.size vF n s.F
 si:SiOwn wr w.heap.size vS s.ns s.S
 t:wr.ownsRow w.heap.size 94 8 vT k (rwL (fun i=>tbL (H i) (s.T i)) k)
 rows:∀i,i<k->TbR (L i) (L (i+1)) wr (H i) (s.T i)
 lo:w.heap.size<=L 0
 mono:∀i,i<k->L i<=L (i+1)
 hi:L k<=wr.heap.size
theorem PrV.type{f:Nat->Pr}{n:Nat}{w:World}{v:Value}{lo hi:Nat}(h:PrV f n w v lo hi){b:Nat}(e:v.ownBlock=some b):∃cs,w.heap[b]?=some (.cells cs 96 (0,0)):=by
 rcases h with⟨_,rfl⟩|⟨b',cp,N,g,rfl,h2,h3,⟨c,hc,_⟩,_⟩
 ·cases e
 ·cases e;exact⟨_,hc⟩
theorem VlV.type{f:Nat->Vl}{n:Nat}{w:World}{v:Value}{lo hi:Nat}(h:VlV f n w v lo hi){b:Nat}(e:v.ownBlock=some b):∃cs,w.heap[b]?=some (.cells cs 43 (0,0)):=by
 rcases h with⟨_,rfl⟩|⟨b',cp,N,g,rfl,h2,h3,⟨c,hc,_⟩,_⟩
 ·cases e
 ·cases e;exact⟨_,hc⟩
theorem InV.type{f:Nat->Int}{n:Nat}{w:World}{v:Value}{lo hi:Nat}(h:InV f n w v lo hi){b:Nat}(e:v.ownBlock=some b):∃cs,w.heap[b]?=some (.cells cs 3 (0,0)):=by
 rcases h with⟨_,rfl⟩|⟨b',cp,N,g,rfl,h2,h3,⟨c,hc,_⟩,_⟩
 ·cases e
 ·cases e;exact⟨_,hc⟩
theorem TbR.type{lo hi:Nat}{w:World}{h:Hs}{t:Tb}(H:TbR lo hi w h t){q:Nat}(e:h.own q):∃cs ty,w.heap[q]?=some (.cells cs ty (0,0))/\(ty=43\/ty=96\/ty=3):=by
 rcases e with e|e|e|e
 ·obtain⟨cs,h⟩:=H.v.type e;exact⟨cs,_,h,.inl rfl⟩
 ·obtain⟨cs,h⟩:=H.l.type e;exact⟨cs,_,h,.inr (.inl rfl)⟩
 ·obtain⟨cs,h⟩:=H.i.type e;exact⟨cs,_,h,.inr (.inr rfl)⟩
 ·obtain⟨cs,h⟩:=H.x.type e;exact⟨cs,_,h,.inr (.inr rfl)⟩
section
variable {w:World} {b:Nat} {vF vT vS:Value} {s:Sto} {n k:Nat} {H:Nat->Hs} {L:Nat->Nat} {wr w' X w3:World}
theorem SWay.below(h:SWay w b vF vT vS s n k H L wr)(hb:Below wr.heap.size wr w'):SWay w b vF vT vS s n k H L w':=
 ⟨(hb.block _ (blk_lt h.box)).trans h.box,(hb.block _ (blk_lt h.res)).trans h.res,h.lt,h.bel.trans (hb.mono h.bel.size),own_belowK h.f hb,own_belowK h.si hb,own_belowK h.t hb,fun i hi=>(h.rows i hi).keep (fun q e=>hb.block q ((h.rows i hi).own e).2.2),h.lo,h.mono,Nat.le_trans h.hi hb.size⟩
theorem SWay.shape(h:SWay w b vF vT vS s n k H L wr)(hX:Below wr.heap.size wr X)(hg:X.grownBy w3 vF.ownBlock){g3 cp3:Nat}(hown:w3.ownsRow w.heap.size 205 3 (.slice (some ⟨g3,0,none⟩) (n+1) cp3) (n+1) (shL s.F n++[.int .i64 (s.F n).parent,.string (s.F n).key,.int .i64 (s.F n).count]))(hloc:vF.ownBlock=some g3\/X.heap.size<=g3):
  w3.heap[b]?=some (.cells #[vF,vT,vS] 42 (0,0))/\SWay w b (.slice (some ⟨g3,0,none⟩) (n+1) cp3) vT vS s (n+1) k H L (w3.setCell ⟨b,0,none⟩ (.slice (some ⟨g3,0,none⟩) (n+1) cp3)):=by
 have hx:=h.below hX
 have kt:∀(q:Nat) (cs:Array Value) (ty:TypeId),X.heap[q]?=some (Obj.cells cs ty (0,0))->ty≠205->w3.heap[q]?=X.heap[q]?:=fun q cs ty hq ht=>hg.block q (blk_lt hq) (fun e=>by
  obtain⟨cur,hc,_⟩:=own_blk hx.f e.symm
  rw[hc]at hq
  cases hq
  exact ht rfl)
 have o:∀q,q≠b->(w3.setCell ⟨b,0,none⟩ (.slice (some ⟨g3,0,none⟩) (n+1) cp3)).heap[q]?=w3.heap[q]?:=fun q hq=>Deep.blk_setCell_other _ _ _ _ (by exact hq)
 have hb3:=(kt _ _ _ hx.box (by decide)).trans hx.box
 have hlb:=blk_lt hx.box
 have hgb:g3≠b:=fun e=>by
  rcases hloc with h1|h1
  ·obtain⟨cur,hc,_⟩:=own_blk hx.f h1
   rw[e,hx.box]at hc
   cases hc
  ·omega
 have ho:∀{e z m:Nat} {v:Value} {xs:List Value},X.ownsRow w.heap.size e z v m xs->e≠205->e≠42->(w3.setCell ⟨b,0,none⟩ (.slice (some ⟨g3,0,none⟩) (n+1) cp3)).ownsRow w.heap.size e z v m xs:=fun hr h1 h2=>own_keep hr (fun q e=>by
  obtain⟨cur,hc,_⟩:=own_blk hr e
  exact(o q (fun e'=>by rw[e',hx.box]at hc;cases hc;exact h2 rfl)).trans (kt _ _ _ hc h1))
 have hz:=hg.size
 refine⟨hb3,⟨(heap_setCell_same _ _ _ _ _ _ hb3).trans (by simp),(o _ (by have:=h.lt;omega)).trans ((kt _ _ _ hx.res (by decide)).trans hx.res),h.lt,?_,?_,ho hx.si (by decide) (by decide),ho hx.t (by decide) (by decide),fun i hi=>(hx.rows i hi).keep (fun q e=>?_),h.lo,h.mono,by have:=hx.hi;simp;omega⟩⟩
 ·refine Below.setCell ?_ (by show w.heap.size<=b;have:=h.lt;omega) _
  exact⟨hg.os.trans hx.bel.os,hg.tape.trans hx.bel.tape,hg.output.trans hx.bel.output,by have:=hx.bel.size;omega,fun q hq=>(hg.block q (by have:=hx.bel.size;omega) (fun e=>by have:=(hx.f.lt q e.symm).1;omega)).trans (hx.bel.block q hq)⟩
 ·rw[shL_snoc s.F n (s.F n) rfl]at hown
  exact own_keep hown (fun q e=>o q (by cases e;exact hgb))
 ·obtain⟨cs,ty,hc,hty⟩:=(hx.rows i hi).type e
  refine(o q (fun e'=>?_)).trans (kt _ _ _ hc ?_)
  ·rw[e',hx.box]at hc
   cases hc
   rcases hty with h|h|h<;>cases h
  ·rcases hty with rfl|rfl|rfl<;>decide
theorem SWay.table(h:SWay w b vF vT vS s n k H L wr)(hX:Below wr.heap.size wr X){hh:Hs}(hR:TbR wr.heap.size X.heap.size X hh (s.T k))(hg:X.grownBy w3 vT.ownBlock){g3 cp3:Nat}(hown:w3.ownsRow w.heap.size 94 8 (.slice (some ⟨g3,0,none⟩) (k+1) cp3) (k+1) (rwL (fun i=>tbL (H i) (s.T i)) k++tbL hh (s.T k)))(hloc:vT.ownBlock=some g3\/X.heap.size<=g3):
  w3.heap[b]?=some (.cells #[vF,vT,vS] 42 (0,0))/\SWay w b vF (.slice (some ⟨g3,0,none⟩) (k+1) cp3) vS s n (k+1) (up1 H k hh) (fun i=>if i<=k then(if i=k then wr.heap.size else L i)else X.heap.size) (w3.setCell ⟨b,1,none⟩ (.slice (some ⟨g3,0,none⟩) (k+1) cp3)):=by
 have hx:=h.below hX
 have kt:∀(q:Nat) (cs:Array Value) (ty:TypeId),X.heap[q]?=some (Obj.cells cs ty (0,0))->ty≠94->w3.heap[q]?=X.heap[q]?:=fun q cs ty hq ht=>hg.block q (blk_lt hq) (fun e=>by
  obtain⟨cur,hc,_⟩:=own_blk hx.t e.symm
  rw[hc]at hq
  cases hq
  exact ht rfl)
 have o:∀q,q≠b->(w3.setCell ⟨b,1,none⟩ (.slice (some ⟨g3,0,none⟩) (k+1) cp3)).heap[q]?=w3.heap[q]?:=fun q hq=>Deep.blk_setCell_other _ _ _ _ (by exact hq)
 have hb3:=(kt _ _ _ hx.box (by decide)).trans hx.box
 have hlb:=blk_lt hx.box
 have hgb:g3≠b:=fun e=>by
  rcases hloc with h1|h1
  ·obtain⟨cur,hc,_⟩:=own_blk hx.t h1
   rw[e,hx.box]at hc
   cases hc
  ·omega
 have ho:∀{e z m:Nat} {v:Value} {xs:List Value},X.ownsRow w.heap.size e z v m xs->e≠94->e≠42->(w3.setCell ⟨b,1,none⟩ (.slice (some ⟨g3,0,none⟩) (k+1) cp3)).ownsRow w.heap.size e z v m xs:=fun hr h1 h2=>own_keep hr (fun q e=>by
  obtain⟨cur,hc,_⟩:=own_blk hr e
  exact(o q (fun e'=>by rw[e',hx.box]at hc;cases hc;exact h2 rfl)).trans (kt _ _ _ hc h1))
 have hz:=hg.size
 have hrk:∀{lo hi:Nat} {hq:Hs} {t:Tb},TbR lo hi X hq t->TbR lo hi (w3.setCell ⟨b,1,none⟩ (.slice (some ⟨g3,0,none⟩) (k+1) cp3)) hq t:=fun hr=>hr.keep (fun q e=>by
  obtain⟨cs,ty,hc,hty⟩:=hr.type e
  refine(o q (fun e'=>?_)).trans (kt _ _ _ hc ?_)
  ·rw[e',hx.box]at hc
   cases hc
   rcases hty with h|h|h<;>cases h
  ·rcases hty with rfl|rfl|rfl<;>decide)
 refine⟨hb3,⟨(heap_setCell_same _ _ _ _ _ _ hb3).trans (by simp),(o _ (by have:=h.lt;omega)).trans ((kt _ _ _ hx.res (by decide)).trans hx.res),h.lt,?_,ho hx.f (by decide) (by decide),ho hx.si (by decide) (by decide),?_,fun i hi=>?_,?_,fun i hi=>?_,?_⟩⟩
 ·refine Below.setCell ?_ (by show w.heap.size<=b;have:=h.lt;omega) _
  exact⟨hg.os.trans hx.bel.os,hg.tape.trans hx.bel.tape,hg.output.trans hx.bel.output,by have:=hx.bel.size;omega,fun q hq=>(hg.block q (by have:=hx.bel.size;omega) (fun e=>by have:=(hx.t.lt q e.symm).1;omega)).trans (hx.bel.block q hq)⟩
 ·have e:rwL (fun i=>tbL (up1 H k hh i) (s.T i)) (k+1)=rwL (fun i=>tbL (H i) (s.T i)) k++tbL hh (s.T k):=by
   rw[rwL,up1_self,rwL_congr (f:=fun i=>tbL (up1 H k hh i) (s.T i)) (g:=fun i=>tbL (H i) (s.T i)) (fun i hi=>by rw[up1_other _ _ (by omega)])]
  rw[e]
  exact own_keep hown (fun q e=>o q (by cases e;exact hgb))
 ·by_cases e:i=k
  ·subst e
   rw[up1_self,if_pos (Nat.le_refl _),if_pos rfl,if_neg (by omega)]
   exact hrk hR
  ·rw[up1_other _ _ e,if_pos (by omega),if_neg e]
   have h1:=hrk (hx.rows i (by omega))
   by_cases e2:i+1=k
   ·rw[if_pos (by omega),if_pos e2]
    have:=h.hi
    rw[<-e2]at this
    exact h1.wide (Nat.le_refl _) this
   ·rw[if_pos (by omega),if_neg e2]
    exact h1
 ·show w.heap.size<=if 0<=k then(if 0=k then wr.heap.size else L 0)else X.heap.size
  rw[if_pos (Nat.zero_le _)]
  split
  ·exact h.bel.size
  ·exact h.lo
 ·have hhi:=h.hi
  show(if i<=k then(if i=k then wr.heap.size else L i)else X.heap.size)<=(if i+1<=k then(if i+1=k then wr.heap.size else L (i+1))else X.heap.size)
  rw[if_pos (by omega)]
  by_cases e:i=k
  ·rw[if_pos e,if_neg (by omega)]
   exact hX.size
  ·rw[if_neg e,if_pos (by omega)]
   by_cases e2:i+1=k
   ·rw[if_pos e2]
    have h3:=h.mono i (by omega)
    rw[e2]at h3
    omega
   ·rw[if_neg e2]
    exact h.mono i (by omega)
 ·show(if k+1<=k then(if k+1=k then wr.heap.size else L (k+1))else X.heap.size)<=_
  rw[if_neg (by omega)]
  simp
  omega
theorem SWay.whole(h:SWay w b vF vT vS s s.nf s.nt H L wr)(hn:0<s.nf){w4:World}(hst:Stored wr w4 w.heap.size #[vF,vT,vS] 42):SOw w.heap.size w4.heap.size w4 vF vT vS s H/\Below w.heap.size w w4:=by
 have ho:∀{e z m:Nat} {v:Value} {xs:List Value},wr.ownsRow w.heap.size e z v m xs->e≠42->w4.ownsRow w.heap.size e z v m xs:=fun hr h1=>own_keep hr (fun q e=>by
  obtain⟨cur,hc,_⟩:=own_blk hr e
  exact hst.other q (fun e'=>by rw[e',h.res]at hc;cases hc;exact h1 rfl))
 have hrk:∀i,i<s.nt->TbR (L i) (L (i+1)) w4 (H i) (s.T i):=fun i hi=>(h.rows i hi).keep (fun q e=>hst.other q (fun e'=>by
  obtain⟨cs,ty,hc,hty⟩:=(h.rows i hi).type e
  rw[e',h.res]at hc
  cases hc
  rcases hty with h|h|h<;>cases h))
 have hmono:∀i j,i<=j->j<=s.nt->L i<=L j:=fun i j hij=>by
  induction j with
  |zero=>
   intro _
   have:i=0:=by omega
   subst this;exact Nat.le_refl _
  |succ j ih=>
   intro hj
   by_cases e:i=j+1
   ·subst e;exact Nat.le_refl _
   ·exact Nat.le_trans (ih (by omega) (by omega)) (h.mono j (by omega))
 have hwide:∀i,i<s.nt->TbR w.heap.size w4.heap.size w4 (H i) (s.T i):=fun i hi=>(hrk i hi).wide (Nat.le_trans h.lo (hmono 0 i (Nat.zero_le _) (by omega))) (by
  rw[hst.size]
  exact Nat.le_trans (hmono (i+1) s.nt (by omega) (Nat.le_refl _)) h.hi)
 have hT:=ho h.t (by decide)
 have hF:=ho h.f (by decide)
 have hS:=ho h.si (by decide)
 have tt:∀i q,i<s.nt->(H i).own q->∀{e z m:Nat} {v:Value} {xs:List Value},w4.ownsRow w.heap.size e z v m xs->e≠43->e≠96->e≠3->v.ownBlock≠some q:=fun i q hi hq e z m v xs hr h1 h2 h3 he=>by
  obtain⟨cs,ty,hc,hty⟩:=(hrk i hi).type hq
  obtain⟨cur,hc',_⟩:=own_blk hr he
  rw[hc]at hc'
  cases hc'
  rcases hty with h|h|h
  ·exact h1 h
  ·exact h2 h
  ·exact h3 h
 have hapart:∀i j q,i<s.nt->j<s.nt->(H i).own q->(H j).own q->i=j:=fun i j q hi hj h1 h2=>by
  have a1:=(hrk i hi).own h1
  have a2:=(hrk j hj).own h2
  rcases Nat.lt_trichotomy i j with h3|h3|h3
  ·have:=hmono (i+1) j (by omega) (by omega);omega
  ·exact h3
  ·have:=hmono (j+1) i (by omega) (by omega);omega
 refine⟨⟨GV.of hF hn,?_,SiV.of hS,fun q e=>own_ne hF hT (by decide) e,fun q e=>own_ne hF hS (by decide) e,fun q i e hi he=>tt i q hi he hF (by decide) (by decide) (by decide) e,fun q e=>own_ne hS hT (by decide) e,fun q i e hi he=>tt i q hi he hS (by decide) (by decide) (by decide) e⟩,hst.below h.bel (Nat.le_refl _)⟩
 have hlt:=hT.lt
 obtain⟨hl,⟨hv,h0⟩|⟨g',cap,cur,hv,hb,hblk,h1,h2,h3,h4⟩⟩:=id hT
 ·exact .inl ⟨h0,hv⟩
 ·subst hv
  refine .inr ⟨g',cap,cap*8,fun j=>(cur[j]?).getD undef,rfl,hb,(hlt g' rfl).2,⟨cur,hblk,h3,fun i hi=>by simp[Array.getElem?_eq_getElem (show i<cur.size by omega)]⟩,by omega,fun i hi=>?_,⟨fun i hi he=>tt i g' hi he hT (by decide) (by decide) (by decide) rfl,hapart,fun i q hi=>(hrk i hi).vl q,fun i q hi=>(hrk i hi).vi q,fun i q hi=>(hrk i hi).vx q,fun i q hi=>(hrk i hi).li q,fun i q hi=>(hrk i hi).lx q,fun i q hi=>(hrk i hi).ix q⟩⟩
  have hc:∀j u,(tbL (H i) (s.T i))[j]?=some u->w4.cell? ⟨g',i*8+j,none⟩=some u:=fun j u hu=>by
   have hj:j<8:=(List.getElem?_eq_some_iff.1 hu).1
   rw[World.ownsRow.cellAt hT (i*8+j) (by omega),rwL_get (m:=8) (fun _=>rfl) hi hj,hu]
  have hR:=hwide i hi
  exact⟨hc 0 _ rfl,hc 1 _ rfl,hc 2 _ rfl,hc 3 _ rfl,hc 4 _ rfl,hc 5 _ rfl,hc 6 _ rfl,hc 7 _ rfl,hR.v,hR.l,hR.i,hR.x⟩
end
end
section
open Go.RowKit
attribute [local go_sem] run_store_float run_equalIn_float run_store_func
def HeldSh(nb:Nat)(p:Shp)(W:World):Prop:=W.cell? ⟨nb,1,none⟩=some (.int .i64 p.parent)/\W.cell? ⟨nb,2,none⟩=some (.string p.key)/\W.cell? ⟨nb,3,none⟩=some (.int .i64 p.count)
theorem HeldSh.keep{nb:Nat}{p:Shp}{W W':World}(h:HeldSh nb p W)(hk:W'.heap[nb]?=W.heap[nb]?):HeldSh nb p W':=
 ⟨(World.cell?_of_block (a:=⟨nb,1,none⟩) hk).trans h.1,(World.cell?_of_block (a:=⟨nb,2,none⟩) hk).trans h.2.1,(World.cell?_of_block (a:=⟨nb,3,none⟩) hk).trans h.2.2⟩
def HeldAny(_:World):Prop:=True
theorem NdS.shape{w:World}{s:Sto}{b0:Nat}{B:Nat->Nat}(h:NdS w s b0 B){j:Nat}(hj:j<s.nf):HeldSh (B j) (s.F j) w/\∃cs,w.heap[B j]?=some (.cells cs 208 (0,0)):=by
 obtain⟨N,M,h1,h2⟩:=h
 have hr:=h1.node j hj (h2 j hj)
 refine⟨⟨hr.cell (i:=1) (by omega),hr.cell (i:=2) (by omega),hr.cell (i:=3) (by omega)⟩,?_⟩
 obtain⟨c,hc,_⟩:=hr
 exact⟨c,hc⟩
theorem WkM.nform{Z:Nat->Prop}{w:World}{c B0:Nat}{vN vT vS vU:Value}{Bk:Nat->Nat}{A:Nat->Ad}{s:Sto}(h:WkM Z w c B0 vN vT vS vU Bk A s)(hn:0<s.nf):∃g cp,vN=.slice (some ⟨g,0,none⟩) s.nf cp/\g<w.heap.size/\∀i,i<s.nf->w.cell? ⟨g,i,none⟩=some (.pointer (some ⟨Bk i,0,none⟩)):=by
 obtain⟨hl,⟨hv,h0⟩|⟨g,cap,cur,hv,hb,hblk,h1,h2,h3,h4⟩⟩:=h.n
 ·omega
 ·exact⟨g,cap,hv,(Array.getElem?_eq_some_iff.1 hblk).1,fun i hi=>by rw[World.ownsRow.cellAt (hv▸h.n) i (by omega),ptrs_get hi]⟩
theorem wStore_any(Z:Nat->Prop)(c B0:Nat)(vN vT vS vU:Value)(Bk:Nat->Nat)(A:Nat->Ad)(s:Sto)(w:World)(hM:WkM Z w c B0 vN vT vS vU Bk A s)(hG:SGd s):
  Calls Tryz.prog 58 #[.pointer (some ⟨c,0,none⟩)] w fun e w'=>(∃vF vT' vS' H,e=.returned (.agg #[vF,vT',vS'])/\SOw w.heap.size w'.heap.size w' vF vT' vS' s H)/\Below w.heap.size w w':=by
 obtain⟨i0,hi0,hz0,hz1,hz2⟩:=info_parts infoSite
 obtain⟨k0,hk0,kz0,kz1,kz2⟩:=info_parts infoShape
 obtain⟨t0,ht0,tz0,tz1,tz2⟩:=info_parts infoTable
 obtain⟨f1,_⟩:=forestOk_zero hG.f
 have hnf0:0<s.nf:=by have:=f1.1;omega
 have hnf:s.nf<=200:=f1.2
 have hns:=hG.ns
 have hnt:=hG.nt
 obtain⟨gN,cN,rfl,hgN,hNc⟩:=hM.nform hnf0
 obtain⟨ta,tc,rfl⟩:=own_slice hM.t
 obtain⟨sa,sc,rfl⟩:=own_slice hM.si
 obtain⟨W,hW⟩:∃W,W=w.alloc (.cells St0 42):=⟨_,rfl⟩
 have hbW:Below w.heap.size w W:=by rw[hW];exact(Below.refl _ _).alloc (Nat.le_refl _) _
 have hzW:W.heap.size=w.heap.size+1:=by rw[hW];simp
 have b0:W.heap[w.heap.size]?=some (.cells St0 42 (0,0)):=by rw[hW];exact Deep.blk_alloc_new _ _
 have hcl:=hM.lt
 have hMW:=(hM.below hbW).1
 have c2:=hMW.cells.2.2.1
 have HNW:=uy (SiOwn.news hMW.si)
 have HM:=uy hM
 have HG:=uy hG
 have HNC:=uy hNc
 have HBW:=uy hbW
 have HB0:=uy b0
 have lc:c<W.heap.size:=by omega
 have hz1':w.heap.size<=W.heap.size:=by omega
 have HIN:Hid (∀a1 c1 w1,w1.ownsRow w.heap.size 103 5 (.slice a1 s.ns c1) s.ns (siR s.S s.ns)->W.grownBy w1 none->(∀q,(Value.slice a1 s.ns c1).ownBlock=some q->q=w.heap.size+1)->SWay w w1.heap.size (.slice none 0 0) (.slice none 0 0) (.slice a1 s.ns c1) s 0 0 (fun _=>⟨.nilFunc,.nilFunc,.nilFunc,.nilFunc⟩) (fun _=>w.heap.size) (w1.alloc (.cells #[.slice none 0 0,.slice none 0 0,.slice a1 s.ns c1] 42))):=uy (by
  intro a1 c1 w1 h1 h2 h3
  have hb1:Below w.heap.size w w1:=grown_bel hbW (by omega) h2
  have hz:=h2.size
  have hb2:Below w.heap.size w (w1.alloc (.cells #[.slice none 0 0,.slice none 0 0,.slice a1 s.ns c1] 42)):=hb1.alloc hb1.size _
  refine⟨Deep.blk_alloc_new _ _,(Deep.blk_alloc_lt _ _ _ (by omega)).trans ((h2.block _ (by omega) (by simp)).trans b0),by omega,hb2,World.ownsRow_nil _ _ _ _,World.ownsRow.alloc h1 _,World.ownsRow_nil _ _ _ _,fun i hi=>absurd hi (Nat.not_lt_zero _),Nat.le_refl _,fun i hi=>absurd hi (Nat.not_lt_zero _),hb2.size⟩)
 clear hM hMW hG hNc hbW b0
 go_enter Tryz.func58,Tryz.ntmps58
 go_upto_region 1 with fail
 rw[<-hW]
 clear hW
 go_upto_region 2 with(at_builtin;refine wpList_append_copy rfl _ _ 40 rfl w.heap.size 103 i0 (.agg #[.string ⟨#[]⟩,.int .i64 0,.int .i64 0,.int .i64 0,.int .i64 0]) 5 48 Tryz.underlying40 hi0 hz0 hz1 hz2 rfl (by decide) rfl sa s.ns sc (siR s.S s.ns) rfl (siR_length _ _) (uh HNW) (siR_one _ _) (by unfold maxLen;omega) (by omega) hz1' (w.heap.size+1) hzW ?_;intro a1 c1 w1 hown1 hgr1 hloc1;have HI:=uy (uh HIN a1 c1 w1 hown1 hgr1 hloc1);have zz:=hgr1.size;clear hown1 hgr1 hloc1)
 obtain⟨w2,hw2⟩:∃w2,w2=w1.alloc (.cells #[.slice none 0 0,.slice none 0 0,.slice a1 s.ns c1] 42):=⟨_,rfl⟩
 rw[<-hw2]at HI ⊢
 obtain⟨bx,hbx⟩:∃bx,bx=w1.heap.size:=⟨_,rfl⟩
 rw[<-hbx]at HI ⊢
 obtain⟨vS',hvS'⟩:∃vS',vS'=Value.slice a1 s.ns c1:=⟨_,rfl⟩
 rw[<-hvS']at HI
 have hbx0:w.heap.size<bx:=(uh HI).lt
 have c0:=(((uh HM).below (uh HI).bel).1).cells.1
 have lc2:=(((uh HM).below (uh HI).bel).1).lt
 clear hw2 hbx hvS' c2 HIN HNW lc zz
 go_wp2_with fail
 go_loopw [20] (fun i wr=>∃(k:Nat) (vF:Value),k<=s.nf/\i=.int .i64 k/\SWay w bx vF (.slice none 0 0) vS' s k 0 (fun _=>⟨.nilFunc,.nilFunc,.nilFunc,.nilFunc⟩) (fun _=>w.heap.size) wr) (fun i _=>s.nf-(intOf i).toNat)
 case atStart=>exact⟨0,_,by omega,rfl,uh HI⟩
 case round=>
  clear HI c0 lc2
  obtain⟨k,vF,hk,rfl,hSW⟩:=hrel
  have hMr:=((uh HM).below hSW.bel).1
  have HSW:=uy hSW
  have hzr:=hSW.bel.size
  by_cases hkn:k<s.nf
  ·
   obtain⟨hS0,cs,hcs⟩:=NdS.shape (w:=wr) (s:=s) hMr.nd hkn
   have xN:wr.cell? ⟨gN,k,none⟩=some (.pointer (some ⟨Bk k,0,none⟩)):=(hSW.bel.cell (p:=⟨gN,k,none⟩) hgN).trans (uh HNC k hkn)
   have lgN:gN<wr.heap.size:=by omega
   have hbk:=blk_lt hcs
   obtain⟨fa,fc,rfl⟩:=own_slice hSW.f
   have hbox:=hSW.box
   have y0:wr.cell? ⟨bx,0,none⟩=some (.slice fa k fc):=by simp[World.cell?,hbox]
   have lbx:=blk_lt hbox
   have hne:Bk k≠bx:=fun e=>by rw[e,hbox]at hcs;cases hcs
   have hS0':HeldSh (Bk k) (s.F k) wr.drew:=hS0
   have hbX:Below wr.heap.size wr ((wr.alloc (.cells #[.int .i64 (s.F k).parent,.string (s.F k).key,.int .i64 (s.F k).count] 205)).drew):=((Below.refl _ _).alloc (Nat.le_refl _) _).drew
   have hS1':HeldSh (Bk k) (s.F k) (wr.alloc (.cells #[.int .i64 (s.F k).parent,.string (s.F k).key,.int .i64 (s.F k).count] 205)).drew:=hS0.keep (hbX.block _ hbk)
   have yX:(wr.alloc (.cells #[.int .i64 (s.F k).parent,.string (s.F k).key,.int .i64 (s.F k).count] 205)).drew.cell? ⟨bx,0,none⟩=some (.slice fa k fc):=(hbX.cell (p:=⟨bx,0,none⟩) lbx).trans y0
   have yY:(wr.alloc (.cells #[.int .i64 (s.F k).parent,.string (s.F k).key,.int .i64 (s.F k).count] 205)).cell? ⟨bx,0,none⟩=some (.slice fa k fc):=yX
   have HOW:=uy hSW.f
   have HF:Hid (∀g3 cp3 w3,w3.ownsRow w.heap.size 205 3 (.slice (some ⟨g3,0,none⟩) (k+1) cp3) (k+1) (shL s.F k++[.int .i64 (s.F k).parent,.string (s.F k).key,.int .i64 (s.F k).count])->(wr.alloc (.cells #[.int .i64 (s.F k).parent,.string (s.F k).key,.int .i64 (s.F k).count] 205)).drew.grownBy w3 (Value.ownBlock (.slice fa k fc))->(Value.ownBlock (.slice fa k fc)=some g3\/g3=(wr.alloc (.cells #[.int .i64 (s.F k).parent,.string (s.F k).key,.int .i64 (s.F k).count] 205)).drew.heap.size)->
     HeldSh (Bk k) (s.F k) w3/\HeldSh (Bk k) (s.F k) (w3.setCell ⟨bx,0,none⟩ (.slice (some ⟨g3,0,none⟩) (k+1) cp3))/\w3.cell? ⟨bx,0,none⟩=some (.slice fa k fc)/\w3.frozen? ⟨bx,0,none⟩=false/\bx<w3.heap.size/\SWay w bx (.slice (some ⟨g3,0,none⟩) (k+1) cp3) (.slice none 0 0) vS' s (k+1) 0 (fun _=>⟨.nilFunc,.nilFunc,.nilFunc,.nilFunc⟩) (fun _=>w.heap.size) (w3.setCell ⟨bx,0,none⟩ (.slice (some ⟨g3,0,none⟩) (k+1) cp3))):=uy (by
    intro g3 cp3 w3 h1 h2 h3
    obtain⟨p1,p2⟩:=hSW.shape hbX h2 h1 (h3.imp id (fun e=>by omega))
    have hS3:HeldSh (Bk k) (s.F k) w3:=hS1'.keep (h2.block _ (Nat.lt_of_lt_of_le hbk hbX.size) (fun e=>by
     obtain⟨cur,hc,_⟩:=own_blk hSW.f e.symm
     rw[hc]at hcs
     cases hcs))
    exact⟨hS3,hS3.keep (Deep.blk_setCell_other _ _ _ _ (by exact hne)),by simp[World.cell?,p1],by simp[World.frozen?,p1],blk_lt p1,p2⟩)
   clear hMr hSW hS0 hcs hbox HSW
   go_wp2_with fail
   refine wpN_held (HeldSh (Bk k) (s.F k)) (by kernel_rfl) ?_
   change wpAnyH _ _ _ _ _ _ _ _ (World.drew _)
   refine tq 0 (v:=?_) ?_ ?_;rotate_left;intro w' ⟨s0,s1,s2⟩;go_simp;try with_reducible rfl
   simp only[Act.put,sA,sB,sC]
   refine tq 1 (v:=?_) ?_ ?_;rotate_left;intro w' ⟨s0,s1,s2⟩;go_simp;try with_reducible rfl
   simp only[Act.put,sA,sB,sC]
   refine tq 3 (v:=?_) ?_ ?_;rotate_left;intro w' ⟨s0,s1,s2⟩;go_simp;try with_reducible rfl
   simp only[Act.put,sA,sB,sC]
   refine tq 4 (v:=?_) ?_ ?_;rotate_left;intro w' ⟨s0,s1,s2⟩;go_simp;try with_reducible rfl
   simp only[Act.put,sA,sB,sC]
   refine tq 5 (v:=?_) ?_ ?_;rotate_left;intro w' ⟨s0,s1,s2⟩;go_simp;try with_reducible rfl
   simp only[Act.put,sA,sB,sC]
   refine tq 6 (v:=?_) ?_ ?_;rotate_left;intro w' ⟨s0,s1,s2⟩;go_simp;try with_reducible rfl
   simp only[Act.put,sA,sB,sC]
   refine wpAnyH_ready (rs:=[2,7]) (by kernel_rfl) (by simp) ?_
   refine AllReadyH.cons rfl (fun K hK=>?armA) (AllReadyH.cons rfl (fun K hK=>?armB) AllReadyH.nil)
   case' armA=>
    go_simp
    refine hK.out _ _ hS0' (fun _=>?_)
    clear hK K
    refine wpAnyH_ready (rs:=[7]) (by kernel_rfl) (by simp) ?_
    refine AllReadyH.cons rfl (fun K hK=>?_) AllReadyH.nil
    go_simp
    refine hK.out _ _ hS1' (fun hS1=>?_)
    clear hK K
   case' armB=>
    go_simp
    refine hK.out _ _ hS1' (fun hS1=>?_)
    clear hK K
    refine wpAnyH_ready (rs:=[2]) (by kernel_rfl) (by simp) ?_
    refine AllReadyH.cons rfl (fun K hK=>?_) AllReadyH.nil
    go_simp
    refine hK.out _ _ hS1' (fun _=>?_)
    clear hK K
   all_goals
    refine wpAnyH_ready (rs:=[8]) (by kernel_rfl) (by simp) ?_
    refine AllReadyH.cons rfl (fun K hK=>?_) AllReadyH.nil
    refine step_append_lies _ rfl (.tmp 26) (.tmp 31) 36 rfl w.heap.size 205 k0 (Sh 0 ⟨#[]⟩ 0) 3 32 Tryz.underlying36 hk0 kz0 kz1 kz2 rfl (by decide) (.slice fa k fc) k (shL s.F k) (by simp[Act.eval]) (World.ownsRow.drew (World.ownsRow.alloc (uh HOW) _)) ⟨wr.heap.size,0,none⟩ 1 1 [.int .i64 (s.F k).parent,.string (s.F k).key,.int .i64 (s.F k).count] (by simp[Act.eval]) rfl (World.news_of_block (w:=(wr.alloc (.cells #[.int .i64 (s.F k).parent,.string (s.F k).key,.int .i64 (s.F k).count] 205)).drew) (Deep.blk_alloc_new wr _)) (by simp[Value.oneCell']) (by decide) (by unfold maxLen;omega) (by omega) (by simp;omega) _ rfl ?_
    intro g3 cp3 w3 hown3 hgr3 hloc3 hlt3
    obtain⟨hS3,hS4,x3,f3,hl3,hSW3⟩:=uh HF g3 cp3 w3 hown3 hgr3 hloc3
    have HS3:=uy hSW3
    clear hown3 hgr3 hloc3 hSW3
    refine hK.out _ _ hS3 (fun hS3'=>?_)
    clear hK K
    simp only[Act.put,List.getElem_toArray,List.getElem_cons_succ,List.getElem_cons_zero,List.setIfInBounds_toArray,List.set_cons_succ,List.set_cons_zero]
    refine tq 9 (v:=?_) ?_ ?_;rotate_left;intro w' ⟨s0,s1,s2⟩;go_simp;try with_reducible rfl
    (try simp only[Act.put]);(try simp only[List.setIfInBounds_toArray]);(try simp only[List.set_cons_succ]);try simp only[List.set_cons_zero]
    refine tq 10 (v:=?_) ?_ ?_;rotate_left;intro w' ⟨s0,s1,s2⟩;go_simp;try with_reducible rfl
    (try simp only[Act.put]);(try simp only[List.setIfInBounds_toArray]);(try simp only[List.set_cons_succ]);try simp only[List.set_cons_zero]
    refine wpAnyH_ready (rs:=[11]) (by kernel_rfl) (by simp) ?_
    refine AllReadyH.cons rfl (fun K hK=>?_) AllReadyH.nil
    go_simp
    refine hK.out _ _ hS4 (fun _=>?_)
    clear hK K
    refine wpAnyH_done (by kernel_rfl) ?_ _
    refine QN.normal ?_
    clear hS3 hS4 hS3' x3 f3 hS1 hS0' hS1' yX yY y0 xN
    obtain⟨w4,hw4⟩:∃w4,w4=w3.setCell ⟨bx,0,none⟩ (.slice (some ⟨g3,0,none⟩) (k+1) cp3):=⟨_,rfl⟩
    rw[<-hw4]at HS3 ⊢
    clear hw4
    go_wp2
    go_roundw
    case rel=>exact⟨k+1,_,by omega,by go_num,uh HS3⟩
    case measure=>simp[intOf];omega
  ·have hke:k=s.nf:=by omega
   subst hke
   have c1:=hMr.cells.2.1
   have lcr:=hMr.lt
   clear hMr hSW hkn
   go_wp2_with fail
   go_loopw [42] (fun i wr=>∃(k:Nat) (vT:Value) (H:Nat->Hs) (L:Nat->Nat),k<=s.nt/\i=.int .i64 k/\SWay w bx vF vT vS' s s.nf k H L wr) (fun i _=>s.nt-(intOf i).toNat)
   case atStart=>exact⟨0,_,_,_,by omega,rfl,uh HSW⟩
   case round=>
    clear HSW c1 lcr hzr
    obtain⟨k,vT,H,L,hk,rfl,hSW⟩:=hrel
    have hMr:=((uh HM).below hSW.bel).1
    have hMd:=((uh HM).below hSW.bel.drew).1
    have hzr:=hSW.bel.size
    have HSW:=uy hSW
    by_cases hkn:k<s.nt
    ·obtain⟨gT,cpT,hvT,hgT,_,xT,_⟩:=hMr.tform hkn
     cases hvT
     obtain⟨fa,fc,rfl⟩:=own_slice hSW.t
     have hbox:=hSW.box
     have lbx:=blk_lt hbox
     have y1:wr.cell? ⟨bx,1,none⟩=some (.slice fa k fc):=by simp[World.cell?,hbox]
     have HOW:=uy hSW.t
     have HF:Hid (∀w2 hh g3 cp3 w3,TbR wr.heap.size w2.heap.size w2 hh (s.T k)->Below wr.heap.size wr.drew w2->w3.ownsRow w.heap.size 94 8 (.slice (some ⟨g3,0,none⟩) (k+1) cp3) (k+1) (rwL (fun i=>tbL (H i) (s.T i)) k++tbL hh (s.T k))->(w2.alloc (.cells (tbL hh (s.T k)).toArray 94)).grownBy w3 (Value.ownBlock (.slice fa k fc))->(Value.ownBlock (.slice fa k fc)=some g3\/g3=(w2.alloc (.cells (tbL hh (s.T k)).toArray 94)).heap.size)->
       w3.cell? ⟨bx,1,none⟩=some (.slice fa k fc)/\w3.frozen? ⟨bx,1,none⟩=false/\bx<w3.heap.size/\∃H' L',SWay w bx vF (.slice (some ⟨g3,0,none⟩) (k+1) cp3) vS' s s.nf (k+1) H' L' (w3.setCell ⟨bx,1,none⟩ (.slice (some ⟨g3,0,none⟩) (k+1) cp3))):=uy (by
      intro w2 hh g3 cp3 w3 hR hb h1 h2 h3
      have hb1:Below wr.heap.size wr w2:=(Below.refl _ _).drew.trans hb
      have hb2:Below wr.heap.size wr (w2.alloc (.cells (tbL hh (s.T k)).toArray 94)):=hb1.alloc hb1.size _
      have hR2:TbR wr.heap.size (w2.alloc (.cells (tbL hh (s.T k)).toArray 94)).heap.size (w2.alloc (.cells (tbL hh (s.T k)).toArray 94)) hh (s.T k):=(hR.keep (fun q e=>Deep.blk_alloc_lt _ _ _ (hR.own e).2.2)).wide (Nat.le_refl _) (by simp)
      obtain⟨p1,p2⟩:=hSW.table hb2 hR2 h2 h1 (h3.imp id (fun e=>by omega))
      exact⟨by simp[World.cell?,p1],by simp[World.frozen?,p1],blk_lt p1,_,_,p2⟩)
     have hA0:HeldAny wr.drew:=trivial
     rcases kind_table (B0:=B0) (Bk:=Bk) (A:=A k) (uh HG).f ((uh HG).t k hkn)with⟨hkv,hcall⟩|⟨pk,hkv,hcall⟩
     ·rw[hkv]at xT
      have HC:=uy (hcall wr.drew hMd.nd (hMd.rd k hkn).now.1 (hMd.rd k hkn).now.2)
      clear hkv hcall hMr hMd hSW hbox HSW
      go_wp2_with fail
      refine wpN_held HeldAny (by kernel_rfl) ?_
      change wpAnyH _ _ _ _ _ _ _ _ (World.drew _)
      refine tq 0 (v:=?_) ?_ ?_;rotate_left;intro w' s0;go_simp;try with_reducible rfl
      (try simp only[Act.put]);(try simp only[List.setIfInBounds_toArray]);(try simp only[List.set_cons_succ]);try simp only[List.set_cons_zero]
      refine tq 2 (v:=?_) ?_ ?_;rotate_left;intro w' s0;go_simp;try with_reducible rfl
      (try simp only[Act.put]);(try simp only[List.setIfInBounds_toArray]);(try simp only[List.set_cons_succ]);try simp only[List.set_cons_zero]
      refine wpAnyH_ready (rs:=[1,3]) (by kernel_rfl) (by simp) ?_
      refine AllReadyH.cons rfl (fun K hK=>?arm1A) (AllReadyH.cons rfl (fun K hK=>?arm1B) AllReadyH.nil)
      case' arm1A=>
        go_simp
        refine hK.out _ _ hA0 (fun _=>?_)
        clear hK K
        refine wpAnyH_ready (rs:=[3]) (by kernel_rfl) (by simp) ?_
        refine AllReadyH.cons rfl (fun K hK=>?_) AllReadyH.nil
        go_simp
        refine(uh HC).mono ?_
        rintro e w2 ⟨⟨hh,rfl,hR⟩,hb2⟩
        obtain⟨a1,c1,a2,c2,a3,c3,a4,c4,rfl⟩:=hR.one
        have hbb:Below wr.heap.size wr w2:=(Below.refl _ _).drew.trans hb2
        have z2:=hbb.size
        have y2:w2.cell? ⟨bx,1,none⟩=some (.slice fa k fc):=(hbb.cell (p:=⟨bx,1,none⟩) lbx).trans y1
        have y3:(w2.alloc (.cells #[.int .i64 (s.T k).shape,.slice a1 (s.T k).nv c1,.slice a2 (s.T k).d.n c2,.slice a3 (s.T k).d.m c3,.slice a4 (s.T k).d.x c4,.int .i64 (s.T k).d.used,.int .i64 (s.T k).d.live,.int .i64 (s.T k).d.turns] 94)).cell? ⟨bx,1,none⟩=some (.slice fa k fc):=cell_alloc y2
        have HO2:=uy (own_belowK (uh HOW) hbb)
        have HF2:=uy (fun g3 cp3 w3=>uh HF w2 _ g3 cp3 w3 hR hb2)
        have hA2:HeldAny w2:=trivial
        have e8:(tbL ⟨.slice a1 (s.T k).nv c1,.slice a2 (s.T k).d.n c2,.slice a3 (s.T k).d.m c3,.slice a4 (s.T k).d.x c4⟩ (s.T k)).toArray=#[.int .i64 (s.T k).shape,.slice a1 (s.T k).nv c1,.slice a2 (s.T k).d.n c2,.slice a3 (s.T k).d.m c3,.slice a4 (s.T k).d.x c4,.int .i64 (s.T k).d.used,.int .i64 (s.T k).d.live,.int .i64 (s.T k).d.turns]:=rfl
        rw[e8]
        refine hK.out _ _ hA2 (fun _=>?_)
        clear hK K hR hb2 hbb e8
        refine wpAnyH_ready (rs:=[4]) (by kernel_rfl) (by simp) ?_
        refine AllReadyH.cons rfl (fun K hK=>?_) AllReadyH.nil
        go_simp
        refine hK.out _ _ trivial (fun _=>?_)
        clear hK K
      case' arm1B=>
        go_simp
        refine(uh HC).mono ?_
        rintro e w2 ⟨⟨hh,rfl,hR⟩,hb2⟩
        obtain⟨a1,c1,a2,c2,a3,c3,a4,c4,rfl⟩:=hR.one
        have hbb:Below wr.heap.size wr w2:=(Below.refl _ _).drew.trans hb2
        have z2:=hbb.size
        have y2:w2.cell? ⟨bx,1,none⟩=some (.slice fa k fc):=(hbb.cell (p:=⟨bx,1,none⟩) lbx).trans y1
        have y3:(w2.alloc (.cells #[.int .i64 (s.T k).shape,.slice a1 (s.T k).nv c1,.slice a2 (s.T k).d.n c2,.slice a3 (s.T k).d.m c3,.slice a4 (s.T k).d.x c4,.int .i64 (s.T k).d.used,.int .i64 (s.T k).d.live,.int .i64 (s.T k).d.turns] 94)).cell? ⟨bx,1,none⟩=some (.slice fa k fc):=cell_alloc y2
        have HO2:=uy (own_belowK (uh HOW) hbb)
        have HF2:=uy (fun g3 cp3 w3=>uh HF w2 _ g3 cp3 w3 hR hb2)
        have hA2:HeldAny w2:=trivial
        have e8:(tbL ⟨.slice a1 (s.T k).nv c1,.slice a2 (s.T k).d.n c2,.slice a3 (s.T k).d.m c3,.slice a4 (s.T k).d.x c4⟩ (s.T k)).toArray=#[.int .i64 (s.T k).shape,.slice a1 (s.T k).nv c1,.slice a2 (s.T k).d.n c2,.slice a3 (s.T k).d.m c3,.slice a4 (s.T k).d.x c4,.int .i64 (s.T k).d.used,.int .i64 (s.T k).d.live,.int .i64 (s.T k).d.turns]:=rfl
        rw[e8]
        refine hK.out _ _ hA2 (fun _=>?_)
        clear hK K hR hb2 hbb e8
        refine wpAnyH_ready (rs:=[1,4]) (by kernel_rfl) (by simp) ?_
        refine AllReadyH.cons rfl (fun K hK=>?arm1C) (AllReadyH.cons rfl (fun K hK=>?arm1D) AllReadyH.nil)
      case' arm1C=>
        go_simp
        refine hK.out _ _ hA2 (fun _=>?_)
        clear hK K
        refine wpAnyH_ready (rs:=[4]) (by kernel_rfl) (by simp) ?_
        refine AllReadyH.cons rfl (fun K hK=>?_) AllReadyH.nil
        go_simp
        refine hK.out _ _ trivial (fun _=>?_)
        clear hK K
      case' arm1D=>
        go_simp
        refine hK.out _ _ trivial (fun _=>?_)
        clear hK K
        refine wpAnyH_ready (rs:=[1]) (by kernel_rfl) (by simp) ?_
        refine AllReadyH.cons rfl (fun K hK=>?_) AllReadyH.nil
        go_simp
        refine hK.out _ _ trivial (fun _=>?_)
        clear hK K
      all_goals
       clear HC HF HOW
       refine wpAnyH_ready (rs:=[5]) (by kernel_rfl) (by simp) ?_
       refine AllReadyH.cons rfl (fun K hK=>?_) AllReadyH.nil
       refine step_append_lies _ rfl (.tmp 47) (.tmp 50) 39 rfl w.heap.size 94 t0 (.agg Tb0) 8 128 Tryz.underlying39 ht0 tz0 tz1 tz2 rfl (by decide) (.slice fa k fc) k (rwL (fun i=>tbL (H i) (s.T i)) k) (by simp[Act.eval]) (World.ownsRow.alloc (uh HO2) _) ⟨w2.heap.size,0,none⟩ 1 1 [.int .i64 (s.T k).shape,.slice a1 (s.T k).nv c1,.slice a2 (s.T k).d.n c2,.slice a3 (s.T k).d.m c3,.slice a4 (s.T k).d.x c4,.int .i64 (s.T k).d.used,.int .i64 (s.T k).d.live,.int .i64 (s.T k).d.turns] (by simp[Act.eval]) rfl (World.news_of_block (Deep.blk_alloc_new w2 _)) (by simp[Value.oneCell']) (by decide) (by unfold maxLen;omega) (by omega) (by simp;omega) _ rfl ?_
       intro g3 cp3 w3 hown3 hgr3 hloc3 hlt3
       obtain⟨x3,f3,hl3,H',L',hSW3⟩:=uh HF2 g3 cp3 w3 hown3 hgr3 hloc3
       have HS3:=uy hSW3
       have hA3:HeldAny w3:=trivial
       clear hown3 hgr3 hloc3 hSW3 HF2 HO2 y1 y2 y3 xT
       refine hK.out _ _ hA3 (fun _=>?_)
       clear hK K
       simp only[Act.put,List.getElem_toArray,List.getElem_cons_succ,List.getElem_cons_zero,List.setIfInBounds_toArray,List.set_cons_succ,List.set_cons_zero]
       refine tq 6 (v:=?_) ?_ ?_;rotate_left;intro w' s0;go_simp;try with_reducible rfl
       (try simp only[Act.put]);(try simp only[List.setIfInBounds_toArray]);(try simp only[List.set_cons_succ]);try simp only[List.set_cons_zero]
       refine wpAnyH_ready (rs:=[7]) (by kernel_rfl) (by simp) ?_
       refine AllReadyH.cons rfl (fun K hK=>?_) AllReadyH.nil
       go_simp
       refine hK.out _ _ trivial (fun _=>?_)
       clear hK K
       refine wpAnyH_done (by kernel_rfl) ?_ _
       refine QN.normal ?_
       clear x3 f3
       obtain⟨w4,hw4⟩:∃w4,w4=w3.setCell ⟨bx,1,none⟩ (.slice (some ⟨g3,0,none⟩) (k+1) cp3):=⟨_,rfl⟩
       rw[<-hw4]at HS3 ⊢
       clear hw4
       go_wp2
       go_roundw
       case rel=>exact⟨k+1,_,_,_,by omega,by go_num,uh HS3⟩
       case measure=>simp[intOf];omega
     ·rw[hkv]at xT
      have HC:=uy (hcall wr.drew hMd.nd (hMd.rd k hkn).now.1 (hMd.rd k hkn).now.2)
      clear hkv hcall hMr hMd hSW hbox HSW
      go_wp2_with fail
      refine wpN_held HeldAny (by kernel_rfl) ?_
      change wpAnyH _ _ _ _ _ _ _ _ (World.drew _)
      refine tq 0 (v:=?_) ?_ ?_;rotate_left;intro w' s0;go_simp;try with_reducible rfl
      (try simp only[Act.put]);(try simp only[List.setIfInBounds_toArray]);(try simp only[List.set_cons_succ]);try simp only[List.set_cons_zero]
      refine tq 2 (v:=?_) ?_ ?_;rotate_left;intro w' s0;go_simp;try with_reducible rfl
      (try simp only[Act.put]);(try simp only[List.setIfInBounds_toArray]);(try simp only[List.set_cons_succ]);try simp only[List.set_cons_zero]
      refine wpAnyH_ready (rs:=[1,3]) (by kernel_rfl) (by simp) ?_
      refine AllReadyH.cons rfl (fun K hK=>?arm2A) (AllReadyH.cons rfl (fun K hK=>?arm2B) AllReadyH.nil)
      case' arm2A=>
        go_simp
        refine hK.out _ _ hA0 (fun _=>?_)
        clear hK K
        refine wpAnyH_ready (rs:=[3]) (by kernel_rfl) (by simp) ?_
        refine AllReadyH.cons rfl (fun K hK=>?_) AllReadyH.nil
        go_simp
        refine(uh HC).mono ?_
        rintro e w2 ⟨⟨hh,rfl,hR⟩,hb2⟩
        obtain⟨a1,c1,a2,c2,a3,c3,a4,c4,rfl⟩:=hR.one
        have hbb:Below wr.heap.size wr w2:=(Below.refl _ _).drew.trans hb2
        have z2:=hbb.size
        have y2:w2.cell? ⟨bx,1,none⟩=some (.slice fa k fc):=(hbb.cell (p:=⟨bx,1,none⟩) lbx).trans y1
        have y3:(w2.alloc (.cells #[.int .i64 (s.T k).shape,.slice a1 (s.T k).nv c1,.slice a2 (s.T k).d.n c2,.slice a3 (s.T k).d.m c3,.slice a4 (s.T k).d.x c4,.int .i64 (s.T k).d.used,.int .i64 (s.T k).d.live,.int .i64 (s.T k).d.turns] 94)).cell? ⟨bx,1,none⟩=some (.slice fa k fc):=cell_alloc y2
        have HO2:=uy (own_belowK (uh HOW) hbb)
        have HF2:=uy (fun g3 cp3 w3=>uh HF w2 _ g3 cp3 w3 hR hb2)
        have hA2:HeldAny w2:=trivial
        have e8:(tbL ⟨.slice a1 (s.T k).nv c1,.slice a2 (s.T k).d.n c2,.slice a3 (s.T k).d.m c3,.slice a4 (s.T k).d.x c4⟩ (s.T k)).toArray=#[.int .i64 (s.T k).shape,.slice a1 (s.T k).nv c1,.slice a2 (s.T k).d.n c2,.slice a3 (s.T k).d.m c3,.slice a4 (s.T k).d.x c4,.int .i64 (s.T k).d.used,.int .i64 (s.T k).d.live,.int .i64 (s.T k).d.turns]:=rfl
        rw[e8]
        refine hK.out _ _ hA2 (fun _=>?_)
        clear hK K hR hb2 hbb e8
        refine wpAnyH_ready (rs:=[4]) (by kernel_rfl) (by simp) ?_
        refine AllReadyH.cons rfl (fun K hK=>?_) AllReadyH.nil
        go_simp
        refine hK.out _ _ trivial (fun _=>?_)
        clear hK K
      case' arm2B=>
        go_simp
        refine(uh HC).mono ?_
        rintro e w2 ⟨⟨hh,rfl,hR⟩,hb2⟩
        obtain⟨a1,c1,a2,c2,a3,c3,a4,c4,rfl⟩:=hR.one
        have hbb:Below wr.heap.size wr w2:=(Below.refl _ _).drew.trans hb2
        have z2:=hbb.size
        have y2:w2.cell? ⟨bx,1,none⟩=some (.slice fa k fc):=(hbb.cell (p:=⟨bx,1,none⟩) lbx).trans y1
        have y3:(w2.alloc (.cells #[.int .i64 (s.T k).shape,.slice a1 (s.T k).nv c1,.slice a2 (s.T k).d.n c2,.slice a3 (s.T k).d.m c3,.slice a4 (s.T k).d.x c4,.int .i64 (s.T k).d.used,.int .i64 (s.T k).d.live,.int .i64 (s.T k).d.turns] 94)).cell? ⟨bx,1,none⟩=some (.slice fa k fc):=cell_alloc y2
        have HO2:=uy (own_belowK (uh HOW) hbb)
        have HF2:=uy (fun g3 cp3 w3=>uh HF w2 _ g3 cp3 w3 hR hb2)
        have hA2:HeldAny w2:=trivial
        have e8:(tbL ⟨.slice a1 (s.T k).nv c1,.slice a2 (s.T k).d.n c2,.slice a3 (s.T k).d.m c3,.slice a4 (s.T k).d.x c4⟩ (s.T k)).toArray=#[.int .i64 (s.T k).shape,.slice a1 (s.T k).nv c1,.slice a2 (s.T k).d.n c2,.slice a3 (s.T k).d.m c3,.slice a4 (s.T k).d.x c4,.int .i64 (s.T k).d.used,.int .i64 (s.T k).d.live,.int .i64 (s.T k).d.turns]:=rfl
        rw[e8]
        refine hK.out _ _ hA2 (fun _=>?_)
        clear hK K hR hb2 hbb e8
        refine wpAnyH_ready (rs:=[1,4]) (by kernel_rfl) (by simp) ?_
        refine AllReadyH.cons rfl (fun K hK=>?arm2C) (AllReadyH.cons rfl (fun K hK=>?arm2D) AllReadyH.nil)
      case' arm2C=>
        go_simp
        refine hK.out _ _ hA2 (fun _=>?_)
        clear hK K
        refine wpAnyH_ready (rs:=[4]) (by kernel_rfl) (by simp) ?_
        refine AllReadyH.cons rfl (fun K hK=>?_) AllReadyH.nil
        go_simp
        refine hK.out _ _ trivial (fun _=>?_)
        clear hK K
      case' arm2D=>
        go_simp
        refine hK.out _ _ trivial (fun _=>?_)
        clear hK K
        refine wpAnyH_ready (rs:=[1]) (by kernel_rfl) (by simp) ?_
        refine AllReadyH.cons rfl (fun K hK=>?_) AllReadyH.nil
        go_simp
        refine hK.out _ _ trivial (fun _=>?_)
        clear hK K
      all_goals
       clear HC HF HOW
       refine wpAnyH_ready (rs:=[5]) (by kernel_rfl) (by simp) ?_
       refine AllReadyH.cons rfl (fun K hK=>?_) AllReadyH.nil
       refine step_append_lies _ rfl (.tmp 47) (.tmp 50) 39 rfl w.heap.size 94 t0 (.agg Tb0) 8 128 Tryz.underlying39 ht0 tz0 tz1 tz2 rfl (by decide) (.slice fa k fc) k (rwL (fun i=>tbL (H i) (s.T i)) k) (by simp[Act.eval]) (World.ownsRow.alloc (uh HO2) _) ⟨w2.heap.size,0,none⟩ 1 1 [.int .i64 (s.T k).shape,.slice a1 (s.T k).nv c1,.slice a2 (s.T k).d.n c2,.slice a3 (s.T k).d.m c3,.slice a4 (s.T k).d.x c4,.int .i64 (s.T k).d.used,.int .i64 (s.T k).d.live,.int .i64 (s.T k).d.turns] (by simp[Act.eval]) rfl (World.news_of_block (Deep.blk_alloc_new w2 _)) (by simp[Value.oneCell']) (by decide) (by unfold maxLen;omega) (by omega) (by simp;omega) _ rfl ?_
       intro g3 cp3 w3 hown3 hgr3 hloc3 hlt3
       obtain⟨x3,f3,hl3,H',L',hSW3⟩:=uh HF2 g3 cp3 w3 hown3 hgr3 hloc3
       have HS3:=uy hSW3
       have hA3:HeldAny w3:=trivial
       clear hown3 hgr3 hloc3 hSW3 HF2 HO2 y1 y2 y3 xT
       refine hK.out _ _ hA3 (fun _=>?_)
       clear hK K
       simp only[Act.put,List.getElem_toArray,List.getElem_cons_succ,List.getElem_cons_zero,List.setIfInBounds_toArray,List.set_cons_succ,List.set_cons_zero]
       refine tq 6 (v:=?_) ?_ ?_;rotate_left;intro w' s0;go_simp;try with_reducible rfl
       (try simp only[Act.put]);(try simp only[List.setIfInBounds_toArray]);(try simp only[List.set_cons_succ]);try simp only[List.set_cons_zero]
       refine wpAnyH_ready (rs:=[7]) (by kernel_rfl) (by simp) ?_
       refine AllReadyH.cons rfl (fun K hK=>?_) AllReadyH.nil
       go_simp
       refine hK.out _ _ trivial (fun _=>?_)
       clear hK K
       refine wpAnyH_done (by kernel_rfl) ?_ _
       refine QN.normal ?_
       clear x3 f3
       obtain⟨w4,hw4⟩:∃w4,w4=w3.setCell ⟨bx,1,none⟩ (.slice (some ⟨g3,0,none⟩) (k+1) cp3):=⟨_,rfl⟩
       rw[<-hw4]at HS3 ⊢
       clear hw4
       go_wp2
       go_roundw
       case rel=>exact⟨k+1,_,_,_,by omega,by go_num,uh HS3⟩
       case measure=>simp[intOf];omega
    ·have hke:k=s.nt:=by omega
     subst hke
     obtain⟨ga,gc,rfl⟩:=own_slice hSW.f
     obtain⟨fa,fc,rfl⟩:=own_slice hSW.t
     obtain⟨za,zc,rfl⟩:=own_slice hSW.si
     obtain⟨w4,hst4,hS4⟩:=storeAt_any (v:=.agg #[.slice ga s.nf gc,.slice fa s.nt fc,.slice za s.ns zc]) (old:=St0.toList) (vs:=[.slice ga s.nf gc,.slice fa s.nt fc,.slice za s.ns zc]) sz_store hSW.res rfl rfl (by simp[Value.oneCell']) rfl
     have HST:=uy hst4
     have HBX:=uy hSW.box
     have HFN:=uy (hSW.whole hnf0 hS4)
     have r0:=st_cells (vs:=[.slice ga s.nf gc,.slice fa s.nt fc,.slice za s.ns zc]) hS4 0 _ rfl
     have r1:=st_cells (vs:=[.slice ga s.nf gc,.slice fa s.nt fc,.slice za s.ns zc]) hS4 1 _ rfl
     have r2:=st_cells (vs:=[.slice ga s.nf gc,.slice fa s.nt fc,.slice za s.ns zc]) hS4 2 _ rfl
     clear hMr hMd hSW HSW hst4 hS4 hkn
     go_wp2_with (first|(refine wpList_load_row rfl 42 _ rfl bx rfl _ _ _ _ (uh HBX) Tryz.underlying42 rfl info3 ?_)|(refine wpList_store rfl rfl _ (uh HST) ?_))
     refine bodyPost_ret (v:=.agg #[.slice ga s.nf gc,.slice fa s.nt fc,.slice za s.ns zc]) (by simp[results,Tryz.results58,go_sem,r0,r1,r2]) rfl ⟨⟨_,_,_,_,rfl,(uh HFN).1⟩,(uh HFN).2⟩
end
end Go.Proofs.YtgmlkfgfjjggnaaGreatDoor
