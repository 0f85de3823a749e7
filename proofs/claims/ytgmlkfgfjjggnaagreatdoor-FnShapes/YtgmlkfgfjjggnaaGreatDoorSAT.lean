import Derived.Deep.QuietTactic
import Derived.BigQuiet
import Derived.Test.YtgmlkfgfjjggnaaGreatDoorSAR
import Derived.Test.YtgmlkfgfjjggnaaGreatDoorSAS
set_option linter.unusedVariables false
set_option linter.unusedSimpArgs false
set_option maxHeartbeats 40000000
set_option maxRecDepth 100000
namespace Go.Proofs.YtgmlkfgfjjggnaaGreatDoor
section
open Go.RowKit
attribute [local go_sem] run_store_float run_equalIn_float run_store_func
def shdL(p:Nat)(A:Ad)(t:Tb):List Value:=[.slice A.va t.nv A.vc,.slice A.la t.d.n A.lc,.slice A.ia t.d.m A.ic,.slice A.xa t.d.x A.xc,.int .i64 t.d.used,.int .i64 t.d.live,.int .i64 t.d.turns,.pointer (some ⟨p,0,none⟩)]
theorem shdL_one(p:Nat)(A:Ad)(t:Tb):∀u∈shdL p A t,u.oneCell'=true:=by
 intro u h
 simp only[shdL,List.mem_cons,List.not_mem_nil,or_false]at h
 rcases h with rfl|rfl|rfl|rfl|rfl|rfl|rfl|rfl<;>rfl
theorem sh0_one:∀u∈Sh0.toList,u.oneCell'=true:=by
 intro u h
 simp only[List.mem_cons,List.not_mem_nil,or_false]at h
 rcases h with rfl|rfl|rfl|rfl|rfl|rfl|rfl|rfl<;>rfl
theorem st_shN(w:World)(p:Nat)(A:Ad)(t:Tb):(Instr.storeAt 236 (.pointer (some ⟨w.heap.size,0,none⟩)) (ShdA p A t)).run Tryz.prog (w.alloc (.cells Sh0 236))=.ok () (w.alloc (.cells (shdL p A t).toArray 236)):=
 storeAt_new (old:=Sh0.toList) sz_shaped w (by rfl) (by rfl) (shdL_one p A t) rfl
theorem st_shA{w:World}{b:Nat}(hb:w.heap[b]?=some (.cells Sh0 236 (0,0)))(p:Nat)(A:Ad)(t:Tb):∃w',(Instr.storeAt 236 (.pointer (some ⟨b,0,none⟩)) (.agg (shdL p A t).toArray)).run Tryz.prog w=.ok () w'/\Stored w w' b (shdL p A t).toArray 236:=
 storeAt_any (old:=Sh0.toList) (vs:=shdL p A t) sz_shaped hb rfl rfl (shdL_one p A t) rfl
theorem st_sh0{w:World}{b:Nat}(hb:w.heap[b]?=some (.cells Sh0 236 (0,0))):∃w',(Instr.storeAt 236 (.pointer (some ⟨b,0,none⟩)) (.agg Sh0)).run Tryz.prog w=.ok () w'/\Stored w w' b Sh0 236:=
 storeAt_any (old:=Sh0.toList) (vs:=Sh0.toList) sz_shaped hb rfl rfl sh0_one rfl
theorem sh_cells{w:World}{b p:Nat}{A:Ad}{t:Tb}(h:w.heap[b]?=some (.cells (shdL p A t).toArray 236 (0,0))):∀j u,(shdL p A t)[j]?=some u->w.cell? ⟨b,j,none⟩=some u:=fun j u hu=>by
 rw[cell_of_row w b j _ _ _ h];simpa using hu
theorem WkM.finS{Z:Nat->Prop}{w:World}{c B0:Nat}{vN vT vS:Value}{w1 w'':World}{vN' vT' vS' vU':Value}{Bk':Nat->Nat}{A':Nat->Ad}{s':Sto}{rb z1:Nat}{cs cs':Array Value}(h:WkM (ZB Z w.heap.size z1) w1 c B0 vN' vT' vS' vU' Bk' A' s')(hd:Dst (OwnW B0 c vN vT vS w) w (OwnW B0 c vN' vT' vS' w1) w1)(hcw:B0<=w.heap.size)(hwb:w.heap.size<=rb)(hz:rb<z1)(hr:w1.heap[rb]?=some (.cells cs' 236 (0,0)))(hst:Stored w1 w'' rb cs 236):
  WkM Z w'' c B0 vN' vT' vS' vU' Bk' A' s'/\Dst (OwnW B0 c vN vT vS w) w (OwnW B0 c vN' vT' vS' w'') w'':=
 h.fin hd hcw (.inr ⟨hwb,hz⟩) hwb (h.notbox hr (by decide) (by decide) (by decide) (by decide) (by decide)) (fun k e=>.inl e) ⟨hst.os,hst.tape,hst.output,hst.size⟩ hst.other hst.blk (by decide)
def FindP(Z:Nat->Prop)(c B0:Nat)(vN vT vS vU:Value)(Bk:Nat->Nat)(A:Nat->Ad)(s:Sto)(i t:Nat)(w:World)(e:Ending)(w':World):Prop:=
 ∃vs:List Value,vs.length=8/\(∀u∈vs,u.oneCell'=true)/\e=.returned (.tuple #[.agg vs.toArray,.int .i64 (findI s i t)])/\(0<=findI s i t->∃j:Nat,(s.T t).shape=j/\vs=shdL (Bk j) (A t) (s.T t))/\WkM Z w' c B0 vN vT vS vU Bk A (findS s i t)/\Dst (OwnW B0 c vN vT vS w) w (OwnW B0 c vN vT vS w') w'
def HeldF(b g o:Nat)(pl:Int)(p:Nat)(A:Ad)(t:Tb)(W:World):Prop:=W.cell? ⟨b,0,none⟩=some (.slice A.va t.nv A.vc)/\W.cell? ⟨b,1,none⟩=some (.slice A.la t.d.n A.lc)/\W.cell? ⟨b,2,none⟩=some (.slice A.ia t.d.m A.ic)/\W.cell? ⟨b,3,none⟩=some (.slice A.xa t.d.x A.xc)/\W.cell? ⟨b,4,none⟩=some (.int .i64 t.d.used)/\W.cell? ⟨b,5,none⟩=some (.int .i64 t.d.live)/\W.cell? ⟨b,6,none⟩=some (.int .i64 t.d.turns)/\W.cell? ⟨b,7,none⟩=some (.pointer (some ⟨p,0,none⟩))/\W.cell? ⟨g,o+2,none⟩=some (.int .i64 pl)
theorem find_hit(Z:Nat->Prop)(c B0:Nat)(vN vT vS vU:Value)(Bk:Nat->Nat)(A:Nat->Ad)(s:Sto)(i t j:Nat)(w:World)(hM:WkM Z w c B0 vN vT vS vU Bk A s)(hi:i<s.ns)(hns:s.ns<=50)(ht:t<s.nt)(hnt:s.nt<=100)(hsh:(s.T t).shape=j)(hj:j<s.nf)(hsi:(s.S i).shape=j)(hh0:0<=(s.S i).hits)(hh1:(s.S i).hits<=1000000000000):
  Calls Tryz.prog 206 #[.pointer (some ⟨c,0,none⟩),.int .i64 (i:Int),.int .i64 (t:Int)] w fun e w'=>FindP Z c B0 vN vT vS vU Bk A s i t w e w':=by
 obtain⟨gT,cpT,hvT,hgTl,_,hgTt,_⟩:=hM.tform ht
 obtain⟨g,cp,hvS,hgl,hBg,hgc,hgf⟩:=hM.sform hi
 subst hvT hvS
 have hkv:kindV Bk (A t) (s.T t)=.iface 236 (ShdA (Bk j) (A t) (s.T t)):=by
  unfold kindV
  rw[if_neg (by omega),hsh]
  rfl
 rw[hkv]at hgTt
 have hhit:hitB s i t=true:=by unfold hitB;simp[hsh,hsi]
 have eI:findI s i t=(s.S i).place:=by unfold findI;rw[if_pos hhit]
 have eX:findX s i t={s.S i with hits:=oneM (s.S i).hits}:=by unfold findX;rw[if_pos hhit]
 obtain⟨W1,hW1⟩:∃W1,W1=(w.alloc (.cells Sh0 236)).alloc (.cells (shdL (Bk j) (A t) (s.T t)).toArray 236):=⟨_,rfl⟩
 have hbW:Below w.heap.size w W1:=by rw[hW1];exact((Below.refl _ _).alloc (Nat.le_refl _) _).alloc (by simp) _
 have hzW:W1.heap.size=w.heap.size+1+1:=by rw[hW1];simp
 have b0:W1.heap[w.heap.size]?=some (.cells Sh0 236 (0,0)):=by
  rw[hW1]
  exact(Deep.blk_alloc_lt _ _ _ (by simp)).trans (Deep.blk_alloc_new _ _)
 have b1:W1.heap[w.heap.size+1]?=some (.cells (shdL (Bk j) (A t) (s.T t)).toArray 236 (0,0)):=by
  rw[hW1]
  have h1:=Deep.blk_alloc_new (w.alloc (.cells Sh0 236)) (.cells (shdL (Bk j) (A t) (s.T t)).toArray 236)
  simpa using h1
 obtain⟨hE,hDE⟩:=hM.enter hbW
 have hcl:=hM.lt
 have hcl1:c<w.heap.size+1:=by omega
 have hgl1:g<w.heap.size+1:=by omega
 have hgTl1:gT<w.heap.size+1:=by omega
 obtain⟨c0,c1,c2,c3,cf⟩:=hM.cells
 have HST1:Hid ((Instr.storeAt 236 (.pointer (some ⟨w.heap.size+1,0,none⟩)) (ShdA (Bk j) (A t) (s.T t))).run Tryz.prog ((w.alloc (.cells Sh0 236)).alloc (.cells Sh0 236))=.ok () W1):=uy (by
  have h:=st_shN (w.alloc (.cells Sh0 236)) (Bk j) (A t) (s.T t)
  rw[World.size_alloc]at h
  rw[hW1]
  exact h)
 have HFin:Hid (∀q W2,W2=(W1.drewN q).setCell ⟨g,i*5+3,none⟩ (.int .i64 (oneM (s.S i).hits))->HeldF (w.heap.size+1) g (i*5) (s.S i).place (Bk j) (A t) (s.T t) W2.drew/\w.heap.size<W2.heap.size/\
   ∃w3,(Instr.storeAt 236 (.pointer (some ⟨w.heap.size,0,none⟩)) (.agg (shdL (Bk j) (A t) (s.T t)).toArray)).run Tryz.prog W2.drew=.ok () w3/\Stored W2.drew w3 w.heap.size (shdL (Bk j) (A t) (s.T t)).toArray 236/\HeldF (w.heap.size+1) g (i*5) (s.S i).place (Bk j) (A t) (s.T t) w3/\
   WkM Z w3 c B0 vN (.slice (some ⟨gT,0,none⟩) s.nt cpT) (.slice (some ⟨g,0,none⟩) s.ns cp) vU Bk A (findS s i t)/\Dst (OwnW B0 c vN (.slice (some ⟨gT,0,none⟩) s.nt cpT) (.slice (some ⟨g,0,none⟩) s.ns cp) w) w (OwnW B0 c vN (.slice (some ⟨gT,0,none⟩) s.nt cpT) (.slice (some ⟨g,0,none⟩) s.ns cp) w3) w3):=uy (by
  intro q W2 hq
  have hbq:Below W1.heap.size W1 (W1.drewN q):=⟨rfl,rfl,rfl,Nat.le_refl _,fun _ _=>rfl⟩
  obtain⟨m1,d1⟩:=hE.below hbq
  obtain⟨m2,d2⟩:=m1.setSite (i:=i) (j:=3) (u:=.int .i64 (oneM (s.S i).hits)) (x':=findX s i t) rfl hi (by omega) (by rw[eX];rfl)
  rw[<-hq]at m2 d2
  have hz2:W2.heap.size=W1.heap.size:=by rw[hq];simp
  have st:∀k,k≠g->W2.heap[k]?=W1.heap[k]?:=fun k hk=>by rw[hq];exact Deep.blk_setCell_other _ _ _ _ (by exact hk)
  have b0':W2.drew.heap[w.heap.size]?=some (.cells Sh0 236 (0,0)):=(st _ (by omega)).trans b0
  have b1':W2.drew.heap[w.heap.size+1]?=some (.cells (shdL (Bk j) (A t) (s.T t)).toArray 236 (0,0)):=(st _ (by omega)).trans b1
  obtain⟨_,_,hvS,_,_,hsc,_⟩:=m2.sform (i:=i) hi
  cases hvS
  have hpl:W2.drew.cell? ⟨g,i*5+2,none⟩=some (.int .i64 (s.S i).place):=hsc 2 _ (by
   show(siL (up1 s.S i (findX s i t) i))[2]?=_
   rw[up1_self,eX];rfl)
  have hc:=sh_cells b1'
  have hH:HeldF (w.heap.size+1) g (i*5) (s.S i).place (Bk j) (A t) (s.T t) W2.drew:=⟨hc 0 _ rfl,hc 1 _ rfl,hc 2 _ rfl,hc 3 _ rfl,hc 4 _ rfl,hc 5 _ rfl,hc 6 _ rfl,hc 7 _ rfl,hpl⟩
  obtain⟨w3,k1,k2⟩:=st_shA b0' (Bk j) (A t) (s.T t)
  have hc3:=sh_cells ((k2.other _ (by omega)).trans b1')
  have hd:Dst (OwnW B0 c vN (.slice (some ⟨gT,0,none⟩) s.nt cpT) (.slice (some ⟨g,0,none⟩) s.ns cp) w) w (OwnW B0 c vN (.slice (some ⟨gT,0,none⟩) s.nt cpT) (.slice (some ⟨g,0,none⟩) s.ns cp) W2.drew) W2.drew:=((hDE.trans d1).trans d2).drewW
  obtain⟨f1,f2⟩:=WkM.finS (m2.drew) hd hM.base (Nat.le_refl _) (by omega) b0' k2
  exact⟨hH,by omega,w3,k1,k2,⟨hc3 0 _ rfl,hc3 1 _ rfl,hc3 2 _ rfl,hc3 3 _ rfl,hc3 4 _ rfl,hc3 5 _ rfl,hc3 6 _ rfl,hc3 7 _ rfl,(World.cell?_of_block (a:=⟨g,i*5+2,none⟩) (k2.other g (by omega))).trans hpl⟩,f1,f2⟩)
 obtain⟨_,y1,y2,_,_⟩:=hE.cells
 have yT:=(hbW.cell (p:=⟨gT,t,none⟩) hgTl).trans hgTt
 have s1:=(hbW.cell (p:=⟨g,i*5+1,none⟩) hgl).trans (hgc 1 _ rfl)
 have s3:=(hbW.cell (p:=⟨g,i*5+3,none⟩) hgl).trans (hgc 3 _ rfl)
 have f3:W1.frozen? ⟨g,i*5+3,none⟩=false:=(hbW.frozen (p:=⟨g,i*5+3,none⟩) hgl).trans (hgf _)
 obtain⟨nl,n0,_⟩:=NdS.cell hE.nd hj
 have p7:W1.cell? ⟨w.heap.size+1,7,none⟩=some (.pointer (some ⟨Bk j,0,none⟩)):=sh_cells b1 7 _ rfl
 have l1:w.heap.size+1<W1.heap.size:=by omega
 have lc:c<W1.heap.size:=by omega
 have lg:g<W1.heap.size:=by omega
 rw[hsi]at s1
 have d0:((j:Int)==(j:Int))=true:=by simp
 have HEI:=uy eI
 have HTS:=uy hsh
 have ht1:=ta1 (ShdA (Bk j) (A t) (s.T t))
 have HOM:=uy (oneMore_any (s.S i).hits)
 have HH:=uy (And.intro hh0 hh1)
 clear hM hE hDE hbW hzW b0 b1 hkv hhit eI eX hW1 hgf hsh hsi cf c3 c0 hh0 hh1
 go_enter Tryz.func206,Tryz.ntmps206
 go_upto_region 3 with(refine wpList_store rfl rfl _ (uh HST1) ?_)
 clear c1 c2 hgTt hgc hcl hgl hgTl
 go_wp2_with fail
 go_quiet (fail)
 go_wp2_with fail
 refine(uh HOM _ (uh HH).1 (uh HH).2).mono ?_
 rintro e w2 ⟨rfl,rfl⟩
 go_upto_region 5 with fail
 obtain⟨W2,hW2⟩:∃W2,W2=(W1.drewN nq).setCell ⟨g,i*5+3,none⟩ (.int .i64 (oneM (s.S i).hits)):=⟨_,rfl⟩
 rw[<-hW2]
 obtain⟨hS0,l2,w3,hst,hS3,hS1,hm3,hd3⟩:=uh HFin nq W2 hW2
 have HST:=uy hst
 have HS3:=uy hS3
 have HM3:=uy (And.intro hm3 hd3)
 clear hW2 hst hS3 hm3 hd3 HFin s1 s3 f3 n0 p7 y1 y2 yT d0 ht1
 refine wpN_held (HeldF (w.heap.size+1) g (i*5) (s.S i).place (Bk j) (A t) (s.T t)) (by kernel_rfl) ?_
 change wpAnyH _ _ _ _ _ _ _ _ (World.drew _)
 refine tq 0 (v:=?_) ?_ ?_;rotate_left;intro w' ⟨s0,s1,s2,s3,s4,s5,s6,s7,s8⟩;go_simp;try with_reducible rfl
 simp only[Act.put,sA,sB,sC]
 refine tq 1 (v:=?_) ?_ ?_;rotate_left;intro w' ⟨s0,s1,s2,s3,s4,s5,s6,s7,s8⟩;go_simp;try with_reducible rfl
 simp only[Act.put,sA,sB,sC]
 refine tq 2 (v:=?_) ?_ ?_;rotate_left;intro w' ⟨s0,s1,s2,s3,s4,s5,s6,s7,s8⟩;go_simp;try with_reducible rfl
 simp only[Act.put,sA,sB,sC]
 refine tq 3 (v:=?_) ?_ ?_;rotate_left;intro w' ⟨s0,s1,s2,s3,s4,s5,s6,s7,s8⟩;go_simp;try with_reducible rfl
 simp only[Act.put,sA,sB,sC]
 refine tq 4 (v:=?_) ?_ ?_;rotate_left;intro w' ⟨s0,s1,s2,s3,s4,s5,s6,s7,s8⟩;go_simp;try with_reducible rfl
 simp only[Act.put,sA,sB,sC]
 refine wpAnyH_ready (rs:=[5]) (by kernel_rfl) (by simp) ?_
 refine AllReadyH.cons rfl (fun K hK=>?_) AllReadyH.nil
 refine step_store rfl rfl _ (uh HST) ?_
 refine hK.out _ _ hS1 (fun _=>?_)
 clear hK K
 refine tq 6 (v:=?_) ?_ ?_;rotate_left;intro w' ⟨s0,s1,s2,s3,s4,s5,s6,s7,s8⟩;go_simp;try with_reducible rfl
 (try simp only[Act.put]);(try simp only[List.setIfInBounds_toArray]);(try simp only[List.set_cons_succ]);try simp only[List.set_cons_zero]
 refine wpAnyH_done (by kernel_rfl) ?_ _
 refine QN.normal ?_
 have r0:w3.cell? ⟨w.heap.size,0,none⟩=some (.slice (A t).va (s.T t).nv (A t).vc):=st_cells (uh HS3) 0 _ rfl
 have r1:w3.cell? ⟨w.heap.size,1,none⟩=some (.slice (A t).la (s.T t).d.n (A t).lc):=st_cells (uh HS3) 1 _ rfl
 have r2:w3.cell? ⟨w.heap.size,2,none⟩=some (.slice (A t).ia (s.T t).d.m (A t).ic):=st_cells (uh HS3) 2 _ rfl
 have r3:w3.cell? ⟨w.heap.size,3,none⟩=some (.slice (A t).xa (s.T t).d.x (A t).xc):=st_cells (uh HS3) 3 _ rfl
 have r4:w3.cell? ⟨w.heap.size,4,none⟩=some (.int .i64 (s.T t).d.used):=st_cells (uh HS3) 4 _ rfl
 have r5:w3.cell? ⟨w.heap.size,5,none⟩=some (.int .i64 (s.T t).d.live):=st_cells (uh HS3) 5 _ rfl
 have r6:w3.cell? ⟨w.heap.size,6,none⟩=some (.int .i64 (s.T t).d.turns):=st_cells (uh HS3) 6 _ rfl
 have r7:w3.cell? ⟨w.heap.size,7,none⟩=some (.pointer (some ⟨Bk j,0,none⟩)):=st_cells (uh HS3) 7 _ rfl
 go_wp2_with fail
 refine bodyPost_ret (v:=.tuple #[.agg (shdL (Bk j) (A t) (s.T t)).toArray,.int .i64 (s.S i).place]) (by simp[results,Tryz.results206,go_sem,r0,r1,r2,r3,r4,r5,r6,r7,shdL]) rfl ⟨shdL (Bk j) (A t) (s.T t),rfl,shdL_one _ _ _,by rw[uh HEI],fun _=>⟨j,uh HTS,rfl⟩,(uh HM3).1,(uh HM3).2⟩
theorem NdS.placeE{w:World}{s:Sto}{b0:Nat}{B:Nat->Nat}(h:NdS w s b0 B)(h0:forestOk s.nf s.F=0){j:Nat}(hj:j<s.nf)(key:ByteArray):
  Calls Tryz.prog 181 #[.pointer (some ⟨B j,0,none⟩),.string key] w fun e w'=>e=.returned (.int .i64 (plcI s.F j key))/\w'=w:=by
 obtain⟨N,M,h1,h2⟩:=h
 refine(placeOf_any w s.F b0 s.nf B N M h1 h2 (forestOk_zero h0).2.1 (forestOk_zero h0).2.2.1 j hj key).mono ?_
 rintro e w' ⟨⟨q1,_⟩,rfl⟩
 exact⟨q1,rfl⟩
theorem find_none(Z:Nat->Prop)(c B0:Nat)(vN vT vS vU:Value)(Bk:Nat->Nat)(A:Nat->Ad)(s:Sto)(i t:Nat)(w:World)(hM:WkM Z w c B0 vN vT vS vU Bk A s)(hi:i<s.ns)(hns:s.ns<=50)(ht:t<s.nt)(hnt:s.nt<=100)(hsh:(s.T t).shape=-1)(hh0:0<=(s.S i).misses)(hh1:(s.S i).misses<=1000000000000):
  Calls Tryz.prog 206 #[.pointer (some ⟨c,0,none⟩),.int .i64 (i:Int),.int .i64 (t:Int)] w fun e w'=>FindP Z c B0 vN vT vS vU Bk A s i t w e w':=by
 obtain⟨gT,cpT,hvT,hgTl,_,hgTt,_⟩:=hM.tform ht
 obtain⟨g,cp,hvS,hgl,hBg,hgc,hgf⟩:=hM.sform hi
 subst hvT hvS
 have hkv:kindV Bk (A t) (s.T t)=.iface 239 (HdA (A t) (s.T t)):=if_pos hsh
 rw[hkv]at hgTt
 have hhit:hitB s i t=false:=by unfold hitB;simp[hsh]
 have eI:findI s i t=-1:=by unfold findI;rw[if_neg (by rw[hhit];decide),if_neg (by omega)]
 have eX:findX s i t={s.S i with misses:=oneM (s.S i).misses}:=by unfold findX;rw[if_neg (by rw[hhit];decide),if_neg (by omega)]
 obtain⟨W1,hW1⟩:∃W1,W1=(w.alloc (.cells Sh0 236)).alloc (.cells Sh0 236):=⟨_,rfl⟩
 have hbW:Below w.heap.size w W1:=by rw[hW1];exact((Below.refl _ _).alloc (Nat.le_refl _) _).alloc (by simp) _
 have hzW:W1.heap.size=w.heap.size+1+1:=by rw[hW1];simp
 have b0:W1.heap[w.heap.size]?=some (.cells Sh0 236 (0,0)):=by
  rw[hW1]
  exact(Deep.blk_alloc_lt _ _ _ (by simp)).trans (Deep.blk_alloc_new _ _)
 obtain⟨hE,hDE⟩:=hM.enter hbW
 have hcl:=hM.lt
 have hcl1:c<w.heap.size+1:=by omega
 have hgl1:g<w.heap.size+1:=by omega
 have hgTl1:gT<w.heap.size+1:=by omega
 obtain⟨c0,c1,c2,c3,cf⟩:=hM.cells
 have HST1:Hid ((Instr.storeAt 236 (.pointer (some ⟨w.heap.size+1,0,none⟩)) (.agg Sh0)).run Tryz.prog ((w.alloc (.cells Sh0 236)).alloc (.cells Sh0 236))=.ok () W1):=uy (by
  have h:=storeAt_new (t:=236) (v:=.agg Sh0) (old:=Sh0.toList) (vs:=Sh0.toList) sz_shaped (w.alloc (.cells Sh0 236)) (ty:=236) rfl rfl sh0_one rfl
  rw[World.size_alloc]at h
  rw[hW1]
  exact h)
 have HFin:Hid (∀q W2,W2=(W1.drewN q).setCell ⟨g,i*5+4,none⟩ (.int .i64 (oneM (s.S i).misses))->
   ∃w3,(Instr.storeAt 236 (.pointer (some ⟨w.heap.size,0,none⟩)) (.agg Sh0)).run Tryz.prog W2=.ok () w3/\Stored W2 w3 w.heap.size Sh0 236/\
   WkM Z w3 c B0 vN (.slice (some ⟨gT,0,none⟩) s.nt cpT) (.slice (some ⟨g,0,none⟩) s.ns cp) vU Bk A (findS s i t)/\Dst (OwnW B0 c vN (.slice (some ⟨gT,0,none⟩) s.nt cpT) (.slice (some ⟨g,0,none⟩) s.ns cp) w) w (OwnW B0 c vN (.slice (some ⟨gT,0,none⟩) s.nt cpT) (.slice (some ⟨g,0,none⟩) s.ns cp) w3) w3):=uy (by
  intro q W2 hq
  have hbq:Below W1.heap.size W1 (W1.drewN q):=⟨rfl,rfl,rfl,Nat.le_refl _,fun _ _=>rfl⟩
  obtain⟨m1,d1⟩:=hE.below hbq
  obtain⟨m2,d2⟩:=m1.setSite (i:=i) (j:=4) (u:=.int .i64 (oneM (s.S i).misses)) (x':=findX s i t) rfl hi (by omega) (by rw[eX];rfl)
  rw[<-hq]at m2 d2
  have st:∀k,k≠g->W2.heap[k]?=W1.heap[k]?:=fun k hk=>by rw[hq];exact Deep.blk_setCell_other _ _ _ _ (by exact hk)
  have b0':=(st _ (by omega)).trans b0
  obtain⟨w3,k1,k2⟩:=st_sh0 b0'
  obtain⟨f1,f2⟩:=WkM.finS m2 ((hDE.trans d1).trans d2) hM.base (Nat.le_refl _) (by omega) b0' k2
  exact⟨w3,k1,k2,f1,f2⟩)
 obtain⟨_,y1,y2,_,_⟩:=hE.cells
 have yT:=(hbW.cell (p:=⟨gT,t,none⟩) hgTl).trans hgTt
 have s4:=(hbW.cell (p:=⟨g,i*5+4,none⟩) hgl).trans (hgc 4 _ rfl)
 have f4:W1.frozen? ⟨g,i*5+4,none⟩=false:=(hbW.frozen (p:=⟨g,i*5+4,none⟩) hgl).trans (hgf _)
 have l1:w.heap.size+1<W1.heap.size:=by omega
 have lc:c<W1.heap.size:=by omega
 have lg:g<W1.heap.size:=by omega
 have HEI:=uy eI
 have HTS:=uy hsh
 have ht3:=ta3 (HdA (A t) (s.T t))
 have HOM:=uy (oneMore_any (s.S i).misses)
 have HH:=uy (And.intro hh0 hh1)
 clear hM hE hDE hbW hzW b0 hkv hhit eI eX hgf hsh cf c3 c0 hh0 hh1 hW1
 go_enter Tryz.func206,Tryz.ntmps206
 go_upto_region 3 with(refine wpList_store rfl rfl _ (uh HST1) ?_)
 clear c1 c2 hgTt hgc hcl hgl hgTl
 go_wp2_with fail
 go_quiet (fail)
 go_wp2_with fail
 refine(uh HOM _ (uh HH).1 (uh HH).2).mono ?_
 rintro e w2 ⟨rfl,rfl⟩
 go_upto_region 7 with fail
 obtain⟨W2,hW2⟩:∃W2,W2=(W1.drewN nq).setCell ⟨g,i*5+4,none⟩ (.int .i64 (oneM (s.S i).misses)):=⟨_,rfl⟩
 rw[<-hW2]
 obtain⟨w3,hst,hS3,hm3,hd3⟩:=uh HFin nq W2 hW2
 have HST:=uy hst
 have HS3:=uy hS3
 have HM3:=uy (And.intro hm3 hd3)
 clear hW2 hst hS3 hm3 hd3 HFin s4 f4 y1 y2 yT ht3
 have r0:w3.cell? ⟨w.heap.size,0,none⟩=some (.slice none 0 0):=st_cells (vs:=Sh0.toList) (uh HS3) 0 _ rfl
 have r1:w3.cell? ⟨w.heap.size,1,none⟩=some (.slice none 0 0):=st_cells (vs:=Sh0.toList) (uh HS3) 1 _ rfl
 have r2:w3.cell? ⟨w.heap.size,2,none⟩=some (.slice none 0 0):=st_cells (vs:=Sh0.toList) (uh HS3) 2 _ rfl
 have r3:w3.cell? ⟨w.heap.size,3,none⟩=some (.slice none 0 0):=st_cells (vs:=Sh0.toList) (uh HS3) 3 _ rfl
 have r4:w3.cell? ⟨w.heap.size,4,none⟩=some (.int .i64 0):=st_cells (vs:=Sh0.toList) (uh HS3) 4 _ rfl
 have r5:w3.cell? ⟨w.heap.size,5,none⟩=some (.int .i64 0):=st_cells (vs:=Sh0.toList) (uh HS3) 5 _ rfl
 have r6:w3.cell? ⟨w.heap.size,6,none⟩=some (.int .i64 0):=st_cells (vs:=Sh0.toList) (uh HS3) 6 _ rfl
 have r7:w3.cell? ⟨w.heap.size,7,none⟩=some (.pointer none):=st_cells (vs:=Sh0.toList) (uh HS3) 7 _ rfl
 go_wp2_with (refine wpList_store rfl rfl _ (uh HST) ?_)
 refine bodyPost_ret (v:=.tuple #[.agg Sh0,.int .i64 (-1)]) (by simp[results,Tryz.results206,go_sem,r0,r1,r2,r3,r4,r5,r6,r7]) rfl ⟨Sh0.toList,rfl,sh0_one,by rw[uh HEI],fun h=>absurd h (by rw[uh HEI];decide),(uh HM3).1,(uh HM3).2⟩
theorem find_miss(Z:Nat->Prop)(c B0:Nat)(vN vT vS vU:Value)(Bk:Nat->Nat)(A:Nat->Ad)(s:Sto)(i t j:Nat)(w:World)(hM:WkM Z w c B0 vN vT vS vU Bk A s)(hf:forestOk s.nf s.F=0)(hi:i<s.ns)(hns:s.ns<=50)(ht:t<s.nt)(hnt:s.nt<=100)(hsh:(s.T t).shape=j)(hj:j<s.nf)(hsi:(s.S i).shape≠j)(hh0:0<=(s.S i).misses)(hh1:(s.S i).misses<=1000000000000):
  Calls Tryz.prog 206 #[.pointer (some ⟨c,0,none⟩),.int .i64 (i:Int),.int .i64 (t:Int)] w fun e w'=>FindP Z c B0 vN vT vS vU Bk A s i t w e w':=by
 obtain⟨gT,cpT,hvT,hgTl,_,hgTt,_⟩:=hM.tform ht
 obtain⟨g,cp,hvS,hgl,hBg,hgc,hgf⟩:=hM.sform hi
 subst hvT hvS
 have hkv:kindV Bk (A t) (s.T t)=.iface 236 (ShdA (Bk j) (A t) (s.T t)):=by
  unfold kindV
  rw[if_neg (by omega),hsh]
  rfl
 rw[hkv]at hgTt
 have hhit:hitB s i t=false:=by unfold hitB;rw[hsh];simp;omega
 obtain⟨pl,hpl⟩:∃pl,pl=plcI s.F j (s.S i).key:=⟨_,rfl⟩
 have eI:findI s i t=pl:=by unfold findI;rw[if_neg (by rw[hhit];decide),if_pos (by omega),hsh,hpl];rfl
 have eX:findX s i t=if 0<=pl then⟨(s.S i).key,(j:Int),pl,(s.S i).hits,oneM (s.S i).misses⟩else{s.S i with misses:=oneM (s.S i).misses}:=by
  unfold findX
  rw[if_neg (by rw[hhit];decide),hsh,show((j:Int)).toNat=j by omega,<-hpl]
  by_cases h0:0<=pl
  ·rw[if_pos ⟨by omega,h0⟩,if_pos h0]
  ·rw[if_neg (fun h=>h0 h.2),if_neg h0]
 obtain⟨W1,hW1⟩:∃W1,W1=(w.alloc (.cells Sh0 236)).alloc (.cells (shdL (Bk j) (A t) (s.T t)).toArray 236):=⟨_,rfl⟩
 have hbW:Below w.heap.size w W1:=by rw[hW1];exact((Below.refl _ _).alloc (Nat.le_refl _) _).alloc (by simp) _
 have hzW:W1.heap.size=w.heap.size+1+1:=by rw[hW1];simp
 have b0:W1.heap[w.heap.size]?=some (.cells Sh0 236 (0,0)):=by
  rw[hW1]
  exact(Deep.blk_alloc_lt _ _ _ (by simp)).trans (Deep.blk_alloc_new _ _)
 have b1:W1.heap[w.heap.size+1]?=some (.cells (shdL (Bk j) (A t) (s.T t)).toArray 236 (0,0)):=by
  rw[hW1]
  have h1:=Deep.blk_alloc_new (w.alloc (.cells Sh0 236)) (.cells (shdL (Bk j) (A t) (s.T t)).toArray 236)
  simpa using h1
 obtain⟨hE,hDE⟩:=hM.enter hbW
 have hcl:=hM.lt
 have hcl1:c<w.heap.size+1:=by omega
 have hgl1:g<w.heap.size+1:=by omega
 have hgTl1:gT<w.heap.size+1:=by omega
 obtain⟨c0,c1,c2,c3,cf⟩:=hM.cells
 have HST1:Hid ((Instr.storeAt 236 (.pointer (some ⟨w.heap.size+1,0,none⟩)) (ShdA (Bk j) (A t) (s.T t))).run Tryz.prog ((w.alloc (.cells Sh0 236)).alloc (.cells Sh0 236))=.ok () W1):=uy (by
  have h:=st_shN (w.alloc (.cells Sh0 236)) (Bk j) (A t) (s.T t)
  rw[World.size_alloc]at h
  rw[hW1]
  exact h)
 obtain⟨x1,hx1⟩:∃x1:Si,x1={s.S i with misses:=oneM (s.S i).misses}:=⟨_,rfl⟩
 have HMid:Hid (∀q W2,W2=(W1.drewN q).setCell ⟨g,i*5+4,none⟩ (.int .i64 (oneM (s.S i).misses))->
   WkM (ZB Z w.heap.size W1.heap.size) W2 c B0 vN (.slice (some ⟨gT,0,none⟩) s.nt cpT) (.slice (some ⟨g,0,none⟩) s.ns cp) vU Bk A {s with S:=up1 s.S i x1}/\Dst (OwnW B0 c vN (.slice (some ⟨gT,0,none⟩) s.nt cpT) (.slice (some ⟨g,0,none⟩) s.ns cp) w) w (OwnW B0 c vN (.slice (some ⟨gT,0,none⟩) s.nt cpT) (.slice (some ⟨g,0,none⟩) s.ns cp) W2) W2/\
   W2.heap[w.heap.size]?=some (.cells Sh0 236 (0,0))/\W2.heap[w.heap.size+1]?=some (.cells (shdL (Bk j) (A t) (s.T t)).toArray 236 (0,0))/\(∀q2,Calls Tryz.prog 181 #[.pointer (some ⟨Bk j,0,none⟩),.string (s.S i).key] (W2.drewN q2) fun e w'=>e=.returned (.int .i64 pl)/\w'=W2.drewN q2)):=uy (by
  intro q W2 hq
  have hbq:Below W1.heap.size W1 (W1.drewN q):=⟨rfl,rfl,rfl,Nat.le_refl _,fun _ _=>rfl⟩
  obtain⟨m1,d1⟩:=hE.below hbq
  obtain⟨m2,d2⟩:=m1.setSite (i:=i) (j:=4) (u:=.int .i64 (oneM (s.S i).misses)) (x':=x1) rfl hi (by omega) (by rw[hx1];rfl)
  rw[<-hq]at m2 d2
  have st:∀k,k≠g->W2.heap[k]?=W1.heap[k]?:=fun k hk=>by rw[hq];exact Deep.blk_setCell_other _ _ _ _ (by exact hk)
  refine⟨m2,(hDE.trans d1).trans d2,(st _ (by omega)).trans b0,(st _ (by omega)).trans b1,fun q2=>?_⟩
  have hbq2:Below W2.heap.size W2 (W2.drewN q2):=⟨rfl,rfl,rfl,Nat.le_refl _,fun _ _=>rfl⟩
  have hn:NdS (W2.drewN q2) s B0 Bk:=(m2.below hbq2).1.nd
  rw[hpl]
  exact hn.placeE hf hj _)
 have HEnd:Hid (∀W3,WkM (ZB Z w.heap.size W1.heap.size) W3 c B0 vN (.slice (some ⟨gT,0,none⟩) s.nt cpT) (.slice (some ⟨g,0,none⟩) s.ns cp) vU Bk A (findS s i t)->Dst (OwnW B0 c vN (.slice (some ⟨gT,0,none⟩) s.nt cpT) (.slice (some ⟨g,0,none⟩) s.ns cp) w) w (OwnW B0 c vN (.slice (some ⟨gT,0,none⟩) s.nt cpT) (.slice (some ⟨g,0,none⟩) s.ns cp) W3) W3->W3.heap[w.heap.size]?=some (.cells Sh0 236 (0,0))->
   ∃w3,(Instr.storeAt 236 (.pointer (some ⟨w.heap.size,0,none⟩)) (.agg (shdL (Bk j) (A t) (s.T t)).toArray)).run Tryz.prog W3=.ok () w3/\Stored W3 w3 w.heap.size (shdL (Bk j) (A t) (s.T t)).toArray 236/\
   FindP Z c B0 vN (.slice (some ⟨gT,0,none⟩) s.nt cpT) (.slice (some ⟨g,0,none⟩) s.ns cp) vU Bk A s i t w (.returned (.tuple #[.agg (shdL (Bk j) (A t) (s.T t)).toArray,.int .i64 pl])) w3):=uy (by
  intro W3 m3 d3 hb
  obtain⟨w3,k1,k2⟩:=st_shA hb (Bk j) (A t) (s.T t)
  obtain⟨f1,f2⟩:=WkM.finS m3 d3 hM.base (Nat.le_refl _) (by omega) hb k2
  exact⟨w3,k1,k2,shdL (Bk j) (A t) (s.T t),rfl,shdL_one _ _ _,by rw[eI],fun _=>⟨j,hsh,rfl⟩,f1,f2⟩)
 have HEX:=uy eX
 have HX1:=uy hx1
 obtain⟨_,y1,y2,_,_⟩:=hE.cells
 have yT:=(hbW.cell (p:=⟨gT,t,none⟩) hgTl).trans hgTt
 have s1:=(hbW.cell (p:=⟨g,i*5+1,none⟩) hgl).trans (hgc 1 _ rfl)
 have s4:=(hbW.cell (p:=⟨g,i*5+4,none⟩) hgl).trans (hgc 4 _ rfl)
 have f4:W1.frozen? ⟨g,i*5+4,none⟩=false:=(hbW.frozen (p:=⟨g,i*5+4,none⟩) hgl).trans (hgf _)
 obtain⟨nl,n0,_⟩:=NdS.cell hE.nd hj
 have p7:W1.cell? ⟨w.heap.size+1,7,none⟩=some (.pointer (some ⟨Bk j,0,none⟩)):=sh_cells b1 7 _ rfl
 have l1:w.heap.size+1<W1.heap.size:=by omega
 have lc:c<W1.heap.size:=by omega
 have lg:g<W1.heap.size:=by omega
 have d0:((j:Int)==(s.S i).shape)=false:=by simp;omega
 have ht1:=ta1 (ShdA (Bk j) (A t) (s.T t))
 have HOM:=uy (oneMore_any (s.S i).misses)
 have HH:=uy (And.intro hh0 hh1)
 have hgw:g≠w.heap.size:=by omega
 have hgw1:g≠w.heap.size+1:=by omega
 clear hM hE hDE hbW hzW b0 b1 hkv hhit eI eX hgf hsh hsi cf c3 c0 hh0 hh1 hW1 hx1 hpl hf
 go_enter Tryz.func206,Tryz.ntmps206
 go_upto_region 3 with(refine wpList_store rfl rfl _ (uh HST1) ?_)
 clear c1 c2 hgTt hgc hcl hgl hgTl
 go_wp2_with fail
 go_quiet (fail)
 go_wp2_with fail
 refine(uh HOM _ (uh HH).1 (uh HH).2).mono ?_
 rintro e w2 ⟨rfl,rfl⟩
 go_upto_region 7 with fail
 obtain⟨W2,hW2⟩:∃W2,W2=(W1.drewN nq).setCell ⟨g,i*5+4,none⟩ (.int .i64 (oneM (s.S i).misses)):=⟨_,rfl⟩
 rw[<-hW2]
 obtain⟨hm2,hd2,hb0,hb1,hpc⟩:=uh HMid nq W2 hW2
 obtain⟨nl2,n02,_⟩:=NdS.cell (s:={s with S:=up1 s.S i x1}) hm2.nd hj
 obtain⟨_,_,hvS2,lg2,_,hsc,hsf⟩:=hm2.sform (i:=i) hi
 cases hvS2
 have hks:W2.cell? ⟨g,i*5,none⟩=some (.string (s.S i).key):=hsc 0 _ (by
  show(siL (up1 s.S i x1 i))[0]?=_
  rw[up1_self,uh HX1];rfl)
 obtain⟨k1,hk1⟩:∃u,W2.cell? ⟨g,i*5+1,none⟩=some u:=⟨_,hsc 1 _ rfl⟩
 obtain⟨k2,hk2⟩:∃u,W2.cell? ⟨g,i*5+2,none⟩=some u:=⟨_,hsc 2 _ rfl⟩
 have g1:=hsf (i*5+1)
 have g2:=hsf (i*5+2)
 have q7:W2.cell? ⟨w.heap.size+1,7,none⟩=some (.pointer (some ⟨Bk j,0,none⟩)):=sh_cells hb1 7 _ rfl
 have lb1:=blk_lt hb1
 have HM2:=uy (And.intro hm2 hd2)
 have HB0:=uy hb0
 have HB1:=uy hb1
 have HPC:=uy hpc
 clear hW2 hm2 hd2 hb0 hb1 hpc HMid s1 s4 f4 n0 p7 y1 y2 yT d0 ht1 hsc hsf nl HH HOM HST1
 go_wp2_with fail
 go_quiet (exact Calls.quiet_of_same (uh HPC _))
 by_cases h0:0<=pl
 ·have hd0:decide (0<=pl)=true:=by simp[h0]
  have HF3:Hid (∀q W3,W3=((W2.drewN q).setCell ⟨g,i*5+1,none⟩ (.int .i64 (j:Int))).setCell ⟨g,i*5+2,none⟩ (.int .i64 pl)->W3.heap[w.heap.size+1]?=some (.cells (shdL (Bk j) (A t) (s.T t)).toArray 236 (0,0))/\∃w3,(Instr.storeAt 236 (.pointer (some ⟨w.heap.size,0,none⟩)) (.agg (shdL (Bk j) (A t) (s.T t)).toArray)).run Tryz.prog W3=.ok () w3/\Stored W3 w3 w.heap.size (shdL (Bk j) (A t) (s.T t)).toArray 236/\
   FindP Z c B0 vN (.slice (some ⟨gT,0,none⟩) s.nt cpT) (.slice (some ⟨g,0,none⟩) s.ns cp) vU Bk A s i t w (.returned (.tuple #[.agg (shdL (Bk j) (A t) (s.T t)).toArray,.int .i64 pl])) w3):=uy (by
   intro q W3 hq
   obtain⟨m2,d2⟩:=uh HM2
   have hbq2:Below W2.heap.size W2 (W2.drewN q):=⟨rfl,rfl,rfl,Nat.le_refl _,fun _ _=>rfl⟩
   obtain⟨m3,d3⟩:=m2.below hbq2
   obtain⟨m4,d4⟩:=m3.setSite (i:=i) (j:=1) (u:=.int .i64 (j:Int)) (x':={x1 with shape:=(j:Int)}) rfl hi (by omega) (by
    show _=(siL (up1 s.S i x1 i)).set 1 _
    rw[up1_self];rfl)
   obtain⟨m5,d5⟩:=m4.setSite (i:=i) (j:=2) (u:=.int .i64 pl) (x':={x1 with shape:=(j:Int),place:=pl}) rfl hi (by omega) (by
    show _=(siL (up1 (up1 s.S i x1) i {x1 with shape:=(j:Int)} i)).set 2 _
    rw[up1_self];rfl)
   rw[<-hq]at m5 d5
   have st:∀k,k≠g->W3.heap[k]?=W2.heap[k]?:=fun k hk=>by
    rw[hq]
    exact(Deep.blk_setCell_other _ _ _ _ (by exact hk)).trans (Deep.blk_setCell_other _ _ _ _ (by exact hk))
   have eS:findS s i t={s with S:=up1 (up1 (up1 s.S i x1) i {x1 with shape:=(j:Int)}) i {x1 with shape:=(j:Int),place:=pl}}:=by
    unfold findS
    rw[up1_up1,up1_up1,uh HEX,if_pos h0,uh HX1]
   refine⟨(st _ (fun e=>hgw1 e.symm)).trans (uh HB1),uh HEnd W3 (by rw[eS];exact m5) (((d2.trans d3).trans d4).trans d5) ((st _ (fun e=>hgw e.symm)).trans (uh HB0))⟩)
  clear h0
  go_upto_region 12 with fail
  obtain⟨W3,hW3⟩:∃W3,W3=((W2.drewN nq).setCell ⟨g,i*5+1,none⟩ (.int .i64 (j:Int))).setCell ⟨g,i*5+2,none⟩ (.int .i64 pl):=⟨_,rfl⟩
  rw[<-hW3]
  obtain⟨hx3,w3,hst,hS3,hFP⟩:=uh HF3 nq W3 hW3
  have HST:=uy hst
  have HS3:=uy hS3
  have HFP:=uy hFP
  have HX3:Hid (W3.heap[w.heap.size+1]?=some (.cells #[.slice (A t).va (s.T t).nv (A t).vc,.slice (A t).la (s.T t).d.n (A t).lc,.slice (A t).ia (s.T t).d.m (A t).ic,.slice (A t).xa (s.T t).d.x (A t).xc,.int .i64 (s.T t).d.used,.int .i64 (s.T t).d.live,.int .i64 (s.T t).d.turns,.pointer (some ⟨Bk j,0,none⟩)] 236 (0,0))):=uy hx3
  clear hst hS3 hFP hx3 hW3 HF3
  have r0:w3.cell? ⟨w.heap.size,0,none⟩=some (.slice (A t).va (s.T t).nv (A t).vc):=st_cells (uh HS3) 0 _ rfl
  have r1:w3.cell? ⟨w.heap.size,1,none⟩=some (.slice (A t).la (s.T t).d.n (A t).lc):=st_cells (uh HS3) 1 _ rfl
  have r2:w3.cell? ⟨w.heap.size,2,none⟩=some (.slice (A t).ia (s.T t).d.m (A t).ic):=st_cells (uh HS3) 2 _ rfl
  have r3:w3.cell? ⟨w.heap.size,3,none⟩=some (.slice (A t).xa (s.T t).d.x (A t).xc):=st_cells (uh HS3) 3 _ rfl
  have r4:w3.cell? ⟨w.heap.size,4,none⟩=some (.int .i64 (s.T t).d.used):=st_cells (uh HS3) 4 _ rfl
  have r5:w3.cell? ⟨w.heap.size,5,none⟩=some (.int .i64 (s.T t).d.live):=st_cells (uh HS3) 5 _ rfl
  have r6:w3.cell? ⟨w.heap.size,6,none⟩=some (.int .i64 (s.T t).d.turns):=st_cells (uh HS3) 6 _ rfl
  have r7:w3.cell? ⟨w.heap.size,7,none⟩=some (.pointer (some ⟨Bk j,0,none⟩)):=st_cells (uh HS3) 7 _ rfl
  go_wp2_with (first|(refine wpList_load_row rfl 236 _ rfl (w.heap.size+1) rfl _ _ _ _ (uh HX3) Tryz.underlying236 rfl info8 ?_)|(refine wpList_store rfl rfl _ (uh HST) ?_))
  refine bodyPost_ret (v:=.tuple #[.agg (shdL (Bk j) (A t) (s.T t)).toArray,.int .i64 pl]) (by simp[results,Tryz.results206,go_sem,r0,r1,r2,r3,r4,r5,r6,r7,shdL]) rfl (uh HFP)
 ·have hd0:decide (0<=pl)=false:=by simp[h0]
  have HF3:Hid (∀q W3,W3=W2.drewN q->W3.heap[w.heap.size+1]?=some (.cells (shdL (Bk j) (A t) (s.T t)).toArray 236 (0,0))/\∃w3,(Instr.storeAt 236 (.pointer (some ⟨w.heap.size,0,none⟩)) (.agg (shdL (Bk j) (A t) (s.T t)).toArray)).run Tryz.prog W3=.ok () w3/\Stored W3 w3 w.heap.size (shdL (Bk j) (A t) (s.T t)).toArray 236/\
   FindP Z c B0 vN (.slice (some ⟨gT,0,none⟩) s.nt cpT) (.slice (some ⟨g,0,none⟩) s.ns cp) vU Bk A s i t w (.returned (.tuple #[.agg (shdL (Bk j) (A t) (s.T t)).toArray,.int .i64 pl])) w3):=uy (by
   intro q W3 hq
   obtain⟨m2,d2⟩:=uh HM2
   have hbq2:Below W2.heap.size W2 W3:=by rw[hq];exact⟨rfl,rfl,rfl,Nat.le_refl _,fun _ _=>rfl⟩
   obtain⟨m3,d3⟩:=m2.below hbq2
   have eS:findS s i t={s with S:=up1 s.S i x1}:=by
    unfold findS
    rw[uh HEX,if_neg h0,uh HX1]
   refine⟨(hbq2.block _ lb1).trans (uh HB1),uh HEnd W3 (by rw[eS];exact m3) (d2.trans d3) ((hbq2.block _ (by omega)).trans (uh HB0))⟩)
  clear h0
  go_upto_region 12 with fail
  obtain⟨W3,hW3⟩:∃W3,W3=W2.drewN nq:=⟨_,rfl⟩
  rw[<-hW3]
  obtain⟨hx3,w3,hst,hS3,hFP⟩:=uh HF3 nq W3 hW3
  have HST:=uy hst
  have HS3:=uy hS3
  have HFP:=uy hFP
  have HX3:Hid (W3.heap[w.heap.size+1]?=some (.cells #[.slice (A t).va (s.T t).nv (A t).vc,.slice (A t).la (s.T t).d.n (A t).lc,.slice (A t).ia (s.T t).d.m (A t).ic,.slice (A t).xa (s.T t).d.x (A t).xc,.int .i64 (s.T t).d.used,.int .i64 (s.T t).d.live,.int .i64 (s.T t).d.turns,.pointer (some ⟨Bk j,0,none⟩)] 236 (0,0))):=uy hx3
  clear hst hS3 hFP hx3 hW3 HF3
  have r0:w3.cell? ⟨w.heap.size,0,none⟩=some (.slice (A t).va (s.T t).nv (A t).vc):=st_cells (uh HS3) 0 _ rfl
  have r1:w3.cell? ⟨w.heap.size,1,none⟩=some (.slice (A t).la (s.T t).d.n (A t).lc):=st_cells (uh HS3) 1 _ rfl
  have r2:w3.cell? ⟨w.heap.size,2,none⟩=some (.slice (A t).ia (s.T t).d.m (A t).ic):=st_cells (uh HS3) 2 _ rfl
  have r3:w3.cell? ⟨w.heap.size,3,none⟩=some (.slice (A t).xa (s.T t).d.x (A t).xc):=st_cells (uh HS3) 3 _ rfl
  have r4:w3.cell? ⟨w.heap.size,4,none⟩=some (.int .i64 (s.T t).d.used):=st_cells (uh HS3) 4 _ rfl
  have r5:w3.cell? ⟨w.heap.size,5,none⟩=some (.int .i64 (s.T t).d.live):=st_cells (uh HS3) 5 _ rfl
  have r6:w3.cell? ⟨w.heap.size,6,none⟩=some (.int .i64 (s.T t).d.turns):=st_cells (uh HS3) 6 _ rfl
  have r7:w3.cell? ⟨w.heap.size,7,none⟩=some (.pointer (some ⟨Bk j,0,none⟩)):=st_cells (uh HS3) 7 _ rfl
  go_wp2_with (first|(refine wpList_load_row rfl 236 _ rfl (w.heap.size+1) rfl _ _ _ _ (uh HX3) Tryz.underlying236 rfl info8 ?_)|(refine wpList_store rfl rfl _ (uh HST) ?_))
  refine bodyPost_ret (v:=.tuple #[.agg (shdL (Bk j) (A t) (s.T t)).toArray,.int .i64 pl]) (by simp[results,Tryz.results206,go_sem,r0,r1,r2,r3,r4,r5,r6,r7,shdL]) rfl (uh HFP)
theorem wFind_any(Z:Nat->Prop)(c B0:Nat)(vN vT vS vU:Value)(Bk:Nat->Nat)(A:Nat->Ad)(s:Sto)(i t:Nat)(w:World)(hM:WkM Z w c B0 vN vT vS vU Bk A s)(hf:forestOk s.nf s.F=0)(hi:i<s.ns)(hns:s.ns<=50)(ht:t<s.nt)(hnt:s.nt<=100)(hx:TGd s (s.T t))(hs:okS s (s.S i)):
  Calls Tryz.prog 206 #[.pointer (some ⟨c,0,none⟩),.int .i64 (i:Int),.int .i64 (t:Int)] w fun e w'=>FindP Z c B0 vN vT vS vU Bk A s i t w e w':=by
 obtain⟨_,h1,h2,h3,h4,_⟩:=hs
 rcases hx.way with⟨e,_⟩|⟨j,e,hj,_⟩
 ·exact find_none Z c B0 vN vT vS vU Bk A s i t w hM hi hns ht hnt e h2 h4
 ·by_cases hsi:(s.S i).shape=j
  ·exact find_hit Z c B0 vN vT vS vU Bk A s i t j w hM hi hns ht hnt e hj hsi h1 h3
  ·exact find_miss Z c B0 vN vT vS vU Bk A s i t j w hM hf hi hns ht hnt e hj hsi h2 h4
end
end Go.Proofs.YtgmlkfgfjjggnaaGreatDoor
