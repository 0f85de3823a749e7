import Derived.Test.YtgmlkfgfjjggnaaGreatDoorSAT
import Derived.Test.YtgmlkfgfjjggnaaGreatDoorSBF
import Derived.Deep.QuietTactic
import Derived.BigQuiet
import Derived.Test.YtgmlkfgfjjggnaaGreatDoorSAL
import Derived.Test.YtgmlkfgfjjggnaaGreatDoorSAO
import Derived.Test.YtgmlkfgfjjggnaaGreatDoorSAR
set_option linter.unusedVariables false
set_option linter.unusedSimpArgs false
set_option maxHeartbeats 40000000
set_option maxRecDepth 100000
namespace Go.Proofs.YtgmlkfgfjjggnaaGreatDoor
section
open Go.RowKit
attribute [local go_sem] run_store_float run_equalIn_float run_store_func
def HeldGf(c g ab t i:Nat)(vT kv:Value)(W:World):Prop:=W.cell? ⟨c,1,none⟩=some vT/\W.cell? ⟨g,t,none⟩=some kv/\W.cell? ⟨ab,1,none⟩=some (.int .i64 (t:Int))/\W.cell? ⟨ab,2,none⟩=some (.int .i64 (i:Int))
theorem HeldGf.keep{c g ab t i:Nat}{vT kv:Value}{w w':World}(h:HeldGf c g ab t i vT kv w)(hc:w'.heap[c]?=w.heap[c]?)(hg:w'.heap[g]?=w.heap[g]?)(ha:w'.heap[ab]?=w.heap[ab]?):HeldGf c g ab t i vT kv w':=by
 obtain⟨h1,h2,h3,h4⟩:=h
 exact⟨(World.cell?_of_block (a:=⟨c,1,none⟩) hc).trans h1,(World.cell?_of_block (a:=⟨g,t,none⟩) hg).trans h2,(World.cell?_of_block (a:=⟨ab,1,none⟩) ha).trans h3,(World.cell?_of_block (a:=⟨ab,2,none⟩) ha).trans h4⟩
theorem st_rec(w:World){vs:List Value}(h8:vs.length=8)(h1:∀u∈vs,u.oneCell'=true):(Instr.storeAt 236 (.pointer (some ⟨w.heap.size,0,none⟩)) (.agg vs.toArray)).run Tryz.prog (w.alloc (.cells Sh0 236))=.ok () (w.alloc (.cells vs.toArray 236)):=
 storeAt_new (old:=Sh0.toList) sz_shaped w (by rw[h8];rfl) h8 h1 rfl
theorem wGetField_any(Z:Nat->Prop)(c B0:Nat)(vN vT vS vU:Value)(Bk:Nat->Nat)(A:Nat->Ad)(s:Sto)(a:Ac)(t i:Nat)(w:World)(hM:WkM Z w c B0 vN vT vS vU Bk A s)(hG:SGd s)(hT:Tabs w)(et:a.t=t)(ht:t<s.nt)(ei:a.site=i)(hi:i<s.ns)(hB0:5<=B0):
  Calls Tryz.prog 148 #[.pointer (some ⟨c,0,none⟩),AcV a] w fun e w'=>Deed Z c B0 vN vT vS (findS s i t) (ansV (if 0<=findI s i t then(s.T t).V (findI s i t).toNat else tget s.F (s.T t) (strV (s.S i).key))) w e w':=by
 obtain⟨X,hX⟩:∃X,X=ansV (if 0<=findI s i t then(s.T t).V (findI s i t).toNat else tget s.F (s.T t) (strV (s.S i).key)):=⟨_,rfl⟩
 rw[<-hX]
 have HXX:=uy hX
 clear hX
 obtain⟨g,cp,hvT,hgl,hBg,hgt,hgf⟩:=hM.tform ht
 subst hvT
 obtain⟨W,hW,hb0,hA,hR,hz⟩:=boxes w a
 have hcl:=hM.lt
 have hbase:=hM.base
 obtain⟨hE,hDE⟩:=hM.enter hb0
 have hx:=hG.t t ht
 have hns:=hG.ns
 have hnt:=hG.nt
 have hf:=hG.f
 have hFI:0<=findI s i t->∃q:Nat,findI s i t=q/\q<(s.T t).nv:=fun h=>by
  obtain⟨_,q,_,_,h1,h2,_⟩:=findI_rng hG hi ht h
  exact⟨q,h1,h2⟩
 have HFND:=uy (wFind_any _ c B0 vN _ vS vU Bk A s i t W hE hf hi hns ht hnt hx (hG.si i hi))
 obtain⟨a0,a1,a2,a3,_⟩:=hA.all
 rw[et]at a1
 rw[ei]at a2
 have HA:=uy hA
 have HR:=uy hR
 have HE:=uy hE
 have HDE:=uy hDE
 have HTW:=uy (lastsT _ _ hT hb0)
 have HFI:=uy hFI
 have HTG:=uy (kind_get (B0:=B0) (Bk:=Bk) (A:=A t) hf hx (ky_str (hG.si i hi).1))
 have lW:w.heap.size<W.heap.size:=by omega
 have lc:c<W.heap.size:=by omega
 have HFin:Hid (∀w3 w5 x,WkM (ZB Z w.heap.size W.heap.size) w3 c B0 vN (.slice (some ⟨g,0,none⟩) s.nt cp) vS vU Bk A (findS s i t)->Dst (OwnW B0 c vN (.slice (some ⟨g,0,none⟩) s.nt cp) vS w) w (OwnW B0 c vN (.slice (some ⟨g,0,none⟩) s.nt cp) vS w3) w3->RBx w3 (w.heap.size+1)->Stored w3 w5 (w.heap.size+1) (anL x).toArray 45->Deed Z c B0 vN (.slice (some ⟨g,0,none⟩) s.nt cp) vS (findS s i t) x w (.returned (.tuple #[AnV x,errV 0])) w5):=uy (fun w3 w5 x m3 d3 hr hst=>by
  obtain⟨f1,f2⟩:=m3.finA d3 hbase (by omega) (by omega) hr hst
  exact⟨x,0,_,_,_,_,rfl,f2,.inl ⟨rfl,rfl,Bk,A,f1⟩⟩)
 clear hM hG hT et ei hE hDE hA hR hb0 hgt hgf hx hf hFI
 go_enter Tryz.func148,Tryz.ntmps148
 go_upto_region 1 with fail
 rw[<-hW]
 clear hW
 go_wp2_with fail
 refine(uh HFND).mono ?_
 rintro e w3 ⟨vs,h8,h1,rfl,hvs,m3,d3⟩
 have hab:=(d3.boxes (uh HE) (uh HA) (.inr (.inr (.inr rfl))))
 have hrb:=(d3.boxes (uh HE) (uh HR) (.inr (.inr (.inl rfl))))
 have z3:=d3.size
 obtain⟨W4,hW4⟩:∃W4,W4=w3.alloc (.cells vs.toArray 236):=⟨_,rfl⟩
 have hb4:Below w3.heap.size w3 W4:=by rw[hW4];exact(Below.refl _ _).alloc (Nat.le_refl _) _
 have hx4:W4.heap[w3.heap.size]?=some (.cells vs.toArray 236 (0,0)):=by rw[hW4];exact Deep.blk_alloc_new _ _
 have HST4:Hid ((Instr.storeAt 236 (.pointer (some ⟨w3.heap.size,0,none⟩)) (.agg vs.toArray)).run Tryz.prog (w3.alloc (.cells Sh0 236))=.ok () W4):=uy (by rw[hW4];exact st_rec w3 h8 h1)
 obtain⟨m4,d4⟩:=m3.below hb4
 have hd4:=((uh HDE).trans d3).trans d4
 have hr4:RBx W4 (w.heap.size+1):=(hb4.block _ (by omega)).trans (hrb.trans (uh HR))
 have ha4:ABx W4 w.heap.size a:=(hb4.block _ (by omega)).trans (hab.trans (uh HA))
 have b1:W4.cell? ⟨w.heap.size,1,none⟩=some (.int .i64 (t:Int)):=(World.cell?_of_block (a:=⟨w.heap.size,1,none⟩) ((hb4.block w.heap.size (by omega)).trans hab)).trans a1
 have b2:W4.cell? ⟨w.heap.size,2,none⟩=some (.int .i64 (i:Int)):=(World.cell?_of_block (a:=⟨w.heap.size,2,none⟩) ((hb4.block w.heap.size (by omega)).trans hab)).trans a2
 have HM4:=uy m4
 have HD4:=uy hd4
 have HR4:=uy hr4
 have HVS:=uy hvs
 have HX4:=uy hx4
 have HT4:Hid (Tabs W4):=uy (by
  have h3:Tabs w3:=(uh HTW).below (B:=B0) ⟨d3.os,d3.tape,d3.output,d3.size,fun q hq=>d3.block q (by omega) (fun e=>by have:=((uh HE).rng e).1;omega)⟩ (by omega)
  exact lastsT _ _ h3 hb4)
 have z4:=blk_lt hx4
 obtain⟨fi,hfi⟩:∃fi,fi=findI s i t:=⟨_,rfl⟩
 rw[<-hfi]at HVS HFI ⊢
 clear m3 d3 hab hrb hb4 hx4 hW4 m4 d4 hd4 hr4 ha4 hvs a0 a1 a2 a3
 by_cases h0:0<=fi
 ·obtain⟨q,hq,hqn⟩:=uh HFI h0
  obtain⟨j,hj,hvj⟩:=uh HVS h0
  have hd0:decide (0<=fi)=true:=by simp[h0]
  have hc:=sh_cells (p:=Bk j) (A:=A t) (t:=s.T t) (by rw[<-hvj];exact uh HX4)
  have p0:W4.cell? ⟨w3.heap.size,0,none⟩=some (.slice (A t).va (s.T t).nv (A t).vc):=hc 0 _ rfl
  have hV:VAt W4 (A t).va (s.T t).nv (s.T t).V:=((uh HM4).rd t ht).now.1
  obtain⟨vb,off,eva,hvl,hvc⟩:=hV.resolve_left (by omega)
  obtain⟨y0,y1,y2,y3,y4⟩:=hvc q hqn
  rw[eva]at p0
  have hq':(fi.toNat)=q:=by omega
  have HR:Hid (X=ansV ((s.T t).V q)):=uy (by rw[uh HXX,<-hfi,if_pos h0,hq'])
  obtain⟨w5,hst5,hS5⟩:=st_ansW (uh HR4) (ansV ((s.T t).V q))
  have HST5:=uy hst5
  have HS5:=uy hS5
  obtain⟨r0,r1,r2,r3,r4,r5,r6,r7,r8,r9,r10,r11⟩:=An.read hS5.blk
  have HFN:=uy (uh HFin W4 w5 (ansV ((s.T t).V q)) (uh HM4) (uh HD4) (uh HR4) hS5)
  rw[hq]at hd0 ⊢
  generalize (s.T t).V q=x at*
  clear hc hV hvc eva hvj hst5 hS5 hq' h0 hfi hq
  go_upto_region 2 with(refine wpList_store rfl rfl _ (uh HST4) ?_)
  go_wp2_with (refine wpList_store rfl rfl _ (uh HST5) ?_)
  refine bodyPost_ret (v:=.tuple #[AnV (ansV x),errV 0]) (by simp[results,Tryz.results148,go_sem,r0,r1,r2,r3,r4,r5,r6,r7,r8,r9,r10,r11,errV]) rfl ?_
  rw[uh HR]
  exact uh HFN
 ·have hd0:decide (0<=fi)=false:=by simp[h0]
  have HRF:Hid (X=ansV (tget s.F (s.T t) (strV (s.S i).key))):=uy (by rw[uh HXX,<-hfi,if_neg h0])
  clear h0 hfi
  have hm4:=uh HM4
  obtain⟨_,_,hv4,lg4,_,hgt4,_⟩:=hm4.tform (t:=t) ht
  have hv4:Value.slice (some ⟨g,0,none⟩) s.nt cp=_:=hv4
  cases hv4
  have x1:=hm4.cells.2.1
  have lc4:=hm4.lt
  have HSK:=uy (siteKey_any (ZB Z w.heap.size W.heap.size) c B0 vN (.slice (some ⟨g,0,none⟩) s.nt cp) vS vU Bk A (findS s i t) i)
  have HRD:Hid (RdT W4 s B0 Bk (A t) (s.T t)):=uy ⟨hm4.nd,(hm4.rd t ht).now.1,(hm4.rd t ht).now.2,uh HT4⟩
  have hKS:((findS s i t).S i).key=(s.S i).key:=by
   show(up1 s.S i (findX s i t) i).key=_
   rw[up1_self]
   unfold findX
   split
   ·rfl
   ·split<;>rfl
  have HKS:=uy hKS
  have hS0:∀kv,kindV Bk (A t) (s.T t)=kv->HeldGf c g w.heap.size t i (.slice (some ⟨g,0,none⟩) s.nt cp) kv W4.drew:=fun kv e=>⟨x1,hgt4.trans (by rw[<-e];rfl),b1,b2⟩
  have HS0:=uy hS0
  clear hm4 hgt4 hS0 hKS x1 b1 b2
  go_upto_region 4 with(refine wpList_store rfl rfl _ (uh HST4) ?_)
  rcases uh HTG with⟨hkv,hC⟩|⟨p,hkv,hC⟩
  case' inl=>refine wpN_held (HeldGf c g w.heap.size t i (.slice (some ⟨g,0,none⟩) s.nt cp) (.iface 239 (HdA (A t) (s.T t)))) (by kernel_rfl) ?_
  case' inr=>refine wpN_held (HeldGf c g w.heap.size t i (.slice (some ⟨g,0,none⟩) s.nt cp) (.iface 236 (ShdA p (A t) (s.T t)))) (by kernel_rfl) ?_
  all_goals
   have hS0:=uh HS0 _ hkv
   have HC:=uy hC
   clear hC hkv
   change wpAnyH _ _ _ _ _ _ _ _ (World.drew _)
   refine tq 0 (v:=?_) ?_ ?_;rotate_left;intro w' ⟨s0,s1,s2,s3⟩;go_simp;try with_reducible rfl
   simp only[Act.put,sA,sB,sC]
   refine tq 1 (v:=?_) ?_ ?_;rotate_left;intro w' ⟨s0,s1,s2,s3⟩;go_simp;try with_reducible rfl
   simp only[Act.put,sA,sB,sC]
   refine tq 2 (v:=?_) ?_ ?_;rotate_left;intro w' ⟨s0,s1,s2,s3⟩;go_simp;try with_reducible rfl
   simp only[Act.put,sA,sB,sC]
   refine tq 3 (v:=?_) ?_ ?_;rotate_left;intro w' ⟨s0,s1,s2,s3⟩;go_simp;try with_reducible rfl
   simp only[Act.put,sA,sB,sC]
   refine tq 4 (v:=?_) ?_ ?_;rotate_left;intro w' ⟨s0,s1,s2,s3⟩;go_simp;try with_reducible rfl
   simp only[Act.put,sA,sB,sC]
   refine tq 5 (v:=?_) ?_ ?_;rotate_left;intro w' ⟨s0,s1,s2,s3⟩;go_simp;try with_reducible rfl
   simp only[Act.put,sA,sB,sC]
   refine tq 6 (v:=?_) ?_ ?_;rotate_left;intro w' ⟨s0,s1,s2,s3⟩;go_simp;try with_reducible rfl
   simp only[Act.put,sA,sB,sC]
   refine tq 7 (v:=?_) ?_ ?_;rotate_left;intro w' ⟨s0,s1,s2,s3⟩;go_simp;try with_reducible rfl
   simp only[Act.put,sA,sB,sC]
   refine tq 8 (v:=?_) ?_ ?_;rotate_left;intro w' ⟨s0,s1,s2,s3⟩;go_simp;try with_reducible rfl
   simp only[Act.put,sA,sB,sC]
   refine tq 9 (v:=?_) ?_ ?_;rotate_left;intro w' ⟨s0,s1,s2,s3⟩;go_simp;try with_reducible rfl
   simp only[Act.put,sA,sB,sC]
   refine tq 10 (v:=?_) ?_ ?_;rotate_left;intro w' ⟨s0,s1,s2,s3⟩;go_simp;try with_reducible rfl
   simp only[Act.put,sA,sB,sC]
   refine tq 11 (v:=?_) ?_ ?_;rotate_left;intro w' ⟨s0,s1,s2,s3⟩;go_simp;try with_reducible rfl
   simp only[Act.put,sA,sB,sC]
   refine tq 13 (v:=?_) ?_ ?_;rotate_left;intro w' ⟨s0,s1,s2,s3⟩;go_simp;try with_reducible rfl
   simp only[Act.put,sA,sB,sC]
   refine tq 14 (v:=?_) ?_ ?_;rotate_left;intro w' ⟨s0,s1,s2,s3⟩;go_simp;try with_reducible rfl
   simp only[Act.put,sA,sB,sC]
   refine wpAnyH_ready (rs:=[12]) (by kernel_rfl) (by simp) ?_
   refine AllReadyH.cons rfl (fun K hK=>?_) AllReadyH.nil
   go_simp
   have hb4d:Below W4.heap.size W4 W4.drew:=(Below.refl _ _).drew
   refine(uh HSK _ ((uh HM4).below hb4d).1 hi hns).mono ?_
   rintro e w5 ⟨rfl,hb5⟩
   have hb5:Below W4.heap.size W4 w5:=Below.trans (Below.refl _ _).drew hb5
   have hS5:=hS0.keep (w':=w5) (hb5.block c lc4) (hb5.block g lg4) (hb5.block w.heap.size (by omega))
   rw[uh HKS]
   have HX5:=uy hb5
   refine hK.out _ _ hS5 (fun _=>?_)
   clear hK K hS0 hb5 hb4d
   refine wpAnyH_ready (rs:=[15]) (by kernel_rfl) (by simp) ?_
   refine AllReadyH.cons rfl (fun K hK=>?_) AllReadyH.nil
   go_simp
   refine(uh HC _ ((uh HRD).below (uh HX5))).mono ?_
   rintro e w6 ⟨rfl,hb6⟩
   have hb6:Below W4.heap.size W4 w6:=(uh HX5).trans (hb6.mono (uh HX5).size)
   have hS6:=hS5.keep (w':=w6) ((hb6.block c lc4).trans ((uh HX5).block c lc4).symm) ((hb6.block g lg4).trans ((uh HX5).block g lg4).symm) ((hb6.block w.heap.size (by omega)).trans ((uh HX5).block w.heap.size (by omega)).symm)
   obtain⟨gv,hgv⟩:∃gv,gv=tget s.F (s.T t) (strV (s.S i).key):=⟨_,rfl⟩
   rw[<-hgv]
   have HGV:=uy hgv
   obtain⟨m6,d6⟩:=(uh HM4).below hb6
   have hr6:RBx w6 (w.heap.size+1):=(hb6.block _ (by omega)).trans (uh HR4)
   obtain⟨w7,hst7,hS7⟩:=st_ansW hr6 (ansV gv)
   have HFN:=uy (uh HFin w6 w7 (ansV gv) m6 ((uh HD4).trans d6) hr6 hS7)
   have z6:=hb6.size
   have hS7':=hS6.keep (w':=w7) (hS7.other c (by omega)) (hS7.other g (by omega)) (hS7.other w.heap.size (by omega))
   have HST7:=uy hst7
   have HS7:=uy hS7
   refine hK.out _ _ hS6 (fun _=>?_)
   clear hK K hS5 hb6 m6 d6 hr6 hst7 hS7 hgv
   refine tq 16 (v:=?_) ?_ ?_;rotate_left;intro w' ⟨s0,s1,s2,s3⟩;go_simp;try with_reducible rfl
   (try simp only[Act.put]);(try simp only[List.setIfInBounds_toArray]);(try simp only[List.set_cons_succ]);try simp only[List.set_cons_zero]
   refine wpAnyH_ready (rs:=[17]) (by kernel_rfl) (by simp) ?_
   refine AllReadyH.cons rfl (fun K hK=>?_) AllReadyH.nil
   refine step_store rfl rfl _ (uh HST7) ?_
   refine hK.out _ _ hS7' (fun _=>?_)
   clear hK K
   refine tq 18 (v:=?_) ?_ ?_;rotate_left;intro w' ⟨s0,s1,s2,s3⟩;go_simp;try with_reducible rfl
   (try simp only[Act.put]);(try simp only[List.setIfInBounds_toArray]);(try simp only[List.set_cons_succ]);try simp only[List.set_cons_zero]
   refine wpAnyH_done (by kernel_rfl) ?_ _
   refine QN.normal ?_
   obtain⟨r0,r1,r2,r3,r4,r5,r6,r7,r8,r9,r10,r11⟩:=An.read (uh HS7).blk
   go_wp2_with fail
   refine bodyPost_ret (v:=.tuple #[AnV (ansV gv),errV 0]) (by simp[results,Tryz.results148,go_sem,r0,r1,r2,r3,r4,r5,r6,r7,r8,r9,r10,r11,errV]) rfl ?_
   rw[uh HRF,<-uh HGV]
   exact uh HFN
end
section
open Go.RowKit
attribute [local go_sem] run_store_float run_equalIn_float
theorem errV_ne{c:Int}(h:c≠0):errV c=.iface 267 (.agg #[.int .i64 c]):=by unfold errV;rw[if_neg h]
end
end Go.Proofs.YtgmlkfgfjjggnaaGreatDoor
