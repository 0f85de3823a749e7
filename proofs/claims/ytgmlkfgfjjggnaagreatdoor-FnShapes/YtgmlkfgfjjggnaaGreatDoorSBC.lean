import Derived.Test.YtgmlkfgfjjggnaaGreatDoorSAK
import Derived.Test.YtgmlkfgfjjggnaaGreatDoorSBA
import Derived.Test.YtgmlkfgfjjggnaaGreatDoorSAP
import Derived.Test.YtgmlkfgfjjggnaaGreatDoorSBB
set_option linter.unusedVariables false
set_option linter.unusedSimpArgs false
set_option maxHeartbeats 40000000
set_option maxRecDepth 100000
namespace Go.Proofs.YtgmlkfgfjjggnaaGreatDoor
section
open Go.RowKit
attribute [local go_sem] run_store_float run_equalIn_float run_store_func
def HeldG(bw ab c:Nat)(k:ByteArray)(W:World):Prop:=W.cell? ⟨bw,0,none⟩=some (.pointer (some ⟨c,0,none⟩))/\W.cell? ⟨ab,7,none⟩=some (.string k)
theorem HeldG.keep{bw ab c:Nat}{k:ByteArray}{w w':World}(h:HeldG bw ab c k w)(h1:w'.heap[bw]?=w.heap[bw]?)(h2:w'.heap[ab]?=w.heap[ab]?):HeldG bw ab c k w':=
 ⟨(World.cell?_of_block (a:=⟨bw,0,none⟩) h1).trans h.1,(World.cell?_of_block (a:=⟨ab,7,none⟩) h2).trans h.2⟩
theorem wAddSite_any(Z:Nat->Prop)(c B0:Nat)(vN vT vS:Value)(Bk:Nat->Nat)(A:Nat->Ad)(s:Sto)(a:Ac)(w:World)(hM:WkM Z w c B0 vN vT vS (.slice none 0 0) Bk A s)(hns:s.ns<=50):
  Calls Tryz.prog 147 #[.pointer (some ⟨c,0,none⟩),AcV a] w fun e w'=>(∃vS' vU',WkM Z w' c B0 vN vT vS' vU' Bk A {s with ns:=s.ns+1,S:=up1 s.S s.ns ⟨a.k.str,-1,0,0,0⟩}/\Dst (OwnW B0 c vN vT vS w) w (OwnW B0 c vN vT vS' w') w'/\
   (s.ns≠50->e=.returned (.tuple #[AnV (ansN s.ns),errV 0]))/\(s.ns=50->e=.returned (.tuple #[AnV (ansC 0),errV 5])/\∃gu cu bw bn,UndoT 205 w' c vU' s.ns gu cu bw bn)):=by
 obtain⟨sa,sc,rfl⟩:=own_slice hM.si
 obtain⟨i0,hi0,hz0,hz1,hz2⟩:=info_parts infoSite
 obtain⟨W,hW⟩:∃W,W=(((w.alloc (.cells #[.pointer (some ⟨c,0,none⟩)] 121)).alloc (.cells (ActBx a) 51)).alloc (.cells An0 45)).alloc (.cells #[.int .i64 (s.ns:Int)] 3):=⟨_,rfl⟩
 have hbW:Below w.heap.size w W:=by rw[hW];exact((((Below.refl _ _).alloc (Nat.le_refl _) _).alloc (by simp) _).alloc (by simp;omega) _).alloc (by simp;omega) _
 have hzW:W.heap.size=w.heap.size+1+1+1+1:=by rw[hW];simp
 have b0:W.heap[w.heap.size]?=some (.cells #[.pointer (some ⟨c,0,none⟩)] 121 (0,0)):=by
  rw[hW]
  iterate 3 (refine(Deep.blk_alloc_lt _ _ _ (by simp;try omega)).trans ?_)
  exact Deep.blk_alloc_new _ _
 have b1:ABx W (w.heap.size+1) a:=by
  rw[hW]
  iterate 2 (refine(Deep.blk_alloc_lt _ _ _ (by simp;try omega)).trans ?_)
  have h1:=Deep.blk_alloc_new (w.alloc (.cells #[.pointer (some ⟨c,0,none⟩)] 121)) (.cells (ActBx a) 51)
  simpa using h1
 have b2:RBx W (w.heap.size+1+1):=by
  rw[hW]
  refine(Deep.blk_alloc_lt _ _ _ (by simp)).trans ?_
  have h1:=Deep.blk_alloc_new ((w.alloc (.cells #[.pointer (some ⟨c,0,none⟩)] 121)).alloc (.cells (ActBx a) 51)) (.cells An0 45)
  simpa using h1
 have b3:W.heap[w.heap.size+1+1+1]?=some (.cells #[.int .i64 (s.ns:Int)] 3 (0,0)):=by
  rw[hW]
  have h1:=Deep.blk_alloc_new (((w.alloc (.cells #[.pointer (some ⟨c,0,none⟩)] 121)).alloc (.cells (ActBx a) 51)).alloc (.cells An0 45)) (.cells #[.int .i64 (s.ns:Int)] 3)
  simpa using h1
 obtain⟨hE,hDE⟩:=hM.enter hbW
 have hcl:=hM.lt
 have hbase:=hM.base
 obtain⟨c0,c1,c2,c3,cf⟩:=hM.cells
 have HE:=uy hE
 have HDE:=uy hDE
 have HBB:=uy (And.intro b0 (And.intro b1 (And.intro b2 b3)))
 have HZ:=uy hzW
 have hc1:c<w.heap.size+1:=by omega
 have hc2:c<w.heap.size+1+1:=by omega
 have hc3:c<w.heap.size+1+1+1:=by omega
 clear hM hE hDE b0 b1 b2 b3 c0 c1 c3 cf hbW hzW
 go_enter Tryz.func147,Tryz.ntmps147
 go_wp2_with fail
 rw[<-hW]
 clear hW c2
 refine(onFailure_any _ c B0 _ _ _ Bk A s 205 #[.pointer (some ⟨w.heap.size,0,none⟩),.pointer (some ⟨w.heap.size+1+1+1,0,none⟩)] W (uh HE)).mono ?_
 rintro e w1 ⟨⟨uu,rfl⟩,gu,cu,hgu,hou,hM1,hD1,hk1⟩
 have zW:=uh HZ
 have hz1':=hD1.size
 obtain⟨b0,b1,b2,b3⟩:=uh HBB
 have b0:=(hk1 _ (by omega) (by omega)).trans b0
 have b1:ABx w1 (w.heap.size+1) a:=(hk1 _ (by omega) (by omega)).trans b1
 have b2:RBx w1 (w.heap.size+1+1):=(hk1 _ (by omega) (by omega)).trans b2
 have b3:=(hk1 _ (by omega) (by omega)).trans b3
 obtain⟨c0,c1,c2,c3,cf⟩:=hM1.cells
 have hbX:Below w1.heap.size w1 ((w1.alloc (.cells #[.string a.k.str,.int .i64 (-1),.int .i64 0,.int .i64 0,.int .i64 0] 103)).drew):=((Below.refl _ _).alloc (Nat.le_refl _) _).drew
 have hS0:HeldG w.heap.size (w.heap.size+1) c a.k.str w1.drew:=⟨by show w1.cell? _=_;simp[World.cell?,b0],by show w1.cell? _=_;exact b1.all.2.2.2.2.2.2.2.1⟩
 have hS1':HeldG w.heap.size (w.heap.size+1) c a.k.str (w1.alloc (.cells #[.string a.k.str,.int .i64 (-1),.int .i64 0,.int .i64 0,.int .i64 0] 103)).drew:=HeldG.keep (w:=w1) hS0 (hbX.block w.heap.size (by omega)) (hbX.block (w.heap.size+1) (by omega))
 have xX:(w1.alloc (.cells #[.string a.k.str,.int .i64 (-1),.int .i64 0,.int .i64 0,.int .i64 0] 103)).drew.cell? ⟨c,2,none⟩=some (.slice sa s.ns sc):=(hbX.cell (p:=⟨c,2,none⟩) (by show c<_;omega)).trans c2
 have xY:(w1.alloc (.cells #[.string a.k.str,.int .i64 (-1),.int .i64 0,.int .i64 0,.int .i64 0] 103)).cell? ⟨c,2,none⟩=some (.slice sa s.ns sc):=xX
 have HOW:=uy hM1.si
 have hB1:B0<=w1.heap.size:=hM1.base
 have HF:Hid (∀g3 cp3 w3,w3.ownsRow B0 103 5 (.slice (some ⟨g3,0,none⟩) (s.ns+1) cp3) (s.ns+1) (siR s.S s.ns++siL ⟨a.k.str,-1,0,0,0⟩)->(w1.alloc (.cells #[.string a.k.str,.int .i64 (-1),.int .i64 0,.int .i64 0,.int .i64 0] 103)).drew.grownBy w3 (Value.ownBlock (.slice sa s.ns sc))->(Value.ownBlock (.slice sa s.ns sc)=some g3\/g3=(w1.alloc (.cells #[.string a.k.str,.int .i64 (-1),.int .i64 0,.int .i64 0,.int .i64 0] 103)).drew.heap.size)->
   HeldG w.heap.size (w.heap.size+1) c a.k.str w3/\HeldG w.heap.size (w.heap.size+1) c a.k.str (w3.setCell ⟨c,2,none⟩ (.slice (some ⟨g3,0,none⟩) (s.ns+1) cp3))/\w3.cell? ⟨c,2,none⟩=some (.slice sa s.ns sc)/\w3.frozen? ⟨c,2,none⟩=false/\c<w3.heap.size/\
   (w3.setCell ⟨c,2,none⟩ (.slice (some ⟨g3,0,none⟩) (s.ns+1) cp3)).heap[w.heap.size]?=some (.cells #[.pointer (some ⟨c,0,none⟩)] 121 (0,0))/\RBx (w3.setCell ⟨c,2,none⟩ (.slice (some ⟨g3,0,none⟩) (s.ns+1) cp3)) (w.heap.size+1+1)/\(w3.setCell ⟨c,2,none⟩ (.slice (some ⟨g3,0,none⟩) (s.ns+1) cp3)).heap[w.heap.size+1+1+1]?=some (.cells #[.int .i64 (s.ns:Int)] 3 (0,0))/\(w3.setCell ⟨c,2,none⟩ (.slice (some ⟨g3,0,none⟩) (s.ns+1) cp3)).heap[gu]?=w1.heap[gu]?/\
   WkM (ZB Z w.heap.size W.heap.size) (w3.setCell ⟨c,2,none⟩ (.slice (some ⟨g3,0,none⟩) (s.ns+1) cp3)) c B0 vN vT (.slice (some ⟨g3,0,none⟩) (s.ns+1) cp3) (.slice (some ⟨gu,0,none⟩) 1 cu) Bk A {s with ns:=s.ns+1,S:=up1 s.S s.ns ⟨a.k.str,-1,0,0,0⟩}/\Dst (OwnW B0 c vN vT (.slice sa s.ns sc) w) w (OwnW B0 c vN vT (.slice (some ⟨g3,0,none⟩) (s.ns+1) cp3) (w3.setCell ⟨c,2,none⟩ (.slice (some ⟨g3,0,none⟩) (s.ns+1) cp3))) (w3.setCell ⟨c,2,none⟩ (.slice (some ⟨g3,0,none⟩) (s.ns+1) cp3))):=uy (by
  intro g3 cp3 w3 h1 h2 h3
  obtain⟨k1,k2,k3⟩:=hM1.pushS hbX h2 h1 (h3.imp id (fun e=>by rw[e];exact hbX.size))
  have hrow:∀(q:Nat) (cs:Array Value) (ty:TypeId),w1.heap[q]?=some (Obj.cells cs ty (0,0))->ty≠103->w3.heap[q]?=w1.heap[q]?:=fun q cs ty hq ht=>by
   have hql:=blk_lt hq
   refine(h2.block q (Nat.lt_of_lt_of_le hql hbX.size) (fun e=>?_)).trans (hbX.block q hql)
   obtain⟨cur,hb,_⟩:=own_blk hM1.si e.symm
   rw[hb]at hq
   cases hq
   exact ht rfl
  have q0:=hrow _ _ _ b0 (by decide)
  have q1:=hrow _ _ _ b1 (by decide)
  have q2:=hrow _ _ _ b2 (by decide)
  have q3:=hrow _ _ _ b3 (by decide)
  obtain⟨curu,hbu,_⟩:=own_blk hou rfl
  have qu:=hrow gu _ _ hbu (by decide)
  have qc:=hrow c _ _ hM1.blk (by decide)
  have hS3:HeldG w.heap.size (w.heap.size+1) c a.k.str w3:=HeldG.keep (w:=w1) hS0 q0 q1
  have st:∀q,q≠c->(w3.setCell ⟨c,2,none⟩ (.slice (some ⟨g3,0,none⟩) (s.ns+1) cp3)).heap[q]?=w3.heap[q]?:=fun q hq=>Deep.blk_setCell_other _ _ _ _ (by exact hq)
  refine⟨hS3,HeldG.keep hS3 (st w.heap.size (by omega)) (st (w.heap.size+1) (by omega)),(World.cell?_of_block (a:=⟨c,2,none⟩) qc).trans c2,(World.frozen?_of_block (a:=⟨c,2,none⟩) qc).trans (cf 2),blk_lt k1,(st _ (by omega)).trans (q0.trans b0),(st _ (by omega)).trans (q2.trans b2),(st _ (by omega)).trans (q3.trans b3),(st _ (by omega)).trans qu,k2,((uh HDE).trans hD1).trans k3⟩)
 have HOU:=uy hou
 have HK1:Hid (w1.heap[gu]?=w1.heap[gu]?):=uy rfl
 clear hM1 hD1 hk1 hou b0 b1 b2 b3 c0 c1 c3 cf HE HDE HBB hbX
 go_wp2_with fail
 refine wpN_held (HeldG w.heap.size (w.heap.size+1) c a.k.str) (by kernel_rfl) ?_
 change wpAnyH _ _ _ _ _ _ _ _ (World.drew _)
 refine tq 0 (v:=?_) ?_ ?_;rotate_left;intro w' ⟨s0,s1⟩;go_simp;try with_reducible rfl
 simp only[Act.put,sA,sB,sC]
 refine tq 1 (v:=?_) ?_ ?_;rotate_left;intro w' ⟨s0,s1⟩;go_simp;try with_reducible rfl
 simp only[Act.put,sA,sB,sC]
 refine tq 2 (v:=?_) ?_ ?_;rotate_left;intro w' ⟨s0,s1⟩;go_simp;try with_reducible rfl
 simp only[Act.put,sA,sB,sC]
 refine tq 3 (v:=?_) ?_ ?_;rotate_left;intro w' ⟨s0,s1⟩;go_simp;try with_reducible rfl
 simp only[Act.put,sA,sB,sC]
 refine tq 5 (v:=?_) ?_ ?_;rotate_left;intro w' ⟨s0,s1⟩;go_simp;try with_reducible rfl
 simp only[Act.put,sA,sB,sC]
 refine tq 6 (v:=?_) ?_ ?_;rotate_left;intro w' ⟨s0,s1⟩;go_simp;try with_reducible rfl
 simp only[Act.put,sA,sB,sC]
 refine tq 7 (v:=?_) ?_ ?_;rotate_left;intro w' ⟨s0,s1⟩;go_simp;try with_reducible rfl
 simp only[Act.put,sA,sB,sC]
 refine tq 8 (v:=?_) ?_ ?_;rotate_left;intro w' ⟨s0,s1⟩;go_simp;try with_reducible rfl
 simp only[Act.put,sA,sB,sC]
 refine wpAnyH_ready (rs:=[4,9]) (by kernel_rfl) (by simp) ?_
 refine AllReadyH.cons rfl (fun K hK=>?armA) (AllReadyH.cons rfl (fun K hK=>?armB) AllReadyH.nil)
 case' armA=>
  go_simp
  refine hK.out _ _ hS0 (fun _=>?_)
  clear hK K
  refine wpAnyH_ready (rs:=[9]) (by kernel_rfl) (by simp) ?_
  refine AllReadyH.cons rfl (fun K hK=>?_) AllReadyH.nil
  go_simp
  refine hK.out _ _ hS1' (fun hS1=>?_)
  clear hK K
 case' armB=>
  go_simp
  refine hK.out _ _ hS1' (fun hS1=>?_)
  clear hK K
  refine wpAnyH_ready (rs:=[4]) (by kernel_rfl) (by simp) ?_
  refine AllReadyH.cons rfl (fun K hK=>?_) AllReadyH.nil
  go_simp
  refine hK.out _ _ hS1' (fun _=>?_)
  clear hK K
 all_goals
  refine wpAnyH_ready (rs:=[10]) (by kernel_rfl) (by simp) ?_
  refine AllReadyH.cons rfl (fun K hK=>?_) AllReadyH.nil
  refine step_append_lies _ rfl (.tmp 19) (.tmp 24) 40 rfl B0 103 i0 (.agg #[.string ⟨#[]⟩,.int .i64 0,.int .i64 0,.int .i64 0,.int .i64 0]) 5 48 Tryz.underlying40 hi0 hz0 hz1 hz2 rfl (by decide) (.slice sa s.ns sc) s.ns (siR s.S s.ns) (by simp[Act.eval]) (World.ownsRow.drew (World.ownsRow.alloc (uh HOW) _)) ⟨w1.heap.size,0,none⟩ 1 1 (siL ⟨a.k.str,-1,0,0,0⟩) (by simp[Act.eval]) rfl (World.news_of_block (w:=(w1.alloc (.cells #[.string a.k.str,.int .i64 (-1),.int .i64 0,.int .i64 0,.int .i64 0] 103)).drew) (Deep.blk_alloc_new w1 _)) (by simp[siL,Value.oneCell']) (by decide) (by unfold maxLen;omega) (by omega) (by simp;omega) _ rfl ?_
  intro g3 cp3 w3 hown3 hgr3 hloc3 hlt3
  obtain⟨hS3,hS4,x3,f3,hl3,d0,d2,d3,du,m4,dd⟩:=uh HF g3 cp3 w3 hown3 hgr3 hloc3
  have HX:=uy (And.intro d0 (And.intro d2 (And.intro d3 (And.intro du (And.intro m4 dd)))))
  clear hown3 hgr3 hloc3 d0 d2 d3 du m4 dd
  refine hK.out _ _ hS3 (fun hS3'=>?_)
  clear hK K
  refine tq 11 (v:=?_) ?_ ?_;rotate_left;intro w' ⟨s0,s1⟩;go_simp;try with_reducible rfl
  (try simp only[Act.put]);(try simp only[List.setIfInBounds_toArray]);(try simp only[List.set_cons_succ]);try simp only[List.set_cons_zero]
  refine tq 12 (v:=?_) ?_ ?_;rotate_left;intro w' ⟨s0,s1⟩;go_simp;try with_reducible rfl
  (try simp only[Act.put]);(try simp only[List.setIfInBounds_toArray]);(try simp only[List.set_cons_succ]);try simp only[List.set_cons_zero]
  refine wpAnyH_ready (rs:=[13]) (by kernel_rfl) (by simp) ?_
  refine AllReadyH.cons rfl (fun K hK=>?_) AllReadyH.nil
  go_simp
  refine hK.out _ _ hS4 (fun _=>?_)
  clear hK K
  refine wpAnyH_done (by kernel_rfl) ?_ _
  refine QN.normal ?_
  clear hS3 hS4 hS3' x3 f3
  obtain⟨w4,hw4⟩:∃w4,w4=w3.setCell ⟨c,2,none⟩ (.slice (some ⟨g3,0,none⟩) (s.ns+1) cp3):=⟨_,rfl⟩
  rw[<-hw4]at HX ⊢
  clear hw4
  obtain⟨d0,d2,d3,du,m4,dd⟩:=uh HX
  obtain⟨_,_,y1,_,_⟩:=m4.cells
  have hl4:=m4.lt
  have l0:=blk_lt d0
  have l2:=d2.lt
  have l3:=blk_lt d3
  have y0:w4.cell? ⟨w.heap.size,0,none⟩=some (.pointer (some ⟨c,0,none⟩)):=by simp[World.cell?,d0]
  have y3:w4.cell? ⟨w.heap.size+1+1+1,0,none⟩=some (.int .i64 (s.ns:Int)):=by simp[World.cell?,d3]
  obtain⟨w5,hst5,hS5⟩:=st_ansW d2 (ansC 0)
  obtain⟨w6,hst6,hS6⟩:=st_ansW d2 (ansN s.ns)
  have HST5:=uy hst5
  have HST6:=uy hst6
  have HS5:=uy hS5
  have HS6:=uy hS6
  clear d0 d2 d3 du m4 dd hst5 hst6 hS5 hS6
  by_cases hf:s.ns=50
  ·have d:decide ((50:Int)<(s.ns:Int)+1)=true:=by simp;omega
   have HFU:=uy hf
   clear hf
   go_wp2_with (refine wpList_store rfl rfl _ (uh HST5) ?_)
   obtain⟨r0,r1,r2,r3,r4,r5,r6,r7,r8,r9,r10,r11⟩:=An.read (uh HS5).blk
   refine bodyPost_ret (v:=.tuple #[AnV (ansC 0),errV 5]) (by simp[results,Tryz.results147,go_sem,r0,r1,r2,r3,r4,r5,r6,r7,r8,r9,r10,r11,errV]) rfl ?_
   obtain⟨d0,d2,d3,du,m4,dd⟩:=uh HX
   obtain⟨mm,ddd⟩:=m4.finA dd hbase (by omega) (by omega) d2 (uh HS5)
   refine⟨_,_,mm,ddd,fun h=>absurd (uh HFU) h,fun _=>⟨rfl,gu,cu,w.heap.size,w.heap.size+1+1+1,rfl,own_lo (own_keep (uh HOU) (fun q e=>?_)) (Nat.zero_le _),?_,?_⟩⟩
   ·cases e
    exact((uh HS5).other _ (by show gu≠w.heap.size+1+1;omega)).trans du
   ·exact((uh HS5).other _ (by omega)).trans d0
   ·exact((uh HS5).other _ (by omega)).trans d3
  ·have d:decide ((50:Int)<(s.ns:Int)+1)=false:=by simp;omega
   have HFU:=uy hf
   clear hf
   go_wp2_with (refine wpList_store rfl rfl _ (uh HST6) ?_)
   obtain⟨r0,r1,r2,r3,r4,r5,r6,r7,r8,r9,r10,r11⟩:=An.read (uh HS6).blk
   refine bodyPost_ret (v:=.tuple #[AnV (ansN s.ns),errV 0]) (by simp[results,Tryz.results147,go_sem,r0,r1,r2,r3,r4,r5,r6,r7,r8,r9,r10,r11,errV]) rfl ?_
   obtain⟨d0,d2,d3,du,m4,dd⟩:=uh HX
   obtain⟨mm,ddd⟩:=m4.finA dd hbase (by omega) (by omega) d2 (uh HS6)
   exact⟨_,_,mm,ddd,fun _=>rfl,fun h=>absurd h (uh HFU)⟩
end
section
open Go.RowKit
attribute [local go_sem] run_store_float run_equalIn_float run_store_func
structure SameS (s s':Sto):Prop where
 nf:s.nf=s'.nf
 F:s.F=s'.F
 nt:s.nt=s'.nt
 ns:s.ns=s'.ns
 T:∀i,i<s.nt->s.T i=s'.T i
 S:∀i,i<s.ns->s.S i=s'.S i
theorem SameS.refl(s:Sto):SameS s s:=⟨rfl,rfl,rfl,rfl,fun _ _=>rfl,fun _ _=>rfl⟩
section
variable {Z:Nat->Prop} {w w':World} {c B0:Nat} {vN vT vS vU:Value} {Bk:Nat->Nat} {A:Nat->Ad} {s s':Sto}
theorem WkM.same(h:WkM Z w c B0 vN vT vS vU Bk A s)(e:SameS s s'):WkM Z w c B0 vN vT vS vU Bk A s':=by
 obtain⟨nf,F,nt,T,ns,S⟩:=s
 obtain⟨nf',F',nt',T',ns',S'⟩:=s'
 obtain⟨e1,e2,e3,e4,e5,e6⟩:=e
 simp only at e1 e2 e3 e4 e5 e6
 subst e1 e2 e3 e4
 refine⟨h.blk,h.ge,h.n,h.nd,?_,?_,h.u,h.z,fun i hi=>?_⟩
 ·have h1:=h.t
  show World.ownsRow _ _ _ _ _ _ (kL Bk A ⟨nf,F,nt,T',ns,S'⟩ nt)
  rw[kL_congr (Bk':=Bk) (A':=A) (s':=⟨nf,F,nt,T,ns,S⟩) (fun i hi=>by show kindV Bk (A i) (T' i)=kindV Bk (A i) (T i);rw[e5 i hi])]
  exact h1
 ·have h1:=h.si
  show World.ownsRow _ _ _ _ _ _ (siR S' ns)
  rw[siR_congr (g:=S) (fun i hi=>(e6 i hi).symm)]
  exact h1
 ·have h1:=h.rd i hi
  show Rd _ _ (A i) (T' i)
  rw[<-e5 i hi]
  exact h1
theorem Dst.oz{vN' vT' vS':Value}(hd:Dst (OwnW B0 c vN vT vS w) w (OwnW B0 c vN' vT' vS' w') w'):Dst (OZ Z B0 c vN vT vS w) w (OZ Z B0 c vN' vT' vS' w') w':=
 ⟨hd.os,hd.tape,hd.output,hd.size,fun k h1 h2=>hd.block k h1 (fun e=>h2 (.inl e)),fun k e=>e.elim (fun e=>(hd.own k e).imp .inl id) (fun e=>.inl (.inr e))⟩
def Undn(Z:Nat->Prop)(w:World)(c B0:Nat)(vN vT vS vU:Value)(s0:Sto):Prop:=
 ∃Bk A s1,WkM Z w c B0 vN vT vS vU Bk A s1/\
  ((vU=.slice none 0 0/\SameS s1 s0)\/
   (∃n gu cu bw bn,UndoT 202 w c vU n gu cu bw bn/\n<=s1.nt/\0<s1.nt/\s1.nt<=200/\SameS {s1 with nt:=n} s0)\/
   (∃n gu cu bw bn,UndoT 205 w c vU n gu cu bw bn/\n<=s1.ns/\0<s1.ns/\s1.ns<=200/\SameS {s1 with ns:=n} s0)\/
   (∃t A0 a' x' gu cu bb bw bn,A=up1 A0 t a'/\s1=setT s0 t x'/\UndoR w c vU t (kindV Bk (A0 t) (s0.T t)) gu cu bb bw bn/\vT.ownBlock≠some bb/\t<s0.nt/\s0.nt<=200/\Rd (OZ Z B0 c vN vT vS w) w (A0 t) (s0.T t)))
theorem Undn.below{s0:Sto}(h:Undn Z w c B0 vN vT vS vU s0)(hb:Below w.heap.size w w'):Undn Z w' c B0 vN vT vS vU s0/\Dst (OwnW B0 c vN vT vS w) w (OwnW B0 c vN vT vS w') w':=by
 obtain⟨Bk,A,s1,hm,hu⟩:=h
 obtain⟨m1,d1⟩:=hm.below hb
 refine⟨⟨Bk,A,s1,m1,?_⟩,d1⟩
 rcases hu with h|⟨n,gu,cu,bw,bn,h,h2⟩|⟨n,gu,cu,bw,bn,h,h2⟩|⟨t,A0,a',x',gu,cu,bb,bw,bn,e1,e2,h,h3,h4,h5,h6⟩
 ·exact .inl h
 ·exact .inr (.inl ⟨n,gu,cu,bw,bn,h.keep (hb.block _ (h.u.lt gu rfl).2) (hb.block _ (blk_lt h.b)) (hb.block _ (blk_lt h.n)),h2⟩)
 ·exact .inr (.inr (.inl ⟨n,gu,cu,bw,bn,h.keep (hb.block _ (h.u.lt gu rfl).2) (hb.block _ (blk_lt h.b)) (hb.block _ (blk_lt h.n)),h2⟩))
 ·exact .inr (.inr (.inr ⟨t,A0,a',x',gu,cu,bb,bw,bn,e1,e2,h.keep (hb.block _ (h.u.lt gu rfl).2) (hb.block _ (blk_lt h.k)) (hb.block _ (blk_lt h.b)) (hb.block _ (blk_lt h.n)),h3,h4,h5,h6.step d1.oz⟩))
theorem Undn.finA{w1 w'':World}{vN' vT' vS' vU':Value}{s0:Sto}{rb z1:Nat}{x:An}(h:Undn (ZB Z w.heap.size z1) w1 c B0 vN' vT' vS' vU' s0)(hd:Dst (OwnW B0 c vN vT vS w) w (OwnW B0 c vN' vT' vS' w1) w1)(hcw:B0<=w.heap.size)(hwb:w.heap.size<=rb)(hz:rb<z1)(hr:RBx w1 rb)(hst:Stored w1 w'' rb (anL x).toArray 45):
  Undn Z w'' c B0 vN' vT' vS' vU' s0/\Dst (OwnW B0 c vN vT vS w) w (OwnW B0 c vN' vT' vS' w'') w'':=by
 obtain⟨Bk,A,s1,hm,hu⟩:=h
 obtain⟨f1,f2⟩:=hm.finA hd hcw hwb hz hr hst
 have ho:=(hm.box (.inr ⟨hwb,hz⟩) (Nat.le_trans hcw hwb) (hm.notbox hr (by decide) (by decide) (by decide) (by decide) (by decide)) ⟨hst.os,hst.tape,hst.output,hst.size⟩ hst.other hst.blk (by decide)).2
 have kp:∀(b:Nat) (cs:Array Value) (ty:TypeId),w1.heap[b]?=some (.cells cs ty (0,0))->ty≠45->w''.heap[b]?=w1.heap[b]?:=fun b cs ty hb ht=>hst.other b (fun e=>by
  rw[e,hr]at hb
  cases hb
  exact ht rfl)
 refine⟨⟨Bk,A,s1,f1,?_⟩,f2⟩
 rcases hu with h|⟨n,gu,cu,bw,bn,h,h2⟩|⟨n,gu,cu,bw,bn,h,h2⟩|⟨t,A0,a',x',gu,cu,bb,bw,bn,e1,e2,h,h3,h4,h5,h6⟩
 ·exact .inl h
 ·obtain⟨cur,hc,_⟩:=own_blk h.u rfl
  exact .inr (.inl ⟨n,gu,cu,bw,bn,h.keep (kp _ _ _ hc (by decide)) (kp _ _ _ h.b (by decide)) (kp _ _ _ h.n (by decide)),h2⟩)
 ·obtain⟨cur,hc,_⟩:=own_blk h.u rfl
  exact .inr (.inr (.inl ⟨n,gu,cu,bw,bn,h.keep (kp _ _ _ hc (by decide)) (kp _ _ _ h.b (by decide)) (kp _ _ _ h.n (by decide)),h2⟩))
 ·obtain⟨cur,hc,_⟩:=own_blk h.u rfl
  refine .inr (.inr (.inr ⟨t,A0,a',x',gu,cu,bb,bw,bn,e1,e2,h.keep (kp _ _ _ hc (by decide)) (kp _ _ _ h.k (by decide)) (kp _ _ _ h.b (by decide)) (kp _ _ _ h.n (by decide)),h3,h4,h5,fun w3 hs hk=>?_⟩))
  refine h6 w3 (by rw[<-hst.size];exact hs) (fun k k1 k2=>(hk k (by rw[hst.size];exact k1) (fun e=>k2 (e.imp (ho k) .inl))).trans (hst.other k (fun e=>k2 (.inr (.inr (by rw[e];exact⟨hwb,hz⟩))))))
end
theorem wUndo_0(c:Nat)(vN vT vS:Value)(w:World)(hb:w.heap[c]?=some (.cells #[vN,vT,vS,.slice none 0 0] 198 (0,0))):
  Calls Tryz.prog 115 #[.pointer (some ⟨c,0,none⟩)] w fun e w'=>(∃u,e=.returned u)/\w'=w:=by
 have c3:w.cell? ⟨c,3,none⟩=some (.slice none 0 0):=by simp[World.cell?,hb]
 have hcl:=blk_lt hb
 clear hb
 go_enter Tryz.func115,Tryz.ntmps115
 go_wp2
 go_loopw [2] (fun i wr=>i=.int .i64 (-1)/\wr=w) (fun i _=>0)
 case atStart=>exact⟨rfl,rfl⟩
 case round=>
  obtain⟨rfl,rfl⟩:=hrel
  go_wp2
  go_end0
  exact⟨⟨_,rfl⟩,rfl⟩
theorem wUndo_any{Z:Nat->Prop}{w:World}{c B0:Nat}{vN vT vS vU:Value}{s0:Sto}(h:Undn Z w c B0 vN vT vS vU s0):
  Calls Tryz.prog 115 #[.pointer (some ⟨c,0,none⟩)] w fun e w'=>(∃u,e=.returned u)/\∃vT' vS' vU' Bk' A',WkM Z w' c B0 vN vT' vS' vU' Bk' A' s0/\Dst (OwnW B0 c vN vT vS w) w (OwnW B0 c vN vT' vS' w') w':=by
 obtain⟨Bk,A,s1,hm,hu⟩:=h
 rcases hu with⟨rfl,h⟩|⟨n,gu,cu,bw,bn,h,h2,h3,h4,h5⟩|⟨n,gu,cu,bw,bn,h,h2,h3,h4,h5⟩|⟨t,A0,a',x',gu,cu,bb,bw,bn,rfl,rfl,h,h3,h4,h5,h6⟩
 ·refine(wUndo_0 c vN vT vS w hm.blk).mono ?_
  rintro e w' ⟨hu,rfl⟩
  exact⟨hu,_,_,_,_,_,hm.same h,Dst.refl _ _⟩
 ·refine(wUndo_T Z c B0 vN vT vS vU Bk A s1 n gu cu bw bn w hm h h2 h3 h4).mono ?_
  rintro e w' ⟨hu,vT',vU',m1,d1⟩
  exact⟨hu,_,_,_,_,_,m1.same h5,d1⟩
 ·refine(wUndo_S Z c B0 vN vT vS vU Bk A s1 n gu cu bw bn w hm h h2 h3 h4).mono ?_
  rintro e w' ⟨hu,vS',vU',m1,d1⟩
  exact⟨hu,_,_,_,_,_,m1.same h5,d1⟩
 ·refine(wUndo_R Z c B0 vN vT vS vU Bk A0 s0 t a' x' gu cu bb bw bn w hm h h3 h4 h5 h6).mono ?_
  rintro e w' ⟨hu,vT',vU',m1,d1⟩
  exact⟨hu,_,_,_,_,_,m1,d1⟩
end
end Go.Proofs.YtgmlkfgfjjggnaaGreatDoor
