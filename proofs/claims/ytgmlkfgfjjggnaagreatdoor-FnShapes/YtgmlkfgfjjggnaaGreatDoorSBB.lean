import Derived.Test.YtgmlkfgfjjggnaaGreatDoorSBA
set_option linter.unusedVariables false
set_option linter.unusedSimpArgs false
set_option maxHeartbeats 40000000
set_option maxRecDepth 100000
namespace Go.Proofs.YtgmlkfgfjjggnaaGreatDoor
section
open Go.RowKit
attribute [local go_sem] run_store_float run_equalIn_float run_store_func
def HeldU(bw bn c n:Nat)(W:World):Prop:=W.cell? ⟨bw,0,none⟩=some (.pointer (some ⟨c,0,none⟩))/\W.cell? ⟨bn,0,none⟩=some (.int .i64 (n:Int))
theorem undoT_any(Z:Nat->Prop)(c B0:Nat)(vN vS vU:Value)(Bk:Nat->Nat)(A:Nat->Ad)(s:Sto)(n g cp bw bn:Nat)(w:World)(hM:WkM Z w c B0 vN (.slice (some ⟨g,0,none⟩) s.nt cp) vS vU Bk A s)(hb:w.heap[bw]?=some (.cells #[.pointer (some ⟨c,0,none⟩)] 121 (0,0)))(hnn:w.heap[bn]?=some (.cells #[.int .i64 (n:Int)] 3 (0,0)))(hn:n<=s.nt)(h1:s.nt<=200):
  Calls Tryz.prog 202 #[.pointer (some ⟨bw,0,none⟩),.pointer (some ⟨bn,0,none⟩)] w fun e w'=>(∃u,e=.returned u)/\WkM Z w' c B0 vN (.slice (some ⟨g,0,none⟩) n cp) vS vU Bk A {s with nt:=n}/\Dst (OwnW B0 c vN (.slice (some ⟨g,0,none⟩) s.nt cp) vS w) w (OwnW B0 c vN (.slice (some ⟨g,0,none⟩) n cp) vS w') w':=by
 have hcl:=hM.lt
 obtain⟨c0,c1,c2,c3,cf⟩:=hM.cells
 obtain⟨mC,dC⟩:=hM.cutT rfl hn
 have hcap:s.nt<=cp:=by
  obtain⟨_,⟨hv,_⟩|⟨g',cap,cur,hv,_,_,h2,_⟩⟩:=hM.t
  ·cases hv
  ·cases hv;exact h2
 have hnb:bw≠c:=fun e=>by rw[e,hM.blk]at hb;cases hb
 have hnc:bn≠c:=fun e=>by rw[e,hM.blk]at hnn;cases hnn
 have lb:=blk_lt hb
 have ln:=blk_lt hnn
 have hS0:HeldU bw bn c n w.drew:=⟨by show w.cell? _=_;simp[World.cell?,hb],by show w.cell? _=_;simp[World.cell?,hnn]⟩
 have hS1:HeldU bw bn c n (w.setCell ⟨c,1,none⟩ (.slice (some ⟨g,0,none⟩) n cp)).drew:=⟨(World.cell?_of_block (a:=⟨bw,0,none⟩) (Deep.blk_setCell_other _ _ _ _ (by exact hnb))).trans hS0.1,(World.cell?_of_block (a:=⟨bn,0,none⟩) (Deep.blk_setCell_other _ _ _ _ (by exact hnc))).trans hS0.2⟩
 have xf:=cf 1
 have hcn:n<=cp:=Nat.le_trans hn hcap
 have HC:=uy (And.intro mC.drew dC.drewW)
 clear hM mC dC hb hnn c0 c2 c3 cf
 go_enter Tryz.func202,Tryz.ntmps202
 go_wp2_with fail
 refine wpN_held (HeldU bw bn c n) (by kernel_rfl) ?_
 change wpAnyH _ _ _ _ _ _ _ _ (World.drew _)
 refine tq 0 (v:=?_) ?_ ?_;rotate_left;intro w' ⟨s0,s1⟩;go_simp;try with_reducible rfl
 simp only[Act.put,sA,sB,sC]
 refine tq 1 (v:=?_) ?_ ?_;rotate_left;intro w' ⟨s0,s1⟩;go_simp;try with_reducible rfl
 simp only[Act.put,sA,sB,sC]
 refine tq 2 (v:=?_) ?_ ?_;rotate_left;intro w' ⟨s0,s1⟩;go_simp;try with_reducible rfl
 simp only[Act.put,sA,sB,sC]
 refine tq 3 (v:=?_) ?_ ?_;rotate_left;intro w' ⟨s0,s1⟩;go_simp;try with_reducible rfl
 simp only[Act.put,sA,sB,sC]
 refine tq 4 (v:=?_) ?_ ?_;rotate_left;intro w' ⟨s0,s1⟩;go_simp;try with_reducible rfl
 simp only[Act.put,sA,sB,sC]
 refine tq 6 (v:=?_) ?_ ?_;rotate_left;intro w' ⟨s0,s1⟩;go_simp;try with_reducible rfl
 simp only[Act.put,sA,sB,sC]
 refine wpAnyH_ready (rs:=[5]) (by kernel_rfl) (by simp) ?_
 refine AllReadyH.cons rfl (fun K hK=>?_) AllReadyH.nil
 go_simp
 refine hK.out _ _ hS0 (fun _=>?_)
 clear hK K
 refine tq 7 (v:=?_) ?_ ?_;rotate_left;intro w' ⟨s0,s1⟩;go_simp;try with_reducible rfl
 (try simp only[Act.put]);(try simp only[List.setIfInBounds_toArray]);(try simp only[List.set_cons_succ]);try simp only[List.set_cons_zero]
 refine tq 8 (v:=?_) ?_ ?_;rotate_left;intro w' ⟨s0,s1⟩;go_simp;try with_reducible rfl
 (try simp only[Act.put]);(try simp only[List.setIfInBounds_toArray]);(try simp only[List.set_cons_succ]);try simp only[List.set_cons_zero]
 refine tq 9 (v:=?_) ?_ ?_;rotate_left;intro w' ⟨s0,s1⟩;go_simp;try with_reducible rfl
 (try simp only[Act.put]);(try simp only[List.setIfInBounds_toArray]);(try simp only[List.set_cons_succ]);try simp only[List.set_cons_zero]
 refine tq 10 (v:=?_) ?_ ?_;rotate_left;intro w' ⟨s0,s1⟩;go_simp;try with_reducible rfl
 (try simp only[Act.put]);(try simp only[List.setIfInBounds_toArray]);(try simp only[List.set_cons_succ]);try simp only[List.set_cons_zero]
 refine wpAnyH_ready (rs:=[11]) (by kernel_rfl) (by simp) ?_
 refine AllReadyH.cons rfl (fun K hK=>?_) AllReadyH.nil
 go_simp
 refine hK.out _ _ hS1 (fun _=>?_)
 clear hK K
 refine wpAnyH_done (by kernel_rfl) ?_ _
 refine QN.normal ?_
 go_wp2_with fail
 go_end0
 exact⟨⟨_,rfl⟩,(uh HC).1,(uh HC).2⟩
theorem wUndo_T(Z:Nat->Prop)(c B0:Nat)(vN vT vS vU:Value)(Bk:Nat->Nat)(A:Nat->Ad)(s:Sto)(n gu cu bw bn:Nat)(w:World)(hM:WkM Z w c B0 vN vT vS vU Bk A s)(hU:UndoT 202 w c vU n gu cu bw bn)(hn:n<=s.nt)(h0:0<s.nt)(h1:s.nt<=200):
  Calls Tryz.prog 115 #[.pointer (some ⟨c,0,none⟩)] w fun e w'=>(∃u,e=.returned u)/\∃vT' vU',WkM Z w' c B0 vN vT' vS vU' Bk A {s with nt:=n}/\Dst (OwnW B0 c vN vT vS w) w (OwnW B0 c vN vT' vS w') w':=by
 obtain⟨hv,hu,hb,hnn⟩:=hU
 subst hv
 obtain⟨g,cp,hvT,hgl,hBg,hgt,hgf⟩:=hM.tform h0
 subst hvT
 have hcl:=hM.lt
 obtain⟨c0,c1,c2,c3,cf⟩:=hM.cells
 have u0:w.cell? ⟨gu,0,none⟩=some (.func (.func 202) #[] #[.pointer (some ⟨bw,0,none⟩),.pointer (some ⟨bn,0,none⟩)]):=by rw[World.ownsRow.cellAt hu 0 (by omega)];rfl
 have lu:gu<w.heap.size:=(hu.lt gu rfl).2
 have HM:=uy hM
 have HB:=uy (And.intro hb hnn)
 clear hM hb hnn hu hgt hgf c0 c2
 go_enter Tryz.func115,Tryz.ntmps115
 go_wp2
 go_loopw [2] (fun i wr=>(i=.int .i64 0/\wr=w)\/(i=.int .i64 (-1)/\∃vT' vU',WkM Z wr c B0 vN vT' vS vU' Bk A {s with nt:=n}/\Dst (OwnW B0 c vN (.slice (some ⟨g,0,none⟩) s.nt cp) vS w) w (OwnW B0 c vN vT' vS wr) wr)) (fun i _=>(intOf i+1).toNat)
 case atStart=>exact .inl ⟨rfl,rfl⟩
 case round=>
  rcases hrel with⟨rfl,rfl⟩|⟨rfl,vT',vU',m1,d1⟩
  ·have HRel:Hid (∀w1,WkM Z w1 c B0 vN (.slice (some ⟨g,0,none⟩) n cp) vS (.slice (some ⟨gu,0,none⟩) 1 cu) Bk A {s with nt:=n}/\Dst (OwnW B0 c vN (.slice (some ⟨g,0,none⟩) s.nt cp) vS wr) wr (OwnW B0 c vN (.slice (some ⟨g,0,none⟩) n cp) vS w1) w1->∃vT' vU',WkM Z w1 c B0 vN vT' vS vU' Bk A {s with nt:=n}/\Dst (OwnW B0 c vN (.slice (some ⟨g,0,none⟩) s.nt cp) vS wr) wr (OwnW B0 c vN vT' vS w1) w1):=uy (fun w1 h=>⟨_,_,h⟩)
   go_wp2_with fail
   refine(undoT_any Z c B0 vN vS _ Bk A s n g cp bw bn wr (uh HM) (uh HB).1 (uh HB).2 hn h1).mono ?_
   rintro e w1 ⟨⟨uu,rfl⟩,hm1⟩
   have HR:=uy (uh HRel w1 hm1)
   clear hm1
   go_wp2
   go_roundw
   case rel=>exact .inr ⟨rfl,uh HR⟩
   case measure=>simp[intOf]
  ·have HM1:=uy (And.intro m1 d1)
   clear m1 d1
   go_wp2
   go_end0
   exact⟨⟨_,rfl⟩,vT',vU',(uh HM1).1,(uh HM1).2⟩
end
section
open Go.RowKit
attribute [local go_sem] run_store_float run_equalIn_float run_store_func
theorem undoS_any(Z:Nat->Prop)(c B0:Nat)(vN vT vU:Value)(Bk:Nat->Nat)(A:Nat->Ad)(s:Sto)(n g cp bw bn:Nat)(w:World)(hM:WkM Z w c B0 vN vT (.slice (some ⟨g,0,none⟩) s.ns cp) vU Bk A s)(hb:w.heap[bw]?=some (.cells #[.pointer (some ⟨c,0,none⟩)] 121 (0,0)))(hnn:w.heap[bn]?=some (.cells #[.int .i64 (n:Int)] 3 (0,0)))(hn:n<=s.ns)(h1:s.ns<=200):
  Calls Tryz.prog 205 #[.pointer (some ⟨bw,0,none⟩),.pointer (some ⟨bn,0,none⟩)] w fun e w'=>(∃u,e=.returned u)/\WkM Z w' c B0 vN vT (.slice (some ⟨g,0,none⟩) n cp) vU Bk A {s with ns:=n}/\Dst (OwnW B0 c vN vT (.slice (some ⟨g,0,none⟩) s.ns cp) w) w (OwnW B0 c vN vT (.slice (some ⟨g,0,none⟩) n cp) w') w':=by
 have hcl:=hM.lt
 obtain⟨c0,c2,c1,c3,cf⟩:=hM.cells
 obtain⟨mC,dC⟩:=hM.cutS rfl hn
 have hcap:s.ns<=cp:=by
  obtain⟨_,⟨hv,_⟩|⟨g',cap,cur,hv,_,_,h2,_⟩⟩:=hM.si
  ·cases hv
  ·cases hv;exact h2
 have hnb:bw≠c:=fun e=>by rw[e,hM.blk]at hb;cases hb
 have hnc:bn≠c:=fun e=>by rw[e,hM.blk]at hnn;cases hnn
 have lb:=blk_lt hb
 have ln:=blk_lt hnn
 have hS0:HeldU bw bn c n w.drew:=⟨by show w.cell? _=_;simp[World.cell?,hb],by show w.cell? _=_;simp[World.cell?,hnn]⟩
 have hS1:HeldU bw bn c n (w.setCell ⟨c,2,none⟩ (.slice (some ⟨g,0,none⟩) n cp)).drew:=⟨(World.cell?_of_block (a:=⟨bw,0,none⟩) (Deep.blk_setCell_other _ _ _ _ (by exact hnb))).trans hS0.1,(World.cell?_of_block (a:=⟨bn,0,none⟩) (Deep.blk_setCell_other _ _ _ _ (by exact hnc))).trans hS0.2⟩
 have xf:=cf 2
 have hcn:n<=cp:=Nat.le_trans hn hcap
 have HC:=uy (And.intro mC.drew dC.drewW)
 clear hM mC dC hb hnn c0 c2 c3 cf
 go_enter Tryz.func205,Tryz.ntmps205
 go_wp2_with fail
 refine wpN_held (HeldU bw bn c n) (by kernel_rfl) ?_
 change wpAnyH _ _ _ _ _ _ _ _ (World.drew _)
 refine tq 0 (v:=?_) ?_ ?_;rotate_left;intro w' ⟨s0,s1⟩;go_simp;try with_reducible rfl
 simp only[Act.put,sA,sB,sC]
 refine tq 1 (v:=?_) ?_ ?_;rotate_left;intro w' ⟨s0,s1⟩;go_simp;try with_reducible rfl
 simp only[Act.put,sA,sB,sC]
 refine tq 2 (v:=?_) ?_ ?_;rotate_left;intro w' ⟨s0,s1⟩;go_simp;try with_reducible rfl
 simp only[Act.put,sA,sB,sC]
 refine tq 3 (v:=?_) ?_ ?_;rotate_left;intro w' ⟨s0,s1⟩;go_simp;try with_reducible rfl
 simp only[Act.put,sA,sB,sC]
 refine tq 5 (v:=?_) ?_ ?_;rotate_left;intro w' ⟨s0,s1⟩;go_simp;try with_reducible rfl
 simp only[Act.put,sA,sB,sC]
 refine wpAnyH_ready (rs:=[4]) (by kernel_rfl) (by simp) ?_
 refine AllReadyH.cons rfl (fun K hK=>?_) AllReadyH.nil
 go_simp
 refine hK.out _ _ hS0 (fun _=>?_)
 clear hK K
 refine tq 6 (v:=?_) ?_ ?_;rotate_left;intro w' ⟨s0,s1⟩;go_simp;try with_reducible rfl
 (try simp only[Act.put]);(try simp only[List.setIfInBounds_toArray]);(try simp only[List.set_cons_succ]);try simp only[List.set_cons_zero]
 refine tq 7 (v:=?_) ?_ ?_;rotate_left;intro w' ⟨s0,s1⟩;go_simp;try with_reducible rfl
 (try simp only[Act.put]);(try simp only[List.setIfInBounds_toArray]);(try simp only[List.set_cons_succ]);try simp only[List.set_cons_zero]
 refine tq 8 (v:=?_) ?_ ?_;rotate_left;intro w' ⟨s0,s1⟩;go_simp;try with_reducible rfl
 (try simp only[Act.put]);(try simp only[List.setIfInBounds_toArray]);(try simp only[List.set_cons_succ]);try simp only[List.set_cons_zero]
 refine wpAnyH_ready (rs:=[9]) (by kernel_rfl) (by simp) ?_
 refine AllReadyH.cons rfl (fun K hK=>?_) AllReadyH.nil
 go_simp
 refine hK.out _ _ hS1 (fun _=>?_)
 clear hK K
 refine wpAnyH_done (by kernel_rfl) ?_ _
 refine QN.normal ?_
 go_wp2_with fail
 go_end0
 exact⟨⟨_,rfl⟩,(uh HC).1,(uh HC).2⟩
theorem wUndo_S(Z:Nat->Prop)(c B0:Nat)(vN vT vS vU:Value)(Bk:Nat->Nat)(A:Nat->Ad)(s:Sto)(n gu cu bw bn:Nat)(w:World)(hM:WkM Z w c B0 vN vT vS vU Bk A s)(hU:UndoT 205 w c vU n gu cu bw bn)(hn:n<=s.ns)(h0:0<s.ns)(h1:s.ns<=200):
  Calls Tryz.prog 115 #[.pointer (some ⟨c,0,none⟩)] w fun e w'=>(∃u,e=.returned u)/\∃vS' vU',WkM Z w' c B0 vN vT vS' vU' Bk A {s with ns:=n}/\Dst (OwnW B0 c vN vT vS w) w (OwnW B0 c vN vT vS' w') w':=by
 obtain⟨hv,hu,hb,hnn⟩:=hU
 subst hv
 obtain⟨g,cp,hvT,hgl,hBg,hgt,hgf⟩:=hM.sform h0
 subst hvT
 have hcl:=hM.lt
 obtain⟨c0,c2,c1,c3,cf⟩:=hM.cells
 have u0:w.cell? ⟨gu,0,none⟩=some (.func (.func 205) #[] #[.pointer (some ⟨bw,0,none⟩),.pointer (some ⟨bn,0,none⟩)]):=by rw[World.ownsRow.cellAt hu 0 (by omega)];rfl
 have lu:gu<w.heap.size:=(hu.lt gu rfl).2
 have HM:=uy hM
 have HB:=uy (And.intro hb hnn)
 clear hM hb hnn hu hgt hgf c0 c2
 go_enter Tryz.func115,Tryz.ntmps115
 go_wp2
 go_loopw [2] (fun i wr=>(i=.int .i64 0/\wr=w)\/(i=.int .i64 (-1)/\∃vS' vU',WkM Z wr c B0 vN vT vS' vU' Bk A {s with ns:=n}/\Dst (OwnW B0 c vN vT (.slice (some ⟨g,0,none⟩) s.ns cp) w) w (OwnW B0 c vN vT vS' wr) wr)) (fun i _=>(intOf i+1).toNat)
 case atStart=>exact .inl ⟨rfl,rfl⟩
 case round=>
  rcases hrel with⟨rfl,rfl⟩|⟨rfl,vT',vU',m1,d1⟩
  ·have HRel:Hid (∀w1,WkM Z w1 c B0 vN vT (.slice (some ⟨g,0,none⟩) n cp) (.slice (some ⟨gu,0,none⟩) 1 cu) Bk A {s with ns:=n}/\Dst (OwnW B0 c vN vT (.slice (some ⟨g,0,none⟩) s.ns cp) wr) wr (OwnW B0 c vN vT (.slice (some ⟨g,0,none⟩) n cp) w1) w1->∃vS' vU',WkM Z w1 c B0 vN vT vS' vU' Bk A {s with ns:=n}/\Dst (OwnW B0 c vN vT (.slice (some ⟨g,0,none⟩) s.ns cp) wr) wr (OwnW B0 c vN vT vS' w1) w1):=uy (fun w1 h=>⟨_,_,h⟩)
   go_wp2_with fail
   refine(undoS_any Z c B0 vN vT _ Bk A s n g cp bw bn wr (uh HM) (uh HB).1 (uh HB).2 hn h1).mono ?_
   rintro e w1 ⟨⟨uu,rfl⟩,hm1⟩
   have HR:=uy (uh HRel w1 hm1)
   clear hm1
   go_wp2
   go_roundw
   case rel=>exact .inr ⟨rfl,uh HR⟩
   case measure=>simp[intOf]
  ·have HM1:=uy (And.intro m1 d1)
   clear m1 d1
   go_wp2
   go_end0
   exact⟨⟨_,rfl⟩,vT',vU',(uh HM1).1,(uh HM1).2⟩
def HeldV(bb bw bn c t:Nat)(kv vT:Value)(W:World):Prop:=W.cell? ⟨bw,0,none⟩=some (.pointer (some ⟨c,0,none⟩))/\W.cell? ⟨bn,0,none⟩=some (.int .i64 (t:Int))/\W.cell? ⟨bb,0,none⟩=some kv/\W.cell? ⟨c,1,none⟩=some vT
theorem up1_back{α:Type}(f:Nat->α)(i:Nat)(a:α):up1 (up1 f i a) i (f i)=f:=by
 funext j
 unfold up1
 by_cases h:j=i
 ·subst h;simp
 ·simp[h]
theorem undoR_any(Z:Nat->Prop)(c B0:Nat)(vN vS vU:Value)(Bk:Nat->Nat)(A:Nat->Ad)(s:Sto)(t:Nat)(a':Ad)(x':Tb)(g cp bb bw bn:Nat)(w:World)(hM:WkM Z w c B0 vN (.slice (some ⟨g,0,none⟩) s.nt cp) vS vU Bk (up1 A t a') (setT s t x'))(hk:w.heap[bb]?=some (.cells #[kindV Bk (A t) (s.T t)] 162 (0,0)))(hbg:bb≠g)(hb:w.heap[bw]?=some (.cells #[.pointer (some ⟨c,0,none⟩)] 121 (0,0)))(hnn:w.heap[bn]?=some (.cells #[.int .i64 (t:Int)] 3 (0,0)))(ht:t<s.nt)(h1:s.nt<=200)(hr:Rd (OZ Z B0 c vN (.slice (some ⟨g,0,none⟩) s.nt cp) vS w) w (A t) (s.T t)):
  Calls Tryz.prog 240 #[.pointer (some ⟨bb,0,none⟩),.pointer (some ⟨bw,0,none⟩),.pointer (some ⟨bn,0,none⟩)] w fun e w'=>(∃u,e=.returned u)/\WkM Z w' c B0 vN (.slice (some ⟨g,0,none⟩) s.nt cp) vS vU Bk A s/\Dst (OwnW B0 c vN (.slice (some ⟨g,0,none⟩) s.nt cp) vS w) w (OwnW B0 c vN (.slice (some ⟨g,0,none⟩) s.nt cp) vS w') w':=by
 have hcl:=hM.lt
 obtain⟨c0,c1,c2,c3,cf⟩:=hM.cells
 obtain⟨mC,dC⟩:=hM.setTab (t:=t) rfl ht hr
 have eA:up1 (up1 A t a') t (A t)=A:=up1_back A t a'
 have eS:setT (setT s t x') t (s.T t)=s:=by
  show{s with T:=up1 (up1 s.T t x') t (s.T t)}=s
  rw[up1_back]
 rw[eA,eS]at mC
 have hown:=hM.t
 have hgl:g<w.heap.size:=(hown.lt g rfl).2
 have hgt:∃u,w.cell? ⟨g,t,none⟩=some u:=⟨_,by rw[World.ownsRow.cellAt hown t (by show t<s.nt*1;omega),kL_get (by exact ht)]⟩
 have hgf:w.frozen? ⟨g,t,none⟩=false:=by obtain⟨cur,hb,_⟩:=own_blk hown rfl;simp[World.frozen?,hb]
 obtain⟨gt,hgt⟩:=hgt
 obtain⟨ty,kv,hkv⟩:=kind_form Bk (A t) (s.T t)
 rw[hkv]at mC dC hk
 have hcg:c≠g:=fun e=>hM.notrow hM.t (by decide) (by rw[e];rfl)
 have nb:bw≠g:=fun e=>by obtain⟨cur,hc,_⟩:=own_blk hown rfl;rw[e,hc]at hb;cases hb
 have nn:bn≠g:=fun e=>by obtain⟨cur,hc,_⟩:=own_blk hown rfl;rw[e,hc]at hnn;cases hnn
 have lb:=blk_lt hb
 have ln:=blk_lt hnn
 have lk:=blk_lt hk
 have hS0:HeldV bb bw bn c t (.iface ty kv) (.slice (some ⟨g,0,none⟩) s.nt cp) w.drew:=⟨by show w.cell? _=_;simp[World.cell?,hb],by show w.cell? _=_;simp[World.cell?,hnn],by show w.cell? _=_;simp[World.cell?,hk],c1⟩
 have hS1:HeldV bb bw bn c t (.iface ty kv) (.slice (some ⟨g,0,none⟩) s.nt cp) (w.setCell ⟨g,t,none⟩ (.iface ty kv)).drew:=⟨(World.cell?_of_block (a:=⟨bw,0,none⟩) (Deep.blk_setCell_other _ _ _ _ (by exact nb))).trans hS0.1,(World.cell?_of_block (a:=⟨bn,0,none⟩) (Deep.blk_setCell_other _ _ _ _ (by exact nn))).trans hS0.2.1,(World.cell?_of_block (a:=⟨bb,0,none⟩) (Deep.blk_setCell_other _ _ _ _ (by exact hbg))).trans hS0.2.2.1,(World.cell?_of_block (a:=⟨c,1,none⟩) (Deep.blk_setCell_other _ _ _ _ (by exact hcg))).trans hS0.2.2.2⟩
 have HC:=uy (And.intro mC.drew dC.drewW)
 clear hM mC dC hb hnn hk c0 c1 c2 c3 cf hr hown hkv eA eS
 go_enter Tryz.func240,Tryz.ntmps240
 go_wp2_with fail
 refine wpN_held (HeldV bb bw bn c t (.iface ty kv) (.slice (some ⟨g,0,none⟩) s.nt cp)) (by kernel_rfl) ?_
 change wpAnyH _ _ _ _ _ _ _ _ (World.drew _)
 refine tq 0 (v:=?_) ?_ ?_;rotate_left;intro w' ⟨s0,s1,s2,s3⟩;go_simp;try with_reducible rfl
 simp only[Act.put,sA,sB,sC]
 refine tq 1 (v:=?_) ?_ ?_;rotate_left;intro w' ⟨s0,s1,s2,s3⟩;go_simp;try with_reducible rfl
 simp only[Act.put,sA,sB,sC]
 refine tq 2 (v:=?_) ?_ ?_;rotate_left;intro w' ⟨s0,s1,s2,s3⟩;go_simp;try with_reducible rfl
 simp only[Act.put,sA,sB,sC]
 refine tq 3 (v:=?_) ?_ ?_;rotate_left;intro w' ⟨s0,s1,s2,s3⟩;go_simp;try with_reducible rfl
 simp only[Act.put,sA,sB,sC]
 refine tq 4 (v:=?_) ?_ ?_;rotate_left;intro w' ⟨s0,s1,s2,s3⟩;go_simp;try with_reducible rfl
 simp only[Act.put,sA,sB,sC]
 refine tq 5 (v:=?_) ?_ ?_;rotate_left;intro w' ⟨s0,s1,s2,s3⟩;go_simp;try with_reducible rfl
 simp only[Act.put,sA,sB,sC]
 refine tq 6 (v:=?_) ?_ ?_;rotate_left;intro w' ⟨s0,s1,s2,s3⟩;go_simp;try with_reducible rfl
 simp only[Act.put,sA,sB,sC]
 refine tq 7 (v:=?_) ?_ ?_;rotate_left;intro w' ⟨s0,s1,s2,s3⟩;go_simp;try with_reducible rfl
 simp only[Act.put,sA,sB,sC]
 refine wpAnyH_ready (rs:=[8]) (by kernel_rfl) (by simp) ?_
 refine AllReadyH.cons rfl (fun K hK=>?_) AllReadyH.nil
 go_simp
 refine hK.out _ _ hS1 (fun _=>?_)
 clear hK K
 refine wpAnyH_done (by kernel_rfl) ?_ _
 refine QN.normal ?_
 go_wp2_with fail
 go_end0
 exact⟨⟨_,rfl⟩,(uh HC).1,(uh HC).2⟩
theorem wUndo_R(Z:Nat->Prop)(c B0:Nat)(vN vT vS vU:Value)(Bk:Nat->Nat)(A:Nat->Ad)(s:Sto)(t:Nat)(a':Ad)(x':Tb)(gu cu bb bw bn:Nat)(w:World)(hM:WkM Z w c B0 vN vT vS vU Bk (up1 A t a') (setT s t x'))(hU:UndoR w c vU t (kindV Bk (A t) (s.T t)) gu cu bb bw bn)(hbg:vT.ownBlock≠some bb)(ht:t<s.nt)(h1:s.nt<=200)(hr:Rd (OZ Z B0 c vN vT vS w) w (A t) (s.T t)):
  Calls Tryz.prog 115 #[.pointer (some ⟨c,0,none⟩)] w fun e w'=>(∃u,e=.returned u)/\∃vT' vU',WkM Z w' c B0 vN vT' vS vU' Bk A s/\Dst (OwnW B0 c vN vT vS w) w (OwnW B0 c vN vT' vS w') w':=by
 obtain⟨hv,hu,hk,hb,hnn⟩:=hU
 subst hv
 obtain⟨g,cp,hvT,hgl,hBg,hgt,hgf⟩:=hM.tform ht
 have hvT:vT=.slice (some ⟨g,0,none⟩) s.nt cp:=hvT
 subst hvT
 have hng:bb≠g:=fun e=>hbg (by rw[e];rfl)
 have hcl:=hM.lt
 obtain⟨c0,c1,c2,c3,cf⟩:=hM.cells
 have u0:w.cell? ⟨gu,0,none⟩=some (.func (.func 240) #[] #[.pointer (some ⟨bb,0,none⟩),.pointer (some ⟨bw,0,none⟩),.pointer (some ⟨bn,0,none⟩)]):=by rw[World.ownsRow.cellAt hu 0 (by omega)];rfl
 have lu:gu<w.heap.size:=(hu.lt gu rfl).2
 have HM:=uy hM
 have HB:=uy (And.intro hk (And.intro hb hnn))
 have HRR:=uy hr
 clear hM hk hb hnn hu hgt hgf c0 c2 hr
 go_enter Tryz.func115,Tryz.ntmps115
 go_wp2
 go_loopw [2] (fun i wr=>(i=.int .i64 0/\wr=w)\/(i=.int .i64 (-1)/\∃vT' vU',WkM Z wr c B0 vN vT' vS vU' Bk A s/\Dst (OwnW B0 c vN (.slice (some ⟨g,0,none⟩) s.nt cp) vS w) w (OwnW B0 c vN vT' vS wr) wr)) (fun i _=>(intOf i+1).toNat)
 case atStart=>exact .inl ⟨rfl,rfl⟩
 case round=>
  rcases hrel with⟨rfl,rfl⟩|⟨rfl,vT',vU',m1,d1⟩
  ·have HRel:Hid (∀w1,WkM Z w1 c B0 vN (.slice (some ⟨g,0,none⟩) s.nt cp) vS (.slice (some ⟨gu,0,none⟩) 1 cu) Bk A s/\Dst (OwnW B0 c vN (.slice (some ⟨g,0,none⟩) s.nt cp) vS wr) wr (OwnW B0 c vN (.slice (some ⟨g,0,none⟩) s.nt cp) vS w1) w1->∃vT' vU',WkM Z w1 c B0 vN vT' vS vU' Bk A s/\Dst (OwnW B0 c vN (.slice (some ⟨g,0,none⟩) s.nt cp) vS wr) wr (OwnW B0 c vN vT' vS w1) w1):=uy (fun w1 h=>⟨_,_,h⟩)
   go_wp2_with fail
   refine(undoR_any Z c B0 vN vS _ Bk A s t a' x' g cp bb bw bn wr (uh HM) (uh HB).1 hng (uh HB).2.1 (uh HB).2.2 ht h1 (uh HRR)).mono ?_
   rintro e w1 ⟨⟨uu,rfl⟩,hm1⟩
   have HR:=uy (uh HRel w1 hm1)
   clear hm1
   go_wp2
   go_roundw
   case rel=>exact .inr ⟨rfl,uh HR⟩
   case measure=>simp[intOf]
  ·have HM1:=uy (And.intro m1 d1)
   clear m1 d1
   go_wp2
   go_end0
   exact⟨⟨_,rfl⟩,vT',vU',(uh HM1).1,(uh HM1).2⟩
end
end Go.Proofs.YtgmlkfgfjjggnaaGreatDoor
