/-
  IdQ.
-/
import Derived.Test.YtnjgebncghdajaaGreatDoorBi2
import Derived.Test.YtnjgebncghdajaaGreatDoorBi6
import Derived.Test.YtnjgebncghdajaaGreatDoorBi3
import Derived.Test.YtnjgebncghdajaaGreatDoorBi7
namespace Go.Proofs.YtnjgebncghdajaaGreatDoor
open Go.RowKit
set_option linter.unusedVariables false
attribute [local go_sem] run_store_float run_equalIn_float

def HeldB (g o kb vb : Nat) (tr : Int) (k v : Vl) (W : World) : Prop :=
  W.cell? ⟨g, o + 1, none⟩ = some (.int .i64 tr) ∧
  W.cell? ⟨kb, 0, none⟩ = some (.int .i64 k.kind) ∧ W.cell? ⟨kb, 1, none⟩ = some (.int .i64 k.num) ∧ W.cell? ⟨kb, 2, none⟩ = some (.float .f64 k.flt) ∧ W.cell? ⟨kb, 3, none⟩ = some (.string k.str) ∧ W.cell? ⟨kb, 4, none⟩ = some (.int .i64 k.ref) ∧
  W.cell? ⟨vb, 0, none⟩ = some (.int .i64 v.kind) ∧ W.cell? ⟨vb, 1, none⟩ = some (.int .i64 v.num) ∧ W.cell? ⟨vb, 2, none⟩ = some (.float .f64 v.flt) ∧ W.cell? ⟨vb, 3, none⟩ = some (.string v.str) ∧ W.cell? ⟨vb, 4, none⟩ = some (.int .i64 v.ref)
theorem HeldB.keep {g o kb vb : Nat} {tr : Int} {k v : Vl} {w w' : World} (h : HeldB g o kb vb tr k v w) (hp : w'.heap[g]? = w.heap[g]?) (hk : w'.heap[kb]? = w.heap[kb]?) (hv : w'.heap[vb]? = w.heap[vb]?) : HeldB g o kb vb tr k v w' := by
  obtain ⟨h2, k0, k1, k2, k3, k4, v0, v1, v2, v3, v4⟩ := h
  exact ⟨(World.cell?_of_block (a := ⟨g, o + 1, none⟩) hp).trans h2,
    (World.cell?_of_block (a := ⟨kb, 0, none⟩) hk).trans k0, (World.cell?_of_block (a := ⟨kb, 1, none⟩) hk).trans k1, (World.cell?_of_block (a := ⟨kb, 2, none⟩) hk).trans k2, (World.cell?_of_block (a := ⟨kb, 3, none⟩) hk).trans k3, (World.cell?_of_block (a := ⟨kb, 4, none⟩) hk).trans k4,
    (World.cell?_of_block (a := ⟨vb, 0, none⟩) hv).trans v0, (World.cell?_of_block (a := ⟨vb, 1, none⟩) hv).trans v1, (World.cell?_of_block (a := ⟨vb, 2, none⟩) hv).trans v2, (World.cell?_of_block (a := ⟨vb, 3, none⟩) hv).trans v3, (World.cell?_of_block (a := ⟨vb, 4, none⟩) hv).trans v4⟩

set_option maxRecDepth 100000 in
set_option maxHeartbeats 8000000 in
/-- A table that is full takes nothing. -/
theorem plAdd_full (c B i g cp : Nat) (vS : Value) (U : Nat → Value) (D : Ds) (k v : Vl) (w : World) (hD : DeskM 55 w c B (.slice (some ⟨g, 0, none⟩) D.nt cp) vS U D) (hi : i < D.nt) (hG : D.Good) (hf : (D.T i).full = true) :
    Calls Tryz.prog 66 #[.pointer (some ⟨g, i * 2, none⟩), V k.kind k.num k.flt k.str k.ref, V v.kind v.num v.flt v.str v.ref] w fun e w' => e = .returned (errV 5) ∧ Below w.heap.size w w' := by
  have hn := (hG.t i hi).n
  obtain ⟨g', cp', a, ac, eg, hg, eU, g0, g1, _⟩ := hD.look hi
  cases eg
  clear hD hG
  by_cases hm : (D.T i).n = 500
  · have d1 : (((D.T i).n : Int) == 500) = true := by simp; omega
    clear hm hf
    go_enter Tryz.func66, Tryz.ntmps66
    go_wp2_with fail
    go_ret
    exact ⟨rfl, ((Below.refl _ _).alloc (Nat.le_refl _) _).alloc (by simp) _⟩
  · have d1 : (((D.T i).n : Int) == 500) = false := by simp; omega
    have d2 : ((D.T i).turns == 1000000000000) = true := by simpa [Pl.full, hm] using hf
    clear hm hf
    go_enter Tryz.func66, Tryz.ntmps66
    go_wp2_with fail
    go_ret
    exact ⟨rfl, ((Below.refl _ _).alloc (Nat.le_refl _) _).alloc (by simp) _⟩

set_option maxRecDepth 100000 in
set_option maxHeartbeats 8000000 in
theorem plAdd_any (c B i g cp : Nat) (vS : Value) (U : Nat → Value) (D : Ds) (k v : Vl) (w : World) (hD : DeskM 55 w c B (.slice (some ⟨g, 0, none⟩) D.nt cp) vS U D) (hi : i < D.nt) (hG : D.Good) (hf : (D.T i).full = false) :
    Calls Tryz.prog 66 #[.pointer (some ⟨g, i * 2, none⟩), V k.kind k.num k.flt k.str k.ref, V v.kind v.num v.flt v.str v.ref] w fun e w' => e = .returned (errV 0) ∧ ∃ U', DeskM 55 w' c B (.slice (some ⟨g, 0, none⟩) D.nt cp) vS U' { D with T := up1 D.T i ((D.T i).add k v) } ∧ Dst (OwnD c (.slice (some ⟨g, 0, none⟩) D.nt cp) vS U D.nt) w (OwnD c (.slice (some ⟨g, 0, none⟩) D.nt cp) vS U' D.nt) w' := by
  have hn := (hG.t i hi).n
  have htr := (hG.t i hi).hi
  have htl := (hG.t i hi).lo
  obtain ⟨g', cp', a, ac, eg, hg, eU, g0, g1, _⟩ := hD.look hi
  cases eg
  have hf1 : (D.T i).n ≠ 500 ∧ (D.T i).turns ≠ 1000000000000 := by simpa [Pl.full] using hf
  have d1 : (((D.T i).n : Int) == 500) = false := by simp; omega
  have d2 : ((D.T i).turns == 1000000000000) = false := by simp [hf1.2]
  have hn5 : (D.T i).n < 500 := by omega
  have htr5 : (D.T i).turns < 1000000000000 := by omega
  have fz1 := World.ownsRow.frozenAt hD.tb (i * 2 + 1)
  have fz0 := World.ownsRow.frozenAt hD.tb (i * 2)
  have hwr : IntKind.i64.wrap ((D.T i).turns + 1) = (D.T i).turns + 1 := by rw [IntKind.wrap_i64]; omega
  have hBg := (hD.tb.lt g rfl).1
  obtain ⟨i0, hi0, hz0, hz1, hz2⟩ := info_parts infoPair
  obtain ⟨wt, hwt⟩ : ∃ wt, wt = ((w.setCell ⟨g, i * 2 + 1, none⟩ (.int .i64 ((D.T i).turns + 1))).alloc (.cells #[.int .i64 k.kind, .int .i64 k.num, .float .f64 k.flt, .string k.str, .int .i64 k.ref] 46)).alloc (.cells #[.int .i64 v.kind, .int .i64 v.num, .float .f64 v.flt, .string v.str, .int .i64 v.ref] 46) := ⟨_, rfl⟩
  have hs0 : (w.setCell ⟨g, i * 2 + 1, none⟩ (.int .i64 ((D.T i).turns + 1))).heap.size = w.heap.size := by simp
  have hbt : Below w.heap.size (w.setCell ⟨g, i * 2 + 1, none⟩ (.int .i64 ((D.T i).turns + 1))) wt := by rw [hwt]; exact ((Below.refl _ _).alloc (Nat.le_of_eq hs0.symm) _).alloc (by simp) _
  have hts : wt.heap.size = w.heap.size + 1 + 1 := by rw [hwt]; simp
  have hS0 : HeldB g (i * 2) w.heap.size (w.heap.size + 1) ((D.T i).turns + 1) k v wt.drew := by
    refine ⟨?_, ?_, ?_, ?_, ?_, ?_, ?_, ?_, ?_, ?_, ?_⟩
    · exact (hbt.cell (p := ⟨g, i * 2 + 1, none⟩) hg).trans (World.cell?_setCell_same _ _ _ g1)
    all_goals (rw [hwt]; simp [go_sem])
  have xt : wt.cell? ⟨g, i * 2, none⟩ = some (.slice a (D.T i).n ac) := (hbt.cell (p := ⟨g, i * 2, none⟩) hg).trans ((cell_set_other (by omega)).trans g0)
  have hgt : g < wt.heap.size := by omega
  have hne1 : g ≠ w.heap.size := by omega
  have hne2 : g ≠ w.heap.size + 1 := by omega
  have HOW : Hid (POwn wt B (.slice a (D.T i).n ac) (D.T i).n (D.T i).P) := hide (own_keep (by have := hD.pr i hi; rw [eU] at this; exact this) fun q e => (hbt.block q ((hD.pr i hi).lt q (by rw [eU]; exact e)).2).trans (Deep.blk_setCell_other _ _ _ _ (by intro e2; have e2 : q = g := e2; exact hD.tu g i rfl hi (by rw [eU, ← e2]; exact e))))
  have HD := hide hD
  have HU := hide eU
  have HWT := hide hbt
  clear hG hf hf1 eU hD
  go_enter Tryz.func66, Tryz.ntmps66
  go_wp2_with fail
  rw [← hwt]
  clear hwt
  refine wpN_held (HeldB g (i * 2) w.heap.size (w.heap.size + 1) ((D.T i).turns + 1) k v) (by kernel_rfl) ?_
  change wpAnyH _ _ _ _ _ _ _ _ (World.drew _)
  clear g0 g1 fz1 d1 d2 hbt
  refine tk 0 (v := ?_) rfl (by kernel_rfl) (by rfl) ?_ (by assumption) ?_
  rotate_left
  · intro w' ⟨s0, s1, s2, s3, s4, s5, s6, s7, s8, s9, s10⟩; go_simp; first | done | with_reducible rfl
  simp only [Act.put, List.setIfInBounds_toArray, List.set_cons_succ, List.set_cons_zero]
  refine tk 1 (v := ?_) rfl (by kernel_rfl) (by rfl) ?_ (by assumption) ?_
  rotate_left
  · intro w' ⟨s0, s1, s2, s3, s4, s5, s6, s7, s8, s9, s10⟩; go_simp; first | done | with_reducible rfl
  simp only [Act.put, List.setIfInBounds_toArray, List.set_cons_succ, List.set_cons_zero]
  refine tk 2 (v := ?_) rfl (by kernel_rfl) (by rfl) ?_ (by assumption) ?_
  rotate_left
  · intro w' ⟨s0, s1, s2, s3, s4, s5, s6, s7, s8, s9, s10⟩; go_simp; first | done | with_reducible rfl
  simp only [Act.put, List.setIfInBounds_toArray, List.set_cons_succ, List.set_cons_zero]
  refine tk 3 (v := ?_) rfl (by kernel_rfl) (by rfl) ?_ (by assumption) ?_
  rotate_left
  · intro w' ⟨s0, s1, s2, s3, s4, s5, s6, s7, s8, s9, s10⟩; go_simp; first | done | with_reducible rfl
  simp only [Act.put, List.setIfInBounds_toArray, List.set_cons_succ, List.set_cons_zero]
  refine tk 5 (v := ?_) rfl (by kernel_rfl) (by rfl) ?_ (by assumption) ?_
  rotate_left
  · intro w' ⟨s0, s1, s2, s3, s4, s5, s6, s7, s8, s9, s10⟩; go_simp; first | done | with_reducible rfl
  simp only [Act.put, List.setIfInBounds_toArray, List.set_cons_succ, List.set_cons_zero]
  refine tk 6 (v := ?_) rfl (by kernel_rfl) (by rfl) ?_ (by assumption) ?_
  rotate_left
  · intro w' ⟨s0, s1, s2, s3, s4, s5, s6, s7, s8, s9, s10⟩; go_simp; first | done | with_reducible rfl
  simp only [Act.put, List.setIfInBounds_toArray, List.set_cons_succ, List.set_cons_zero]
  refine tk 7 (v := ?_) rfl (by kernel_rfl) (by rfl) ?_ (by assumption) ?_
  rotate_left
  · intro w' ⟨s0, s1, s2, s3, s4, s5, s6, s7, s8, s9, s10⟩; go_simp; first | done | with_reducible rfl
  simp only [Act.put, List.setIfInBounds_toArray, List.set_cons_succ, List.set_cons_zero]
  refine tk 8 (v := ?_) rfl (by kernel_rfl) (by rfl) ?_ (by assumption) ?_
  rotate_left
  · intro w' ⟨s0, s1, s2, s3, s4, s5, s6, s7, s8, s9, s10⟩; go_simp; first | done | with_reducible rfl
  simp only [Act.put, List.setIfInBounds_toArray, List.set_cons_succ, List.set_cons_zero]
  refine tk 9 (v := ?_) rfl (by kernel_rfl) (by rfl) ?_ (by assumption) ?_
  rotate_left
  · intro w' ⟨s0, s1, s2, s3, s4, s5, s6, s7, s8, s9, s10⟩; go_simp; first | done | with_reducible rfl
  simp only [Act.put, List.setIfInBounds_toArray, List.set_cons_succ, List.set_cons_zero]
  refine tk 10 (v := ?_) rfl (by kernel_rfl) (by rfl) ?_ (by assumption) ?_
  rotate_left
  · intro w' ⟨s0, s1, s2, s3, s4, s5, s6, s7, s8, s9, s10⟩; go_simp; first | done | with_reducible rfl
  simp only [Act.put, List.setIfInBounds_toArray, List.set_cons_succ, List.set_cons_zero]
  refine tk 11 (v := ?_) rfl (by kernel_rfl) (by rfl) ?_ (by assumption) ?_
  rotate_left
  · intro w' ⟨s0, s1, s2, s3, s4, s5, s6, s7, s8, s9, s10⟩; go_simp; first | done | with_reducible rfl
  simp only [Act.put, List.setIfInBounds_toArray, List.set_cons_succ, List.set_cons_zero]
  have hbX : Below wt.heap.size wt ((wt.alloc (.cells #[.int .i64 k.kind, .int .i64 k.num, .float .f64 k.flt, .string k.str, .int .i64 k.ref, .int .i64 v.kind, .int .i64 v.num, .float .f64 v.flt, .string v.str, .int .i64 v.ref, .int .i64 ((D.T i).turns + 1)] 95)).drew) := ((Below.refl _ _).alloc (Nat.le_refl _) _).drew
  have hS1' := hS0.keep (hbX.block g (by omega)) (hbX.block w.heap.size (by omega)) (hbX.block (w.heap.size + 1) (by omega))
  refine wpAnyH_ready (rs := [4, 12]) (by kernel_rfl) (by simp) ?_
  refine AllReadyH.cons rfl (fun K hK => ?_) (AllReadyH.cons rfl (fun K hK => ?_) AllReadyH.nil)
  · go_simp
    refine hK.out _ _ hS0 (fun _ => ?_)
    clear hK K
    refine wpAnyH_ready (rs := [12]) (by kernel_rfl) (by simp) ?_
    refine AllReadyH.cons rfl (fun K hK => ?_) AllReadyH.nil
    go_simp
    refine hK.out _ _ hS1' (fun hS1 => ?_)
    clear hK K
    refine wpAnyH_ready (rs := [13]) (by kernel_rfl) (by simp) ?_
    refine AllReadyH.cons rfl (fun K hK => ?_) AllReadyH.nil
    refine step_append_lies _ rfl (.tmp 33) (.tmp 41) 70 rfl B 95 i0 PZ 11 104 Tryz.underlying70 hi0 hz0 hz1 hz2 rfl (by decide) (.slice a (D.T i).n ac) (D.T i).n (pL (D.T i).P (D.T i).n) (by simp [Act.eval]) (World.ownsRow.drew (World.ownsRow.alloc (unhide HOW) _)) ⟨wt.heap.size, 0, none⟩ 1 1 (prL ⟨k, v, (D.T i).turns + 1⟩) (by simp [Act.eval]) rfl (World.news_of_block (w := (wt.alloc (.cells #[.int .i64 k.kind, .int .i64 k.num, .float .f64 k.flt, .string k.str, .int .i64 k.ref, .int .i64 v.kind, .int .i64 v.num, .float .f64 v.flt, .string v.str, .int .i64 v.ref, .int .i64 ((D.T i).turns + 1)] 95)).drew) (Deep.blk_alloc_new wt _)) (by simp [prL, Value.oneCell']) (by decide) (by unfold maxLen; omega) (by omega) (by simp; omega) _ rfl ?_
    intro g3 cp3 w3 hown3 hgr3 hloc3 hlt3
    have hgr3' : World.grownBy ((wt.alloc (.cells #[.int .i64 k.kind, .int .i64 k.num, .float .f64 k.flt, .string k.str, .int .i64 k.ref, .int .i64 v.kind, .int .i64 v.num, .float .f64 v.flt, .string v.str, .int .i64 v.ref, .int .i64 ((D.T i).turns + 1)] 95)).drew) w3 (U i).ownBlock := by rw [unhide HU]; exact hgr3
    have hUq : ∀ q, (Value.slice a (D.T i).n ac).ownBlock = some q → q < w.heap.size ∧ q ≠ g := fun q e => ⟨(((unhide HD).pr i hi).lt q (by rw [unhide HU]; exact e)).2, fun e2 => (unhide HD).tu g i rfl hi (by rw [unhide HU, ← e2]; exact e)⟩
    have hk3 : ∀ q, q < wt.heap.size → (∀ r, (Value.slice a (D.T i).n ac).ownBlock = some r → q ≠ r) → w3.heap[q]? = wt.heap[q]? := fun q hq h => (hgr3.block q (by simp; omega) (fun e => h q e.symm rfl)).trans (hbX.block q hq)
    have hS3 : HeldB g (i * 2) w.heap.size (w.heap.size + 1) ((D.T i).turns + 1) k v w3 := hS0.keep (hk3 g (by omega) (fun r e e2 => (hUq r e).2 e2.symm)) (hk3 w.heap.size (by omega) (fun r e => by have := (hUq r e).1; omega)) (hk3 (w.heap.size + 1) (by omega) (fun r e => by have := (hUq r e).1; omega))
    have hN := (unhide HD).addP hi (k := k) (v := v) (w3 := w3) (X := (wt.alloc (.cells #[.int .i64 k.kind, .int .i64 k.num, .float .f64 k.flt, .string k.str, .int .i64 k.ref, .int .i64 v.kind, .int .i64 v.num, .float .f64 v.flt, .string v.str, .int .i64 v.ref, .int .i64 ((D.T i).turns + 1)] 95)).drew) ((unhide HWT).trans (hbX.mono (by omega))) hgr3' hown3 (fun q e => by
      rcases hloc3 with h | h
      · left; rw [unhide HU, h]; exact e
      · right; have : q = g3 := by simpa [Value.ownBlock] using e.symm
        rw [this, h]; simp; omega)
    have HN := hide hN
    have x3 : w3.cell? ⟨g, i * 2, none⟩ = some (.slice a (D.T i).n ac) := (World.cell?_of_block (a := ⟨g, i * 2, none⟩) (hk3 g (by omega) (fun r e e2 => (hUq r e).2 e2.symm))).trans xt
    have f3 : w3.frozen? ⟨g, i * 2, none⟩ = false := by
      have h1 := World.frozen?_of_block (a := ⟨g, i * 2, none⟩) (hk3 g (by omega) (fun r e e2 => (hUq r e).2 e2.symm))
      rw [h1, (unhide HWT).frozen (p := ⟨g, i * 2, none⟩) hg]
      simp [go_sem, fz0]
    have hg3 : g < w3.heap.size := by have := hgr3.size; simp at this; omega
    clear hown3 hgr3 hgr3' hloc3 hk3 hN
    refine hK.out _ _ hS3 (fun hS3' => ?_)
    clear hK K
    refine tk 14 (v := ?_) rfl (by kernel_rfl) (by rfl) ?_ (by assumption) ?_
    rotate_left
    · intro w' ⟨s0, s1, s2, s3, s4, s5, s6, s7, s8, s9, s10⟩; go_simp; first | done | with_reducible rfl
    (try simp only [Act.put]); (try simp only [List.setIfInBounds_toArray]); (try simp only [List.set_cons_succ]); try simp only [List.set_cons_zero]
    refine tk 15 (v := ?_) rfl (by kernel_rfl) (by rfl) ?_ (by assumption) ?_
    rotate_left
    · intro w' ⟨s0, s1, s2, s3, s4, s5, s6, s7, s8, s9, s10⟩; go_simp; first | done | with_reducible rfl
    (try simp only [Act.put]); (try simp only [List.setIfInBounds_toArray]); (try simp only [List.set_cons_succ]); try simp only [List.set_cons_zero]
    refine wpAnyH_ready (rs := [16]) (by kernel_rfl) (by simp) ?_
    refine AllReadyH.cons rfl (fun K hK => ?_) AllReadyH.nil
    go_simp
    refine hK.out _ _ ?_ (fun _ => ?_)
    · obtain ⟨b1, b2, b3, b4, b5, b6, b7, b8, b9, b10, b11⟩ := hS3
      exact ⟨(cell_set_other (by omega)).trans b1, (World.cell?_setCell_far _ _ _ _ (by exact hne1)).trans b2, (World.cell?_setCell_far _ _ _ _ (by exact hne1)).trans b3, (World.cell?_setCell_far _ _ _ _ (by exact hne1)).trans b4, (World.cell?_setCell_far _ _ _ _ (by exact hne1)).trans b5, (World.cell?_setCell_far _ _ _ _ (by exact hne1)).trans b6, (World.cell?_setCell_far _ _ _ _ (by exact hne2)).trans b7, (World.cell?_setCell_far _ _ _ _ (by exact hne2)).trans b8, (World.cell?_setCell_far _ _ _ _ (by exact hne2)).trans b9, (World.cell?_setCell_far _ _ _ _ (by exact hne2)).trans b10, (World.cell?_setCell_far _ _ _ _ (by exact hne2)).trans b11⟩
    clear hK K
    refine wpAnyH_done (by kernel_rfl) ?_ _
    refine QN.normal ?_
    go_wp2_with fail
    go_ret
    exact ⟨rfl, up1 U i (.slice (some ⟨g3, 0, none⟩) ((D.T i).n + 1) cp3), (unhide HN).1, (unhide HN).2⟩
  · go_simp
    refine hK.out _ _ hS1' (fun hS1 => ?_)
    clear hK K
    have xX : ((wt.alloc (.cells #[.int .i64 k.kind, .int .i64 k.num, .float .f64 k.flt, .string k.str, .int .i64 k.ref, .int .i64 v.kind, .int .i64 v.num, .float .f64 v.flt, .string v.str, .int .i64 v.ref, .int .i64 ((D.T i).turns + 1)] 95)).drew).cell? ⟨g, i * 2, none⟩ = some (.slice a (D.T i).n ac) := (hbX.cell (p := ⟨g, i * 2, none⟩) hgt).trans xt
    have xY : (wt.alloc (.cells #[.int .i64 k.kind, .int .i64 k.num, .float .f64 k.flt, .string k.str, .int .i64 k.ref, .int .i64 v.kind, .int .i64 v.num, .float .f64 v.flt, .string v.str, .int .i64 v.ref, .int .i64 ((D.T i).turns + 1)] 95)).cell? ⟨g, i * 2, none⟩ = some (.slice a (D.T i).n ac) := xX
    refine wpAnyH_ready (rs := [4]) (by kernel_rfl) (by simp) ?_
    refine AllReadyH.cons rfl (fun K hK => ?_) AllReadyH.nil
    go_simp
    refine hK.out _ _ hS1' (fun _ => ?_)
    clear hK K
    refine wpAnyH_ready (rs := [13]) (by kernel_rfl) (by simp) ?_
    refine AllReadyH.cons rfl (fun K hK => ?_) AllReadyH.nil
    refine step_append_lies _ rfl (.tmp 33) (.tmp 41) 70 rfl B 95 i0 PZ 11 104 Tryz.underlying70 hi0 hz0 hz1 hz2 rfl (by decide) (.slice a (D.T i).n ac) (D.T i).n (pL (D.T i).P (D.T i).n) (by simp [Act.eval]) (World.ownsRow.drew (World.ownsRow.alloc (unhide HOW) _)) ⟨wt.heap.size, 0, none⟩ 1 1 (prL ⟨k, v, (D.T i).turns + 1⟩) (by simp [Act.eval]) rfl (World.news_of_block (w := (wt.alloc (.cells #[.int .i64 k.kind, .int .i64 k.num, .float .f64 k.flt, .string k.str, .int .i64 k.ref, .int .i64 v.kind, .int .i64 v.num, .float .f64 v.flt, .string v.str, .int .i64 v.ref, .int .i64 ((D.T i).turns + 1)] 95)).drew) (Deep.blk_alloc_new wt _)) (by simp [prL, Value.oneCell']) (by decide) (by unfold maxLen; omega) (by omega) (by simp; omega) _ rfl ?_
    intro g3 cp3 w3 hown3 hgr3 hloc3 hlt3
    have hgr3' : World.grownBy ((wt.alloc (.cells #[.int .i64 k.kind, .int .i64 k.num, .float .f64 k.flt, .string k.str, .int .i64 k.ref, .int .i64 v.kind, .int .i64 v.num, .float .f64 v.flt, .string v.str, .int .i64 v.ref, .int .i64 ((D.T i).turns + 1)] 95)).drew) w3 (U i).ownBlock := by rw [unhide HU]; exact hgr3
    have hUq : ∀ q, (Value.slice a (D.T i).n ac).ownBlock = some q → q < w.heap.size ∧ q ≠ g := fun q e => ⟨(((unhide HD).pr i hi).lt q (by rw [unhide HU]; exact e)).2, fun e2 => (unhide HD).tu g i rfl hi (by rw [unhide HU, ← e2]; exact e)⟩
    have hk3 : ∀ q, q < wt.heap.size → (∀ r, (Value.slice a (D.T i).n ac).ownBlock = some r → q ≠ r) → w3.heap[q]? = wt.heap[q]? := fun q hq h => (hgr3.block q (by simp; omega) (fun e => h q e.symm rfl)).trans (hbX.block q hq)
    have hS3 : HeldB g (i * 2) w.heap.size (w.heap.size + 1) ((D.T i).turns + 1) k v w3 := hS0.keep (hk3 g (by omega) (fun r e e2 => (hUq r e).2 e2.symm)) (hk3 w.heap.size (by omega) (fun r e => by have := (hUq r e).1; omega)) (hk3 (w.heap.size + 1) (by omega) (fun r e => by have := (hUq r e).1; omega))
    have hN := (unhide HD).addP hi (k := k) (v := v) (w3 := w3) (X := (wt.alloc (.cells #[.int .i64 k.kind, .int .i64 k.num, .float .f64 k.flt, .string k.str, .int .i64 k.ref, .int .i64 v.kind, .int .i64 v.num, .float .f64 v.flt, .string v.str, .int .i64 v.ref, .int .i64 ((D.T i).turns + 1)] 95)).drew) ((unhide HWT).trans (hbX.mono (by omega))) hgr3' hown3 (fun q e => by
      rcases hloc3 with h | h
      · left; rw [unhide HU, h]; exact e
      · right; have : q = g3 := by simpa [Value.ownBlock] using e.symm
        rw [this, h]; simp; omega)
    have HN := hide hN
    have x3 : w3.cell? ⟨g, i * 2, none⟩ = some (.slice a (D.T i).n ac) := (World.cell?_of_block (a := ⟨g, i * 2, none⟩) (hk3 g (by omega) (fun r e e2 => (hUq r e).2 e2.symm))).trans xt
    have f3 : w3.frozen? ⟨g, i * 2, none⟩ = false := by
      have h1 := World.frozen?_of_block (a := ⟨g, i * 2, none⟩) (hk3 g (by omega) (fun r e e2 => (hUq r e).2 e2.symm))
      rw [h1, (unhide HWT).frozen (p := ⟨g, i * 2, none⟩) hg]
      simp [go_sem, fz0]
    have hg3 : g < w3.heap.size := by have := hgr3.size; simp at this; omega
    clear hown3 hgr3 hgr3' hloc3 hk3 hN
    refine hK.out _ _ hS3 (fun hS3' => ?_)
    clear hK K
    refine tk 14 (v := ?_) rfl (by kernel_rfl) (by rfl) ?_ (by assumption) ?_
    rotate_left
    · intro w' ⟨s0, s1, s2, s3, s4, s5, s6, s7, s8, s9, s10⟩; go_simp; first | done | with_reducible rfl
    (try simp only [Act.put]); (try simp only [List.setIfInBounds_toArray]); (try simp only [List.set_cons_succ]); try simp only [List.set_cons_zero]
    refine tk 15 (v := ?_) rfl (by kernel_rfl) (by rfl) ?_ (by assumption) ?_
    rotate_left
    · intro w' ⟨s0, s1, s2, s3, s4, s5, s6, s7, s8, s9, s10⟩; go_simp; first | done | with_reducible rfl
    (try simp only [Act.put]); (try simp only [List.setIfInBounds_toArray]); (try simp only [List.set_cons_succ]); try simp only [List.set_cons_zero]
    refine wpAnyH_ready (rs := [16]) (by kernel_rfl) (by simp) ?_
    refine AllReadyH.cons rfl (fun K hK => ?_) AllReadyH.nil
    go_simp
    refine hK.out _ _ ?_ (fun _ => ?_)
    · obtain ⟨b1, b2, b3, b4, b5, b6, b7, b8, b9, b10, b11⟩ := hS3
      exact ⟨(cell_set_other (by omega)).trans b1, (World.cell?_setCell_far _ _ _ _ (by exact hne1)).trans b2, (World.cell?_setCell_far _ _ _ _ (by exact hne1)).trans b3, (World.cell?_setCell_far _ _ _ _ (by exact hne1)).trans b4, (World.cell?_setCell_far _ _ _ _ (by exact hne1)).trans b5, (World.cell?_setCell_far _ _ _ _ (by exact hne1)).trans b6, (World.cell?_setCell_far _ _ _ _ (by exact hne2)).trans b7, (World.cell?_setCell_far _ _ _ _ (by exact hne2)).trans b8, (World.cell?_setCell_far _ _ _ _ (by exact hne2)).trans b9, (World.cell?_setCell_far _ _ _ _ (by exact hne2)).trans b10, (World.cell?_setCell_far _ _ _ _ (by exact hne2)).trans b11⟩
    clear hK K
    refine wpAnyH_done (by kernel_rfl) ?_ _
    refine QN.normal ?_
    go_wp2_with fail
    go_ret
    exact ⟨rfl, up1 U i (.slice (some ⟨g3, 0, none⟩) ((D.T i).n + 1) cp3), (unhide HN).1, (unhide HN).2⟩
end Go.Proofs.YtnjgebncghdajaaGreatDoor
