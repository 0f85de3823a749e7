/-
  JdE.
-/
import Derived.Test.YtnjgebncghdajaaGreatDoorJdDP
import Derived.Test.YtnjgebncghdajaaGreatDoorJdBP
namespace Go.Proofs.YtnjgebncghdajaaGreatDoor
open Go.RowKit
set_option linter.unusedVariables false
set_option linter.unusedSimpArgs false
attribute [local go_sem] run_store_float run_equalIn_float

attribute [local go_sem] neq_err neq_nil

set_option maxRecDepth 100000 in
set_option maxHeartbeats 8000000 in
theorem try_read (c B : Nat) (vT vS : Value) (U : Nat → Value) (D : Ds) (a : Ac) (w : World) (hD : DeskM 55 w c B vT vS U D) (hG : D.Good) (hc : chk a D.nt D.ns = 0) (hop : a.op = 3 ∨ a.op = 8 ∨ a.op = 4 ∨ a.op = 5 ∨ a.op = 6) (t : Nat) (et : a.t = t) (ht : t < D.nt) (hs : sitB a.op = true → 0 ≤ a.site ∧ a.site < D.ns) :
    TrySays c B vT vS U D a w := by
  have HRES : Hid (D.ans a = D.ansOf a ∧ D.step a = D) := hide (by
    unfold Ds.ans Ds.step; rw [if_pos hc, if_pos hc]
    refine ⟨rfl, ?_⟩
    rcases hop with h | h | h | h | h <;> simp [Ds.nextC, h])
  have HC := hide hc
  have d1 : (a.op == 1) = false := by rcases hop with h | h | h | h | h <;> simp [h]
  have d7 : (a.op == 7) = false := by rcases hop with h | h | h | h | h <;> simp [h]
  have d2 : (a.op == 2) = false := by rcases hop with h | h | h | h | h <;> simp [h]
  have d9 : (a.op == 9) = false := by rcases hop with h | h | h | h | h <;> simp [h]
  have ET := hide et
  have HOP := hide hop
  clear hc hop et
  obtain ⟨ta, tc, rfl⟩ := own_slice hD.tb
  obtain ⟨sa, sc, rfl⟩ := own_slice hD.st
  have hnt := hG.nt
  have hns := hG.ns
  obtain ⟨W, hW, hb0, hA, hR, hz⟩ := boxes w a
  have HO : Hid (∀ k, OwnD c (.slice ta D.nt tc) (.slice sa D.ns sc) U D.nt k → k < w.heap.size) := hide (fun k h => (hD.rng h).2)
  have hcl := hD.lt
  have HM := hide (hD.below hb0)
  have hcW := (unhide HM).lt
  obtain ⟨c0, c1⟩ := (unhide HM).cells
  obtain ⟨a0, a1, a2, a3, a4, a5, a6, a7, a8, a9, a10, a11, a12, a13⟩ := hA.all
  have zaW := hA.lt
  have HB := hide hb0
  have HA := hide hA
  have HQ := hide hR
  have HG := hide hG
  clear hD hb0 hA hR hG
  go_enter Tryz.func35, Tryz.ntmps35
  go_wp2_with fail
  rw [← hW]
  clear hW
  refine wp_region_quiet (C := fun w' => Below W.heap.size W w') (by kernel_rfl) (by kernel_rfl) ((Below.refl _ _).drew) ?_
  show wpQuiet _ _ _ _ [_, _, _, _, _, _, _, _, _, _, _, _, _] _
  refine wpQuiet_step (fun K hK => ?_)
  go_simp
  apply Exists.intro
  refine And.intro (fun w' hw' => ?_) (hK _ ?_)
  · obtain ⟨hc', hf'⟩ := bcell hw'
    go_simp
    first | rfl | exact ⟨rfl, rfl⟩ | exact ⟨rfl⟩
  clear hK K
  refine wpQuiet_step (fun K hK => ?_)
  go_simp
  refine ⟨_, fun w' hw' => rfl, hK _ ?_⟩
  clear hK K
  refine wpQuiet_step (fun K hK => ?_)
  go_simp
  refine ⟨_, fun w' hw' => rfl, hK _ ?_⟩
  clear hK K
  refine wpQuiet_step (fun K hK => ?_)
  go_simp
  refine ⟨_, fun w' hw' => rfl, hK _ ?_⟩
  clear hK K
  refine wpQuiet_step (fun K hK => ?_)
  go_simp
  apply Exists.intro
  refine And.intro (fun w' hw' => ?_) (hK _ ?_)
  · obtain ⟨hc', hf'⟩ := bcell hw'
    go_simp
    first | rfl | exact ⟨rfl, rfl⟩ | exact ⟨rfl⟩
  clear hK K
  refine wpQuiet_step (fun K hK => ?_)
  go_simp
  refine ⟨_, fun w' hw' => rfl, hK _ ?_⟩
  clear hK K
  refine wpQuiet_step (fun K hK => ?_)
  go_simp
  refine ⟨_, fun w' hw' => rfl, hK _ ?_⟩
  clear hK K
  refine wpQuiet_step (fun K hK => ?_)
  go_simp
  refine ⟨_, fun w' hw' => rfl, hK _ ?_⟩
  clear hK K
  refine wpQuiet_step (fun K hK => ?_)
  go_simp
  refine ⟨_, fun w' hw' => rfl, hK _ ?_⟩
  clear hK K
  refine wpQuiet_step (fun K hK => ?_)
  go_simp
  apply Exists.intro
  refine And.intro (fun w' hw' => ?_) (hK _ ?_)
  · obtain ⟨hc', hf'⟩ := bcell hw'
    go_simp
    first | rfl | exact ⟨rfl, rfl⟩ | exact ⟨rfl⟩
  clear hK K
  refine wpQuiet_step (fun K hK => ?_)
  go_simp
  refine ⟨_, fun w' hw' => rfl, hK _ ?_⟩
  clear hK K
  refine wpQuiet_step (fun K hK => ?_)
  go_simp
  apply Exists.intro
  refine And.intro (fun w' hw' => ?_) (hK _ ?_)
  · refine (check_any a D.nt D.ns _ hnt hns).mono ?_
    rintro e w'' ⟨rfl, hb⟩
    exact ⟨rfl, hw'.trans (hb.mono hw'.size)⟩
  clear hK K
  refine wpQuiet_step (fun K hK => ?_)
  go_simp
  refine ⟨_, fun w' hw' => rfl, hK _ ?_⟩
  clear hK K
  refine wpQuiet_nil ?_
  intro w1 hb1
  have HX := hide hb1
  clear hb1 a0 a1 a2 a3 a4 a5 a6 a7 a8 a9 a10 a11 a12 a13 c0 c1 hcW zaW
  rw [unhide HC, show errV 0 = .nilIface from rfl]
  have zz := (unhide HX).size
  have za : w.heap.size < w1.heap.size := by omega
  have zr : w.heap.size + 1 < w1.heap.size := by omega
  obtain ⟨a0, a1, a2, a3, a4, a5, a6, a7, a8, a9, a10, a11, a12, a13⟩ := ((unhide HA).below (unhide HX) (by omega)).all
  go_wp2_with fail
  refine (read_any c B _ _ U D a _ ((unhide HM).below (unhide HX)) (unhide HG) t (unhide ET) ht (unhide HOP) hs).mono ?_
  rintro e w2 ⟨rfl, hb2⟩
  clear zz za zr a0 a1 a2 a3 a4 a5 a6 a7 a8 a9 a10 a11 a12 a13
  have HX := hide ((unhide HX).trans (hb2.mono (unhide HX).size))
  clear hb2
  generalize D.ansOf a = x at *
  have zz := (unhide HX).size
  have za : w.heap.size < w2.heap.size := by omega
  have zr : w.heap.size + 1 < w2.heap.size := by omega
  obtain ⟨r0, r1, r2, r3, r4, r5, r6, r7, r8, r9, r10, r11⟩ := ((unhide HQ).below (unhide HX) (by omega)).all
  have fr := ((unhide HQ).below (unhide HX) (by omega)).frozen
  go_wp2_with fail
  refine bodyPost_ret (v := .tuple #[AnV (x), errV 0]) (by simp [results, Tryz.results35, go_sem, zr, r0, r1, r2, r3, r4, r5, r6, r7, r8, r9, r10, r11, ansC, ansN, ansV, errV]) rfl ?_
  rw [(unhide HRES).1, (unhide HRES).2]
  obtain ⟨m, d⟩ := fin12 rfl x (unhide HB) (unhide HO) (by omega) hz ((unhide HM).below (unhide HX)) (Dst.of_below (unhide HX))
  exact ⟨x, 0, rfl, ⟨fun _ => rfl, fun e => absurd rfl e⟩, _, _, _, m, d⟩
set_option maxRecDepth 100000 in
set_option maxHeartbeats 8000000 in
theorem try_write (c B : Nat) (vT vS : Value) (U : Nat → Value) (D : Ds) (a : Ac) (w : World) (hD : DeskM 55 w c B vT vS U D) (hG : D.Good) (hc : chk a D.nt D.ns = 0) (hop : a.op = 2 ∨ a.op = 9) (t : Nat) (et : a.t = t) (ht : t < D.nt) (hs : sitB a.op = true → 0 ≤ a.site ∧ a.site < D.ns) :
    TrySays c B vT vS U D a w := by
  have HRES : Hid (D.ans a = ansC ((D.T t).code (D.keyAt a) a.v) ∧ D.step a = D.putT t (D.keyAt a) a.v) := hide (by
    unfold Ds.ans Ds.step; rw [if_pos hc, if_pos hc]
    rcases hop with h | h <;> simp [Ds.ansOf, Ds.nextC, Ds.keyAt, h, et])
  have HC := hide hc
  have d1 : (a.op == 1) = false := by rcases hop with h | h <;> simp [h]
  have d7 : (a.op == 7) = false := by rcases hop with h | h <;> simp [h]
  have d29 : (a.op == 2) = true ∨ ((a.op == 2) = false ∧ (a.op == 9) = true) := by rcases hop with h | h <;> simp [h]
  have D29 := hide d29
  have ET := hide et
  clear hc hop et d29
  obtain ⟨ta, tc, rfl⟩ := own_slice hD.tb
  obtain ⟨sa, sc, rfl⟩ := own_slice hD.st
  have hnt := hG.nt
  have hns := hG.ns
  obtain ⟨W, hW, hb0, hA, hR, hz⟩ := boxes w a
  have HO : Hid (∀ k, OwnD c (.slice ta D.nt tc) (.slice sa D.ns sc) U D.nt k → k < w.heap.size) := hide (fun k h => (hD.rng h).2)
  have hcl := hD.lt
  have HM := hide (hD.below hb0)
  have hcW := (unhide HM).lt
  obtain ⟨c0, c1⟩ := (unhide HM).cells
  obtain ⟨a0, a1, a2, a3, a4, a5, a6, a7, a8, a9, a10, a11, a12, a13⟩ := hA.all
  have zaW := hA.lt
  have HB := hide hb0
  have HA := hide hA
  have HQ := hide hR
  have HG := hide hG
  clear hD hb0 hA hR hG
  go_enter Tryz.func35, Tryz.ntmps35
  go_wp2_with fail
  rw [← hW]
  clear hW
  refine wp_region_quiet (C := fun w' => Below W.heap.size W w') (by kernel_rfl) (by kernel_rfl) ((Below.refl _ _).drew) ?_
  show wpQuiet _ _ _ _ [_, _, _, _, _, _, _, _, _, _, _, _, _] _
  refine wpQuiet_step (fun K hK => ?_)
  go_simp
  apply Exists.intro
  refine And.intro (fun w' hw' => ?_) (hK _ ?_)
  · obtain ⟨hc', hf'⟩ := bcell hw'
    go_simp
    first | rfl | exact ⟨rfl, rfl⟩ | exact ⟨rfl⟩
  clear hK K
  refine wpQuiet_step (fun K hK => ?_)
  go_simp
  refine ⟨_, fun w' hw' => rfl, hK _ ?_⟩
  clear hK K
  refine wpQuiet_step (fun K hK => ?_)
  go_simp
  refine ⟨_, fun w' hw' => rfl, hK _ ?_⟩
  clear hK K
  refine wpQuiet_step (fun K hK => ?_)
  go_simp
  refine ⟨_, fun w' hw' => rfl, hK _ ?_⟩
  clear hK K
  refine wpQuiet_step (fun K hK => ?_)
  go_simp
  apply Exists.intro
  refine And.intro (fun w' hw' => ?_) (hK _ ?_)
  · obtain ⟨hc', hf'⟩ := bcell hw'
    go_simp
    first | rfl | exact ⟨rfl, rfl⟩ | exact ⟨rfl⟩
  clear hK K
  refine wpQuiet_step (fun K hK => ?_)
  go_simp
  refine ⟨_, fun w' hw' => rfl, hK _ ?_⟩
  clear hK K
  refine wpQuiet_step (fun K hK => ?_)
  go_simp
  refine ⟨_, fun w' hw' => rfl, hK _ ?_⟩
  clear hK K
  refine wpQuiet_step (fun K hK => ?_)
  go_simp
  refine ⟨_, fun w' hw' => rfl, hK _ ?_⟩
  clear hK K
  refine wpQuiet_step (fun K hK => ?_)
  go_simp
  refine ⟨_, fun w' hw' => rfl, hK _ ?_⟩
  clear hK K
  refine wpQuiet_step (fun K hK => ?_)
  go_simp
  apply Exists.intro
  refine And.intro (fun w' hw' => ?_) (hK _ ?_)
  · obtain ⟨hc', hf'⟩ := bcell hw'
    go_simp
    first | rfl | exact ⟨rfl, rfl⟩ | exact ⟨rfl⟩
  clear hK K
  refine wpQuiet_step (fun K hK => ?_)
  go_simp
  refine ⟨_, fun w' hw' => rfl, hK _ ?_⟩
  clear hK K
  refine wpQuiet_step (fun K hK => ?_)
  go_simp
  apply Exists.intro
  refine And.intro (fun w' hw' => ?_) (hK _ ?_)
  · refine (check_any a D.nt D.ns _ hnt hns).mono ?_
    rintro e w'' ⟨rfl, hb⟩
    exact ⟨rfl, hw'.trans (hb.mono hw'.size)⟩
  clear hK K
  refine wpQuiet_step (fun K hK => ?_)
  go_simp
  refine ⟨_, fun w' hw' => rfl, hK _ ?_⟩
  clear hK K
  refine wpQuiet_nil ?_
  intro w1 hb1
  have HX := hide hb1
  clear hb1 a0 a1 a2 a3 a4 a5 a6 a7 a8 a9 a10 a11 a12 a13 c0 c1 hcW zaW
  have HNA : Hid (∀ k, w.heap.size ≤ k → ¬ OwnD c (.slice ta D.nt tc) (.slice sa D.ns sc) U D.nt k) := hide (fun k hk h => by have := unhide HO _ h; omega)
  rw [unhide HC, show errV 0 = .nilIface from rfl]
  have zz := (unhide HX).size
  have za : w.heap.size < w1.heap.size := by omega
  have zr : w.heap.size + 1 < w1.heap.size := by omega
  obtain ⟨a0, a1, a2, a3, a4, a5, a6, a7, a8, a9, a10, a11, a12, a13⟩ := ((unhide HA).below (unhide HX) (by omega)).all
  rw [unhide ET] at a1
  obtain ⟨g, cp, _, _, eg, hg, _, _, _, _⟩ := ((unhide HM).below (unhide HX)).look ht
  cases eg
  have zc : c < w1.heap.size := by omega
  have c0 := ((unhide HM).below (unhide HX)).cells.1
  have hS0 : HeldF w.heap.size c t (.slice (some ⟨g, 0, none⟩) D.nt tc) a w1.drew := ⟨c0, a0, a1, a2, a3, a4, a5, a6, a7, a8, a9, a10, a11, a12, a13⟩
  have HM1 := hide ((unhide HM).below (unhide HX))
  rcases unhide D29 with d2 | ⟨d2, d9⟩
  all_goals
    go_wp2_with fail
    clear a0 a1 a2 a3 a4 a5 a6 a7 a8 a9 a10 a11 a12 a13 c0
    refine wpN_held (HeldF w.heap.size c t (.slice (some ⟨g, 0, none⟩) D.nt tc) a) (by kernel_rfl) ?_
    change wpAnyH _ _ _ _ _ _ _ _ (World.drew _)
    refine tk 0 (v := ?_) rfl (by kernel_rfl) (by rfl) ?_ (by assumption) ?_
    rotate_left
    · intro w' ⟨s0, s1, s2, s3, s4, s5, s6, s7, s8, s9, s10, s11, s12, s13, s14⟩; go_simp; first | done | with_reducible rfl
    simp only [Act.put, List.setIfInBounds_toArray, List.set_cons_succ, List.set_cons_zero]
    refine tk 1 (v := ?_) rfl (by kernel_rfl) (by rfl) ?_ (by assumption) ?_
    rotate_left
    · intro w' ⟨s0, s1, s2, s3, s4, s5, s6, s7, s8, s9, s10, s11, s12, s13, s14⟩; go_simp; first | done | with_reducible rfl
    simp only [Act.put, List.setIfInBounds_toArray, List.set_cons_succ, List.set_cons_zero]
    refine tk 2 (v := ?_) rfl (by kernel_rfl) (by rfl) ?_ (by assumption) ?_
    rotate_left
    · intro w' ⟨s0, s1, s2, s3, s4, s5, s6, s7, s8, s9, s10, s11, s12, s13, s14⟩; go_simp; first | done | with_reducible rfl
    simp only [Act.put, List.setIfInBounds_toArray, List.set_cons_succ, List.set_cons_zero]
    refine tk 3 (v := ?_) rfl (by kernel_rfl) (by rfl) ?_ (by assumption) ?_
    rotate_left
    · intro w' ⟨s0, s1, s2, s3, s4, s5, s6, s7, s8, s9, s10, s11, s12, s13, s14⟩; go_simp; first | done | with_reducible rfl
    simp only [Act.put, List.setIfInBounds_toArray, List.set_cons_succ, List.set_cons_zero]
    refine tk 4 (v := ?_) rfl (by kernel_rfl) (by rfl) ?_ (by assumption) ?_
    rotate_left
    · intro w' ⟨s0, s1, s2, s3, s4, s5, s6, s7, s8, s9, s10, s11, s12, s13, s14⟩; go_simp; first | done | with_reducible rfl
    simp only [Act.put, List.setIfInBounds_toArray, List.set_cons_succ, List.set_cons_zero]
    refine tk 5 (v := ?_) rfl (by kernel_rfl) (by rfl) ?_ (by assumption) ?_
    rotate_left
    · intro w' ⟨s0, s1, s2, s3, s4, s5, s6, s7, s8, s9, s10, s11, s12, s13, s14⟩; go_simp; first | done | with_reducible rfl
    simp only [Act.put, List.setIfInBounds_toArray, List.set_cons_succ, List.set_cons_zero]
    refine tk 6 (v := ?_) rfl (by kernel_rfl) (by rfl) ?_ (by assumption) ?_
    rotate_left
    · intro w' ⟨s0, s1, s2, s3, s4, s5, s6, s7, s8, s9, s10, s11, s12, s13, s14⟩; go_simp; first | done | with_reducible rfl
    simp only [Act.put, List.setIfInBounds_toArray, List.set_cons_succ, List.set_cons_zero]
    refine tk 7 (v := ?_) rfl (by kernel_rfl) (by rfl) ?_ (by assumption) ?_
    rotate_left
    · intro w' ⟨s0, s1, s2, s3, s4, s5, s6, s7, s8, s9, s10, s11, s12, s13, s14⟩; go_simp; first | done | with_reducible rfl
    simp only [Act.put, List.setIfInBounds_toArray, List.set_cons_succ, List.set_cons_zero]
    refine tk 8 (v := ?_) rfl (by kernel_rfl) (by rfl) ?_ (by assumption) ?_
    rotate_left
    · intro w' ⟨s0, s1, s2, s3, s4, s5, s6, s7, s8, s9, s10, s11, s12, s13, s14⟩; go_simp; first | done | with_reducible rfl
    simp only [Act.put, List.setIfInBounds_toArray, List.set_cons_succ, List.set_cons_zero]
    refine tk 9 (v := ?_) rfl (by kernel_rfl) (by rfl) ?_ (by assumption) ?_
    rotate_left
    · intro w' ⟨s0, s1, s2, s3, s4, s5, s6, s7, s8, s9, s10, s11, s12, s13, s14⟩; go_simp; first | done | with_reducible rfl
    simp only [Act.put, List.setIfInBounds_toArray, List.set_cons_succ, List.set_cons_zero]
    refine tk 11 (v := ?_) rfl (by kernel_rfl) (by rfl) ?_ (by assumption) ?_
    rotate_left
    · intro w' ⟨s0, s1, s2, s3, s4, s5, s6, s7, s8, s9, s10, s11, s12, s13, s14⟩; go_simp; first | done | with_reducible rfl
    simp only [Act.put, List.setIfInBounds_toArray, List.set_cons_succ, List.set_cons_zero]
    refine tk 12 (v := ?_) rfl (by kernel_rfl) (by rfl) ?_ (by assumption) ?_
    rotate_left
    · intro w' ⟨s0, s1, s2, s3, s4, s5, s6, s7, s8, s9, s10, s11, s12, s13, s14⟩; go_simp; first | done | with_reducible rfl
    simp only [Act.put, List.setIfInBounds_toArray, List.set_cons_succ, List.set_cons_zero]
    rw [← unhide ET]
    refine wpAnyH_ready (rs := [10]) (by kernel_rfl) (by simp) ?_
    refine AllReadyH.cons rfl (fun K hK => ?_) AllReadyH.nil
    go_simp
    refine (keyAt_any c B _ _ U D a _ ((unhide HM1).below (Below.refl _ _).drew) hs).mono ?_
    rintro e w2 ⟨rfl, hb2⟩
    have hb2 : Below w1.heap.size w1 w2 := Below.trans (Below.refl _ _).drew hb2
    have hS2 := hS0.keep (w' := w2) (hb2.block w.heap.size za) (hb2.block c zc)
    have HX2 : Hid (Below W.heap.size W w2) := hide ((unhide HX).trans (hb2.mono (unhide HX).size))
    refine hK.out _ _ hS2 (fun _ => ?_)
    clear hK K hS0 hb2
    generalize D.keyAt a = kv at *
    refine wpAnyH_ready (rs := [13]) (by kernel_rfl) (by simp) ?_
    refine AllReadyH.cons rfl (fun K hK => ?_) AllReadyH.nil
    go_simp
    refine (write_any c B t g tc _ U D kv a.v _ ((unhide HM).below (unhide HX2)) ht (unhide HG)).mono ?_
    rintro e w3 ⟨rfl, U', hM3, hD3⟩
    generalize (D.T t).code kv a.v = x at *
    have z2 := (unhide HX2).size
    have hA3 := ((unhide HA).below (unhide HX2) (by omega)).dst hD3 (unhide HNA _ (Nat.le_refl _))
    have hq := ((unhide HQ).below (unhide HX2) (by omega)).dst hD3 (unhide HNA _ (by omega))
    have hS3 : HeldF w.heap.size c t (.slice (some ⟨g, 0, none⟩) D.nt tc) a w3 := by
      obtain ⟨a0, a1, a2, a3, a4, a5, a6, a7, a8, a9, a10, a11, a12, a13⟩ := hA3.all
      rw [unhide ET] at a1
      exact ⟨hM3.cells.1, a0, a1, a2, a3, a4, a5, a6, a7, a8, a9, a10, a11, a12, a13⟩
    obtain ⟨r0, r1, r2, r3, r4, r5, r6, r7, r8, r9, r10, r11⟩ := hq.all
    have fr := hq.frozen
    have zr3 := hq.lt
    have HM3 := hide hM3
    have HD3 := hide ((Dst.of_below (unhide HX2)).trans hD3)
    refine hK.out _ _ hS3 (fun _ => ?_)
    clear hK K hM3 hD3 hS2 hq hA3
    refine wpAnyH_ready (rs := [14]) (by kernel_rfl) (by simp) ?_
    refine AllReadyH.cons rfl (fun K hK => ?_) AllReadyH.nil
    go_simp
    refine hK.out _ _ (hS3.keep (set12_blk w3 (w.heap.size + 1) (ansC 0) (by omega)) (set12_blk w3 (w.heap.size + 1) (ansC 0) (by omega))) (fun hS4 => ?_)
    clear hK K
    refine tk 15 (v := ?_) rfl (by kernel_rfl) (by rfl) ?_ (by assumption) ?_
    rotate_left
    · intro w' ⟨s0, s1, s2, s3, s4, s5, s6, s7, s8, s9, s10, s11, s12, s13, s14⟩; go_simp; first | done | with_reducible rfl
    (try simp only [Act.put]); (try simp only [List.setIfInBounds_toArray]); (try simp only [List.set_cons_succ]); try simp only [List.set_cons_zero]
    refine wpAnyH_done (by kernel_rfl) ?_ _
    refine QN.normal ?_
    go_wp2_with fail
    refine bodyPost_ret (v := .tuple #[AnV (ansC 0), errV x]) (by simp [results, Tryz.results35, go_sem, zr3, r0, r1, r2, r3, r4, r5, r6, r7, r8, r9, r10, r11, ansC, ansN, ansV]) rfl ?_
    rw [(unhide HRES).1, (unhide HRES).2]
    obtain ⟨m, d⟩ := fin12 rfl (ansC 0) (unhide HB) (unhide HO) (by omega) hz (unhide HM3) (unhide HD3)
    exact ⟨ansC 0, x, rfl, ⟨fun e => by rw [e], fun _ => rfl⟩, _, _, _, m, d⟩
theorem try_any (c B : Nat) (vT vS : Value) (U : Nat → Value) (D : Ds) (a : Ac) (w : World) (hD : DeskM 55 w c B vT vS U D) (hG : D.Good) : TrySays c B vT vS U D a w := by
  by_cases hc : chk a D.nt D.ns = 0
  · have hact : actB a = true := by
      by_cases h : actB a = true
      · exact h
      · have h : actB a = false := by simpa using h
        simp [chk, h] at hc
    obtain ⟨⟨o1, o9⟩, ht0, _, hs0, _, _⟩ := act_rng hact
    by_cases h1 : a.op = 1
    · by_cases hf : D.nt = 100
      · exact try_full1 c B vT vS U D a w hD hG hc h1 hf
      · exact try_more1 c B vT vS U D a w hD hG hc h1 hf
    by_cases h7 : a.op = 7
    · by_cases hf : D.ns = 50
      · exact try_full7 c B vT vS U D a w hD hG hc h7 hf
      · exact try_more7 c B vT vS U D a w hD hG hc h7 hf
    have hT : tabB a.op = true := by simp [tabB, h1, h7]
    have h2 : ¬ (D.nt : Int) ≤ a.t := fun h => by simp [chk, hact, hT, h] at hc
    have hs : sitB a.op = true → 0 ≤ a.site ∧ a.site < D.ns := fun hS => ⟨hs0, by
      have h3 : ¬ (D.ns : Int) ≤ a.site := fun h => by simp [chk, hact, hT, h2, hS, h] at hc
      omega⟩
    by_cases hw : a.op = 2 ∨ a.op = 9
    · exact try_write c B vT vS U D a w hD hG hc hw a.t.toNat (by omega) (by omega) hs
    · exact try_read c B vT vS U D a w hD hG hc (by omega) a.t.toNat (by omega) (by omega) hs
  · exact try_err c B vT vS U D a w hD hG hc
end Go.Proofs.YtnjgebncghdajaaGreatDoor
