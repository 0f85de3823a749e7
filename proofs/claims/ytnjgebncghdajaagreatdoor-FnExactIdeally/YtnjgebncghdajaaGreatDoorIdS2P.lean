/-
  IdS2.
-/
import Derived.Test.YtnjgebncghdajaaGreatDoorIdRP
import Derived.Test.YtnjgebncghdajaaGreatDoorIdKP
import Derived.Test.YtnjgebncghdajaaGreatDoorBi3
import Derived.Test.YtnjgebncghdajaaGreatDoorAcBP
import Derived.Deep.QuietTactic
import Derived.BigQuiet
import Derived.Test.YtnjgebncghdajaaGreatDoorIdSP
namespace Go.Proofs.YtnjgebncghdajaaGreatDoor
open Go.RowKit
set_option linter.unusedVariables false
set_option linter.unusedSimpArgs false
attribute [local go_sem] run_store_float run_equalIn_float

set_option maxRecDepth 100000 in
set_option maxHeartbeats 8000000 in
theorem do_e4 (c B : Nat) (vT vS : Value) (U : Nat → Value) (D : Ds) (a : Ac) (w : World) (hD : DeskM 45 w c B vT vS U D) (hG : D.Good) (hact : actB a = true) (hop : a.op = 2 ∨ a.op = 3) (h2 : a.t < (D.nt : Int)) (h4 : kcode a.k ≠ 0) : DoSays c B vT vS U D a w := by
  have hT : tabB a.op = true := by rcases hop with h | h <;> rw [h] <;> decide
  have hS : sitB a.op = false := by rcases hop with h | h <;> rw [h] <;> decide
  have HRES : Hid (D.ans a = ansC 4 ∧ D.step a = D) := hide (by simp [Ds.ans, Ds.step, chk, hact, hT, hS, h4, hop, show ¬ (D.nt : Int) ≤ a.t by omega])
  have e2 : decide ((D.nt : Int) ≤ a.t) = false := by simpa using h2
  obtain ⟨kc, ekc⟩ : ∃ kc, kcode a.k = kc := ⟨_, rfl⟩
  obtain ⟨kv, ekv⟩ : ∃ kv, kval a.k = kv := ⟨_, rfl⟩
  have e4 : (kc != 0) = true := by rw [← ekc]; simpa using h4
  have e4' : (kc == 0) = false := by rw [← ekc]; simpa using h4
  have EKC := hide ekc
  have EKV := hide ekv
  clear ekc ekv
  have d23 : ((a.op == 2) = true) ∨ ((a.op == 2) = false ∧ (a.op == 3) = true) := by rcases hop with h | h <;> simp [h]
  have D23 := hide d23
  clear h2 h4 hop d23
  obtain ⟨ta, tc, rfl⟩ := own_slice hD.tb
  obtain ⟨sa, sc, rfl⟩ := own_slice hD.st
  have hnt := hG.nt
  have hns := hG.ns
  obtain ⟨W, hW, hb0, hA, hR, hz⟩ := boxes w a
  have HO : Hid (∀ k, OwnD c (.slice ta D.nt tc) (.slice sa D.ns sc) U D.nt k → k < w.heap.size) := hide (fun k h => (hD.rng h).2)
  have hcl := hD.lt
  have HM := hide (hD.below hb0)
  have HB := hide hb0
  have HA := hide hA
  have HQ := hide hR
  have HG := hide hG
  clear hD hb0 hA hR hG
  go_enter Tryz.func14, Tryz.ntmps14
  go_wp2_with fail
  rw [← hW]
  clear hW
  refine (specActOk a _).mono ?_
  rw [hact]
  rintro e w1 ⟨rfl, hb1⟩
  have HX := hide hb1
  clear hb1
  have zz := (unhide HX).size
  have za : w.heap.size < w1.heap.size := by omega
  have zr : w.heap.size + 1 < w1.heap.size := by omega
  have zc : c < w1.heap.size := by omega
  obtain ⟨a0, a1, a2, a3, a4, a5, a6, a7, a8, a9, a10, a11, a12, a13⟩ := ((unhide HA).below (unhide HX) (by omega)).all
  obtain ⟨c0, c1⟩ := ((unhide HM).below (unhide HX)).cells
  go_wp2_with fail
  refine (l4wants_any a.op _).mono ?_
  rw [hT, hS]
  rintro e w2 ⟨rfl, ew⟩
  rw [ew]
  clear ew w2
  go_wp2_with fail
  refine wp_region_quiet (C := fun w' => Below w1.heap.size w1 w') (by kernel_rfl) (by kernel_rfl) ((Below.refl _ _).drew) ?_
  show wpQuiet _ _ _ _ [_, _, _, _, _, _, _, _, _, _, _] _
  refine wpQuiet_step (fun K hK => ?_)
  go_simp
  refine ⟨_, fun w' hw' => rfl, hK _ ?_⟩
  clear hK K
  refine wpQuiet_step (fun K hK => ?_)
  go_simp
  refine ⟨_, fun w' hw' => rfl, hK _ ?_⟩
  clear hK K
  refine wpQuiet_step (fun K hK => ?_)
  go_simp
  refine ⟨_, fun w' hw' => rfl, hK _ ?_⟩
  clear hK K
  refine wpQuiet_step (fun K hK => ?_)
  go_simp
  apply Exists.intro
  refine And.intro (fun w' hw' => ?_) (hK _ ?_)
  · obtain ⟨hc', hf'⟩ := bcell hw'
    go_simp
    first | rfl | exact ⟨rfl, rfl⟩ | exact ⟨rfl⟩
  clear hK K
  refine wpQuiet_step (fun K hK => ?_)
  go_simp
  refine ⟨_, fun w' hw' => rfl, hK _ ?_⟩
  clear hK K
  refine wpQuiet_step (fun K hK => ?_)
  go_simp
  refine ⟨_, fun w' hw' => rfl, hK _ ?_⟩
  clear hK K
  refine wpQuiet_step (fun K hK => ?_)
  go_simp
  refine ⟨_, fun w' hw' => rfl, hK _ ?_⟩
  clear hK K
  refine wpQuiet_step (fun K hK => ?_)
  go_simp
  apply Exists.intro
  refine And.intro (fun w' hw' => ?_) (hK _ ?_)
  · obtain ⟨hc', hf'⟩ := bcell hw'
    go_simp
    first | rfl | exact ⟨rfl, rfl⟩ | exact ⟨rfl⟩
  clear hK K
  refine wpQuiet_step (fun K hK => ?_)
  go_simp
  refine ⟨_, fun w' hw' => rfl, hK _ ?_⟩
  clear hK K
  refine wpQuiet_step (fun K hK => ?_)
  go_simp
  refine ⟨_, fun w' hw' => rfl, hK _ ?_⟩
  clear hK K
  refine wpQuiet_step (fun K hK => ?_)
  go_simp
  refine ⟨_, fun w' hw' => rfl, hK _ ?_⟩
  clear hK K
  refine wpQuiet_nil ?_
  intro w2 hbn
  clear zz za zr zc a0 a1 a2 a3 a4 a5 a6 a7 a8 a9 a10 a11 a12 a13 c0 c1
  have HX := hide ((unhide HX).trans (hbn.mono (unhide HX).size))
  clear hbn
  have zz := (unhide HX).size
  have za : w.heap.size < w2.heap.size := by omega
  have zr : w.heap.size + 1 < w2.heap.size := by omega
  have zc : c < w2.heap.size := by omega
  obtain ⟨a0, a1, a2, a3, a4, a5, a6, a7, a8, a9, a10, a11, a12, a13⟩ := ((unhide HA).below (unhide HX) (by omega)).all
  obtain ⟨c0, c1⟩ := ((unhide HM).below (unhide HX)).cells
  go_wp2_with fail
  refine wp_region_quiet (C := fun w' => Below w2.heap.size w2 w') (by kernel_rfl) (by kernel_rfl) ((Below.refl _ _).drew) ?_
  show wpQuiet _ _ _ _ [_, _, _, _, _, _, _, _, _, _, _] _
  refine wpQuiet_step (fun K hK => ?_)
  go_simp
  refine ⟨_, fun w' hw' => rfl, hK _ ?_⟩
  clear hK K
  refine wpQuiet_step (fun K hK => ?_)
  go_simp
  refine ⟨_, fun w' hw' => rfl, hK _ ?_⟩
  clear hK K
  go_big_quiet_step (fail)
  go_big_quiet_step (fail)
  go_big_quiet_step (fail)
  go_big_quiet_step (fail)
  go_big_quiet_step (fail)
  go_big_quiet_step (fail)
  go_big_quiet_step (fail)
  go_big_quiet_step (fail)
  refine wpQuiet_step (fun K hK => ?_)
  go_simp
  refine ⟨_, fun w' hw' => rfl, hK _ ?_⟩
  clear hK K
  refine wpQuiet_nil ?_
  intro w3 hbn
  clear zz za zr zc a0 a1 a2 a3 a4 a5 a6 a7 a8 a9 a10 a11 a12 a13 c0 c1
  have HX := hide ((unhide HX).trans (hbn.mono (unhide HX).size))
  clear hbn
  have zz := (unhide HX).size
  have za : w.heap.size < w3.heap.size := by omega
  have zr : w.heap.size + 1 < w3.heap.size := by omega
  have zc : c < w3.heap.size := by omega
  obtain ⟨a0, a1, a2, a3, a4, a5, a6, a7, a8, a9, a10, a11, a12, a13⟩ := ((unhide HA).below (unhide HX) (by omega)).all
  obtain ⟨c0, c1⟩ := ((unhide HM).below (unhide HX)).cells
  go_wp2_with fail
  refine (skey_any a.k.kind a.k.num a.k.flt a.k.str a.k.ref _).mono ?_
  rw [keyV_parts, unhide EKC, unhide EKV]
  rintro e w4 ⟨rfl, hb4⟩
  clear zz za zr zc a0 a1 a2 a3 a4 a5 a6 a7 a8 a9 a10 a11 a12 a13 c0 c1
  have HX := hide ((unhide HX).trans (hb4.mono (unhide HX).size))
  clear hb4
  have zz := (unhide HX).size
  have za : w.heap.size < w4.heap.size := by omega
  have zr : w.heap.size + 1 < w4.heap.size := by omega
  have zc : c < w4.heap.size := by omega
  obtain ⟨a0, a1, a2, a3, a4, a5, a6, a7, a8, a9, a10, a11, a12, a13⟩ := ((unhide HA).below (unhide HX) (by omega)).all
  obtain ⟨r0, r1, r2, r3, r4, r5, r6, r7, r8, r9, r10, r11⟩ := ((unhide HQ).below (unhide HX) (by omega)).all
  have fr := ((unhide HQ).below (unhide HX) (by omega)).frozen
  rcases unhide D23 with d2 | ⟨d2, d3⟩
  · go_wp2_with fail
    refine bodyPost_ret (v := AnV (ansC 4)) (by simp [results, Tryz.results14, go_sem, zr, r0, r1, r2, r3, r4, r5, r6, r7, r8, r9, r10, r11, ansC, ansN, ansV]) rfl ?_
    rw [(unhide HRES).1, (unhide HRES).2]
    obtain ⟨m, d⟩ := fin12 rfl (ansC 4) (unhide HB) (unhide HO) (by omega) hz ((unhide HM).below (unhide HX)) (Dst.of_below (unhide HX))
    exact ⟨rfl, _, _, _, m.below ((Below.refl _ _).alloc (Nat.le_refl _) _), d.below ((Below.refl _ _).alloc (Nat.le_refl _) _)⟩
  · go_wp2_with fail
    refine bodyPost_ret (v := AnV (ansC 4)) (by simp [results, Tryz.results14, go_sem, zr, r0, r1, r2, r3, r4, r5, r6, r7, r8, r9, r10, r11, ansC, ansN, ansV]) rfl ?_
    rw [(unhide HRES).1, (unhide HRES).2]
    obtain ⟨m, d⟩ := fin12 rfl (ansC 4) (unhide HB) (unhide HO) (by omega) hz ((unhide HM).below (unhide HX)) (Dst.of_below (unhide HX))
    exact ⟨rfl, _, _, _, m.below ((Below.refl _ _).alloc (Nat.le_refl _) _), d.below ((Below.refl _ _).alloc (Nat.le_refl _) _)⟩

set_option maxRecDepth 100000 in
set_option maxHeartbeats 8000000 in
theorem do_full1 (c B : Nat) (vT vS : Value) (U : Nat → Value) (D : Ds) (a : Ac) (w : World) (hD : DeskM 45 w c B vT vS U D) (hG : D.Good) (hact : actB a = true) (hop : a.op = 1) (hf : D.nt = 100) : DoSays c B vT vS U D a w := by
  have hT : tabB a.op = false := by rw [hop]; decide
  have hS : sitB a.op = false := by rw [hop]; decide
  have HRES : Hid (D.ans a = ansC 5 ∧ D.step a = D) := hide (by
    have h0 : chk a D.nt D.ns = 0 := by simp [chk, hact, tabB, sitB, hop]
    rw [Ds.ans, Ds.step, if_pos h0, if_pos h0]
    simp [Ds.ansOf, Ds.nextC, hop, hf])
  have e5 : ((D.nt : Int) == 100) = true := by simp; omega
  have d1 : (a.op == 1) = true := by simp [hop]
  have d2 : (a.op == 2) = false := by simp [hop]
  have d3 : (a.op == 3) = false := by simp [hop]
  have d7 : (a.op == 7) = false := by simp [hop]
  have d8 : (a.op == 8) = false := by simp [hop]
  have d9 : (a.op == 9) = false := by simp [hop]
  have HOP := hide hop
  clear hop
  obtain ⟨kc, ekc⟩ : ∃ kc, kcode a.k = kc := ⟨_, rfl⟩
  obtain ⟨kv, ekv⟩ : ∃ kv, kval a.k = kv := ⟨_, rfl⟩
  have EKC := hide ekc
  have EKV := hide ekv
  clear ekc ekv
  clear hf
  obtain ⟨ta, tc, rfl⟩ := own_slice hD.tb
  obtain ⟨sa, sc, rfl⟩ := own_slice hD.st
  have hnt := hG.nt
  have hns := hG.ns
  obtain ⟨W, hW, hb0, hA, hR, hz⟩ := boxes w a
  have HO : Hid (∀ k, OwnD c (.slice ta D.nt tc) (.slice sa D.ns sc) U D.nt k → k < w.heap.size) := hide (fun k h => (hD.rng h).2)
  have hcl := hD.lt
  have HM := hide (hD.below hb0)
  have HB := hide hb0
  have HA := hide hA
  have HQ := hide hR
  have HG := hide hG
  clear hD hb0 hA hR hG
  go_enter Tryz.func14, Tryz.ntmps14
  go_wp2_with fail
  rw [← hW]
  clear hW
  refine (specActOk a _).mono ?_
  rw [hact]
  rintro e w1 ⟨rfl, hb1⟩
  have HX := hide hb1
  clear hb1
  have zz := (unhide HX).size
  have za : w.heap.size < w1.heap.size := by omega
  have zr : w.heap.size + 1 < w1.heap.size := by omega
  have zc : c < w1.heap.size := by omega
  obtain ⟨a0, a1, a2, a3, a4, a5, a6, a7, a8, a9, a10, a11, a12, a13⟩ := ((unhide HA).below (unhide HX) (by omega)).all
  obtain ⟨c0, c1⟩ := ((unhide HM).below (unhide HX)).cells
  go_wp2_with fail
  refine (l4wants_any a.op _).mono ?_
  rw [hT, hS]
  rintro e w2 ⟨rfl, ew⟩
  rw [ew]
  clear ew w2
  go_wp2_with fail
  refine wp_region_quiet (C := fun w' => Below w1.heap.size w1 w') (by kernel_rfl) (by kernel_rfl) ((Below.refl _ _).drew) ?_
  show wpQuiet _ _ _ _ [_, _, _, _, _, _, _, _, _, _, _] _
  refine wpQuiet_step (fun K hK => ?_)
  go_simp
  refine ⟨_, fun w' hw' => rfl, hK _ ?_⟩
  clear hK K
  refine wpQuiet_step (fun K hK => ?_)
  go_simp
  refine ⟨_, fun w' hw' => rfl, hK _ ?_⟩
  clear hK K
  go_big_quiet_step (fail)
  go_big_quiet_step (fail)
  go_big_quiet_step (fail)
  go_big_quiet_step (fail)
  go_big_quiet_step (fail)
  go_big_quiet_step (fail)
  go_big_quiet_step (fail)
  go_big_quiet_step (fail)
  refine wpQuiet_step (fun K hK => ?_)
  go_simp
  refine ⟨_, fun w' hw' => rfl, hK _ ?_⟩
  clear hK K
  refine wpQuiet_nil ?_
  intro w2 hbn
  clear zz za zr zc a0 a1 a2 a3 a4 a5 a6 a7 a8 a9 a10 a11 a12 a13 c0 c1
  have HX := hide ((unhide HX).trans (hbn.mono (unhide HX).size))
  clear hbn
  have zz := (unhide HX).size
  have za : w.heap.size < w2.heap.size := by omega
  have zr : w.heap.size + 1 < w2.heap.size := by omega
  have zc : c < w2.heap.size := by omega
  obtain ⟨a0, a1, a2, a3, a4, a5, a6, a7, a8, a9, a10, a11, a12, a13⟩ := ((unhide HA).below (unhide HX) (by omega)).all
  obtain ⟨c0, c1⟩ := ((unhide HM).below (unhide HX)).cells
  go_wp2_with fail
  refine wp_region_quiet (C := fun w' => Below w2.heap.size w2 w') (by kernel_rfl) (by kernel_rfl) ((Below.refl _ _).drew) ?_
  show wpQuiet _ _ _ _ [_, _, _, _, _, _, _, _, _, _, _] _
  refine wpQuiet_step (fun K hK => ?_)
  go_simp
  refine ⟨_, fun w' hw' => rfl, hK _ ?_⟩
  clear hK K
  refine wpQuiet_step (fun K hK => ?_)
  go_simp
  refine ⟨_, fun w' hw' => rfl, hK _ ?_⟩
  clear hK K
  go_big_quiet_step (fail)
  go_big_quiet_step (fail)
  go_big_quiet_step (fail)
  go_big_quiet_step (fail)
  go_big_quiet_step (fail)
  go_big_quiet_step (fail)
  go_big_quiet_step (fail)
  go_big_quiet_step (fail)
  refine wpQuiet_step (fun K hK => ?_)
  go_simp
  refine ⟨_, fun w' hw' => rfl, hK _ ?_⟩
  clear hK K
  refine wpQuiet_nil ?_
  intro w3 hbn
  clear zz za zr zc a0 a1 a2 a3 a4 a5 a6 a7 a8 a9 a10 a11 a12 a13 c0 c1
  have HX := hide ((unhide HX).trans (hbn.mono (unhide HX).size))
  clear hbn
  have zz := (unhide HX).size
  have za : w.heap.size < w3.heap.size := by omega
  have zr : w.heap.size + 1 < w3.heap.size := by omega
  have zc : c < w3.heap.size := by omega
  obtain ⟨a0, a1, a2, a3, a4, a5, a6, a7, a8, a9, a10, a11, a12, a13⟩ := ((unhide HA).below (unhide HX) (by omega)).all
  obtain ⟨c0, c1⟩ := ((unhide HM).below (unhide HX)).cells
  go_wp2_with fail
  refine (skey_any a.k.kind a.k.num a.k.flt a.k.str a.k.ref _).mono ?_
  rw [keyV_parts, unhide EKC, unhide EKV]
  rintro e w4 ⟨rfl, hb4⟩
  clear zz za zr zc a0 a1 a2 a3 a4 a5 a6 a7 a8 a9 a10 a11 a12 a13 c0 c1
  have HX := hide ((unhide HX).trans (hb4.mono (unhide HX).size))
  clear hb4
  have zz := (unhide HX).size
  have za : w.heap.size < w4.heap.size := by omega
  have zr : w.heap.size + 1 < w4.heap.size := by omega
  have zc : c < w4.heap.size := by omega
  obtain ⟨a0, a1, a2, a3, a4, a5, a6, a7, a8, a9, a10, a11, a12, a13⟩ := ((unhide HA).below (unhide HX) (by omega)).all
  obtain ⟨c0, c1⟩ := ((unhide HM).below (unhide HX)).cells
  obtain ⟨r0, r1, r2, r3, r4, r5, r6, r7, r8, r9, r10, r11⟩ := ((unhide HQ).below (unhide HX) (by omega)).all
  have fr := ((unhide HQ).below (unhide HX) (by omega)).frozen
  go_wp2_with fail
  refine bodyPost_ret (v := AnV (ansC 5)) (by simp [results, Tryz.results14, go_sem, zr, r0, r1, r2, r3, r4, r5, r6, r7, r8, r9, r10, r11, ansC, ansN, ansV]) rfl ?_
  rw [(unhide HRES).1, (unhide HRES).2]
  obtain ⟨m, d⟩ := fin12 rfl (ansC 5) (unhide HB) (unhide HO) (by omega) hz ((unhide HM).below (unhide HX)) (Dst.of_below (unhide HX))
  exact ⟨rfl, _, _, _, m.below ((Below.refl _ _).alloc (Nat.le_refl _) _), d.below ((Below.refl _ _).alloc (Nat.le_refl _) _)⟩

set_option maxRecDepth 100000 in
set_option maxHeartbeats 8000000 in
theorem do_full7 (c B : Nat) (vT vS : Value) (U : Nat → Value) (D : Ds) (a : Ac) (w : World) (hD : DeskM 45 w c B vT vS U D) (hG : D.Good) (hact : actB a = true) (hop : a.op = 7) (hf : D.ns = 50) : DoSays c B vT vS U D a w := by
  have hT : tabB a.op = false := by rw [hop]; decide
  have hS : sitB a.op = false := by rw [hop]; decide
  have HRES : Hid (D.ans a = ansC 5 ∧ D.step a = D) := hide (by
    have h0 : chk a D.nt D.ns = 0 := by simp [chk, hact, tabB, sitB, hop]
    rw [Ds.ans, Ds.step, if_pos h0, if_pos h0]
    simp [Ds.ansOf, Ds.nextC, hop, hf])
  have e5 : ((D.ns : Int) == 50) = true := by simp; omega
  have d1 : (a.op == 1) = false := by simp [hop]
  have d2 : (a.op == 2) = false := by simp [hop]
  have d3 : (a.op == 3) = false := by simp [hop]
  have d7 : (a.op == 7) = true := by simp [hop]
  have d8 : (a.op == 8) = false := by simp [hop]
  have d9 : (a.op == 9) = false := by simp [hop]
  have HOP := hide hop
  clear hop
  obtain ⟨kc, ekc⟩ : ∃ kc, kcode a.k = kc := ⟨_, rfl⟩
  obtain ⟨kv, ekv⟩ : ∃ kv, kval a.k = kv := ⟨_, rfl⟩
  have EKC := hide ekc
  have EKV := hide ekv
  clear ekc ekv
  clear hf
  obtain ⟨ta, tc, rfl⟩ := own_slice hD.tb
  obtain ⟨sa, sc, rfl⟩ := own_slice hD.st
  have hnt := hG.nt
  have hns := hG.ns
  obtain ⟨W, hW, hb0, hA, hR, hz⟩ := boxes w a
  have HO : Hid (∀ k, OwnD c (.slice ta D.nt tc) (.slice sa D.ns sc) U D.nt k → k < w.heap.size) := hide (fun k h => (hD.rng h).2)
  have hcl := hD.lt
  have HM := hide (hD.below hb0)
  have HB := hide hb0
  have HA := hide hA
  have HQ := hide hR
  have HG := hide hG
  clear hD hb0 hA hR hG
  go_enter Tryz.func14, Tryz.ntmps14
  go_wp2_with fail
  rw [← hW]
  clear hW
  refine (specActOk a _).mono ?_
  rw [hact]
  rintro e w1 ⟨rfl, hb1⟩
  have HX := hide hb1
  clear hb1
  have zz := (unhide HX).size
  have za : w.heap.size < w1.heap.size := by omega
  have zr : w.heap.size + 1 < w1.heap.size := by omega
  have zc : c < w1.heap.size := by omega
  obtain ⟨a0, a1, a2, a3, a4, a5, a6, a7, a8, a9, a10, a11, a12, a13⟩ := ((unhide HA).below (unhide HX) (by omega)).all
  obtain ⟨c0, c1⟩ := ((unhide HM).below (unhide HX)).cells
  go_wp2_with fail
  refine (l4wants_any a.op _).mono ?_
  rw [hT, hS]
  rintro e w2 ⟨rfl, ew⟩
  rw [ew]
  clear ew w2
  go_wp2_with fail
  refine wp_region_quiet (C := fun w' => Below w1.heap.size w1 w') (by kernel_rfl) (by kernel_rfl) ((Below.refl _ _).drew) ?_
  show wpQuiet _ _ _ _ [_, _, _, _, _, _, _, _, _, _, _] _
  refine wpQuiet_step (fun K hK => ?_)
  go_simp
  refine ⟨_, fun w' hw' => rfl, hK _ ?_⟩
  clear hK K
  refine wpQuiet_step (fun K hK => ?_)
  go_simp
  refine ⟨_, fun w' hw' => rfl, hK _ ?_⟩
  clear hK K
  go_big_quiet_step (fail)
  go_big_quiet_step (fail)
  go_big_quiet_step (fail)
  go_big_quiet_step (fail)
  go_big_quiet_step (fail)
  go_big_quiet_step (fail)
  go_big_quiet_step (fail)
  go_big_quiet_step (fail)
  refine wpQuiet_step (fun K hK => ?_)
  go_simp
  refine ⟨_, fun w' hw' => rfl, hK _ ?_⟩
  clear hK K
  refine wpQuiet_nil ?_
  intro w2 hbn
  clear zz za zr zc a0 a1 a2 a3 a4 a5 a6 a7 a8 a9 a10 a11 a12 a13 c0 c1
  have HX := hide ((unhide HX).trans (hbn.mono (unhide HX).size))
  clear hbn
  have zz := (unhide HX).size
  have za : w.heap.size < w2.heap.size := by omega
  have zr : w.heap.size + 1 < w2.heap.size := by omega
  have zc : c < w2.heap.size := by omega
  obtain ⟨a0, a1, a2, a3, a4, a5, a6, a7, a8, a9, a10, a11, a12, a13⟩ := ((unhide HA).below (unhide HX) (by omega)).all
  obtain ⟨c0, c1⟩ := ((unhide HM).below (unhide HX)).cells
  go_wp2_with fail
  refine wp_region_quiet (C := fun w' => Below w2.heap.size w2 w') (by kernel_rfl) (by kernel_rfl) ((Below.refl _ _).drew) ?_
  show wpQuiet _ _ _ _ [_, _, _, _, _, _, _, _, _, _, _] _
  refine wpQuiet_step (fun K hK => ?_)
  go_simp
  refine ⟨_, fun w' hw' => rfl, hK _ ?_⟩
  clear hK K
  refine wpQuiet_step (fun K hK => ?_)
  go_simp
  refine ⟨_, fun w' hw' => rfl, hK _ ?_⟩
  clear hK K
  go_big_quiet_step (fail)
  go_big_quiet_step (fail)
  go_big_quiet_step (fail)
  go_big_quiet_step (fail)
  go_big_quiet_step (fail)
  go_big_quiet_step (fail)
  go_big_quiet_step (fail)
  go_big_quiet_step (fail)
  refine wpQuiet_step (fun K hK => ?_)
  go_simp
  refine ⟨_, fun w' hw' => rfl, hK _ ?_⟩
  clear hK K
  refine wpQuiet_nil ?_
  intro w3 hbn
  clear zz za zr zc a0 a1 a2 a3 a4 a5 a6 a7 a8 a9 a10 a11 a12 a13 c0 c1
  have HX := hide ((unhide HX).trans (hbn.mono (unhide HX).size))
  clear hbn
  have zz := (unhide HX).size
  have za : w.heap.size < w3.heap.size := by omega
  have zr : w.heap.size + 1 < w3.heap.size := by omega
  have zc : c < w3.heap.size := by omega
  obtain ⟨a0, a1, a2, a3, a4, a5, a6, a7, a8, a9, a10, a11, a12, a13⟩ := ((unhide HA).below (unhide HX) (by omega)).all
  obtain ⟨c0, c1⟩ := ((unhide HM).below (unhide HX)).cells
  go_wp2_with fail
  refine (skey_any a.k.kind a.k.num a.k.flt a.k.str a.k.ref _).mono ?_
  rw [keyV_parts, unhide EKC, unhide EKV]
  rintro e w4 ⟨rfl, hb4⟩
  clear zz za zr zc a0 a1 a2 a3 a4 a5 a6 a7 a8 a9 a10 a11 a12 a13 c0 c1
  have HX := hide ((unhide HX).trans (hb4.mono (unhide HX).size))
  clear hb4
  have zz := (unhide HX).size
  have za : w.heap.size < w4.heap.size := by omega
  have zr : w.heap.size + 1 < w4.heap.size := by omega
  have zc : c < w4.heap.size := by omega
  obtain ⟨a0, a1, a2, a3, a4, a5, a6, a7, a8, a9, a10, a11, a12, a13⟩ := ((unhide HA).below (unhide HX) (by omega)).all
  obtain ⟨c0, c1⟩ := ((unhide HM).below (unhide HX)).cells
  obtain ⟨r0, r1, r2, r3, r4, r5, r6, r7, r8, r9, r10, r11⟩ := ((unhide HQ).below (unhide HX) (by omega)).all
  have fr := ((unhide HQ).below (unhide HX) (by omega)).frozen
  go_wp2_with fail
  refine bodyPost_ret (v := AnV (ansC 5)) (by simp [results, Tryz.results14, go_sem, zr, r0, r1, r2, r3, r4, r5, r6, r7, r8, r9, r10, r11, ansC, ansN, ansV]) rfl ?_
  rw [(unhide HRES).1, (unhide HRES).2]
  obtain ⟨m, d⟩ := fin12 rfl (ansC 5) (unhide HB) (unhide HO) (by omega) hz ((unhide HM).below (unhide HX)) (Dst.of_below (unhide HX))
  exact ⟨rfl, _, _, _, m.below ((Below.refl _ _).alloc (Nat.le_refl _) _), d.below ((Below.refl _ _).alloc (Nat.le_refl _) _)⟩

end Go.Proofs.YtnjgebncghdajaaGreatDoor
