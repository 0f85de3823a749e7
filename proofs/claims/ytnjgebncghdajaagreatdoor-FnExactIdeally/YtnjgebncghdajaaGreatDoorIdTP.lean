/-
  IdT.
-/
import Derived.Test.YtnjgebncghdajaaGreatDoorIdRP
import Derived.Test.YtnjgebncghdajaaGreatDoorIdKP
import Derived.Test.YtnjgebncghdajaaGreatDoorBi3
import Derived.Test.YtnjgebncghdajaaGreatDoorAcBP
import Derived.Deep.QuietTactic
import Derived.BigQuiet
import Derived.Test.YtnjgebncghdajaaGreatDoorIdSP
namespace Go.Proofs.YtnjgebncghdajaaGreatDoor
open Go.RowKit
set_option linter.unusedVariables false
set_option linter.unusedSimpArgs false
attribute [local go_sem] run_store_float run_equalIn_float

set_option maxRecDepth 100000 in
set_option maxHeartbeats 8000000 in
theorem do_put (c B : Nat) (vT vS : Value) (U : Nat → Value) (D : Ds) (a : Ac) (w : World) (hD : DeskM 45 w c B vT vS U D) (hG : D.Good) (hact : actB a = true) (hop : a.op = 2) (t : Nat) (et : a.t = t) (h2 : t < D.nt) (h4 : kcode a.k = 0) : DoSays c B vT vS U D a w := by
  have hT : tabB a.op = true := by rw [hop]; decide
  have hS : sitB a.op = false := by rw [hop]; decide
  obtain ⟨kc, ekc⟩ : ∃ kc, kcode a.k = kc := ⟨_, rfl⟩
  obtain ⟨kv, ekv⟩ : ∃ kv, kval a.k = kv := ⟨_, rfl⟩
  have HRES : Hid (D.ans a = ansC ((D.T t).code kv a.v) ∧ D.step a = D.putT t kv a.v) := hide (by
    have h0 : chk a D.nt D.ns = 0 := by
      have x1 : ¬ (D.nt : Int) ≤ a.t := by omega
      simp [chk, hact, tabB, sitB, hop, x1, h4]
    simp [Ds.ans, Ds.step, h0, Ds.ansOf, Ds.nextC, hop, et, ekv])
  have e2 : decide ((D.nt : Int) ≤ a.t) = false := by simp; omega
  have e4 : (kc != 0) = false := by rw [← ekc]; simp [h4]
  have e4' : (kc == 0) = true := by rw [← ekc]; simp [h4]
  clear h4
  have EKC := hide ekc
  have EKV := hide ekv
  clear ekc ekv
  have d1 : (a.op == 1) = false := by simp [hop]
  have d2 : (a.op == 2) = true := by simp [hop]
  have d3 : (a.op == 3) = false := by simp [hop]
  have d7 : (a.op == 7) = false := by simp [hop]
  have d8 : (a.op == 8) = false := by simp [hop]
  have d9 : (a.op == 9) = false := by simp [hop]
  have HOP := hide hop
  clear hop
  have ET := hide et
  clear et
  obtain ⟨ta, tc, rfl⟩ := own_slice hD.tb
  obtain ⟨sa, sc, rfl⟩ := own_slice hD.st
  have hnt := hG.nt
  have hns := hG.ns
  obtain ⟨W, hW, hb0, hA, hR, hz⟩ := boxes w a
  have HO : Hid (∀ k, OwnD c (.slice ta D.nt tc) (.slice sa D.ns sc) U D.nt k → k < w.heap.size) := hide (fun k h => (hD.rng h).2)
  have hcl := hD.lt
  have HM := hide (hD.below hb0)
  have HB := hide hb0
  have HA := hide hA
  have HQ := hide hR
  have HG := hide hG
  clear hD hb0 hA hR hG
  go_enter Tryz.func14, Tryz.ntmps14
  go_wp2_with fail
  rw [← hW]
  clear hW
  refine (specActOk a _).mono ?_
  rw [hact]
  rintro e w1 ⟨rfl, hb1⟩
  have HX := hide hb1
  clear hb1
  have HNO : Hid (¬ OwnD c (.slice ta D.nt tc) (.slice sa D.ns sc) U D.nt (w.heap.size + 1)) := hide (fun h => by have := unhide HO _ h; omega)
  have zz := (unhide HX).size
  have za : w.heap.size < w1.heap.size := by omega
  have zr : w.heap.size + 1 < w1.heap.size := by omega
  have zc : c < w1.heap.size := by omega
  obtain ⟨a0, a1, a2, a3, a4, a5, a6, a7, a8, a9, a10, a11, a12, a13⟩ := ((unhide HA).below (unhide HX) (by omega)).all
  obtain ⟨c0, c1⟩ := ((unhide HM).below (unhide HX)).cells
  go_wp2_with fail
  refine (l4wants_any a.op _).mono ?_
  rw [hT, hS]
  rintro e w2 ⟨rfl, ew⟩
  rw [ew]
  clear ew w2
  go_wp2_with fail
  refine wp_region_quiet (C := fun w' => Below w1.heap.size w1 w') (by kernel_rfl) (by kernel_rfl) ((Below.refl _ _).drew) ?_
  show wpQuiet _ _ _ _ [_, _, _, _, _, _, _, _, _, _, _] _
  refine wpQuiet_step (fun K hK => ?_)
  go_simp
  refine ⟨_, fun w' hw' => rfl, hK _ ?_⟩
  clear hK K
  refine wpQuiet_step (fun K hK => ?_)
  go_simp
  refine ⟨_, fun w' hw' => rfl, hK _ ?_⟩
  clear hK K
  refine wpQuiet_step (fun K hK => ?_)
  go_simp
  refine ⟨_, fun w' hw' => rfl, hK _ ?_⟩
  clear hK K
  refine wpQuiet_step (fun K hK => ?_)
  go_simp
  apply Exists.intro
  refine And.intro (fun w' hw' => ?_) (hK _ ?_)
  · obtain ⟨hc', hf'⟩ := bcell hw'
    go_simp
    first | rfl | exact ⟨rfl, rfl⟩ | exact ⟨rfl⟩
  clear hK K
  refine wpQuiet_step (fun K hK => ?_)
  go_simp
  refine ⟨_, fun w' hw' => rfl, hK _ ?_⟩
  clear hK K
  refine wpQuiet_step (fun K hK => ?_)
  go_simp
  refine ⟨_, fun w' hw' => rfl, hK _ ?_⟩
  clear hK K
  refine wpQuiet_step (fun K hK => ?_)
  go_simp
  refine ⟨_, fun w' hw' => rfl, hK _ ?_⟩
  clear hK K
  refine wpQuiet_step (fun K hK => ?_)
  go_simp
  apply Exists.intro
  refine And.intro (fun w' hw' => ?_) (hK _ ?_)
  · obtain ⟨hc', hf'⟩ := bcell hw'
    go_simp
    first | rfl | exact ⟨rfl, rfl⟩ | exact ⟨rfl⟩
  clear hK K
  refine wpQuiet_step (fun K hK => ?_)
  go_simp
  refine ⟨_, fun w' hw' => rfl, hK _ ?_⟩
  clear hK K
  refine wpQuiet_step (fun K hK => ?_)
  go_simp
  refine ⟨_, fun w' hw' => rfl, hK _ ?_⟩
  clear hK K
  refine wpQuiet_step (fun K hK => ?_)
  go_simp
  refine ⟨_, fun w' hw' => rfl, hK _ ?_⟩
  clear hK K
  refine wpQuiet_nil ?_
  intro w2 hbn
  clear zz za zr zc a0 a1 a2 a3 a4 a5 a6 a7 a8 a9 a10 a11 a12 a13 c0 c1
  have HX := hide ((unhide HX).trans (hbn.mono (unhide HX).size))
  clear hbn
  have zz := (unhide HX).size
  have za : w.heap.size < w2.heap.size := by omega
  have zr : w.heap.size + 1 < w2.heap.size := by omega
  have zc : c < w2.heap.size := by omega
  obtain ⟨a0, a1, a2, a3, a4, a5, a6, a7, a8, a9, a10, a11, a12, a13⟩ := ((unhide HA).below (unhide HX) (by omega)).all
  obtain ⟨c0, c1⟩ := ((unhide HM).below (unhide HX)).cells
  go_wp2_with fail
  refine wp_region_quiet (C := fun w' => Below w2.heap.size w2 w') (by kernel_rfl) (by kernel_rfl) ((Below.refl _ _).drew) ?_
  show wpQuiet _ _ _ _ [_, _, _, _, _, _, _, _, _, _, _] _
  refine wpQuiet_step (fun K hK => ?_)
  go_simp
  refine ⟨_, fun w' hw' => rfl, hK _ ?_⟩
  clear hK K
  refine wpQuiet_step (fun K hK => ?_)
  go_simp
  refine ⟨_, fun w' hw' => rfl, hK _ ?_⟩
  clear hK K
  go_big_quiet_step (fail)
  go_big_quiet_step (fail)
  go_big_quiet_step (fail)
  go_big_quiet_step (fail)
  go_big_quiet_step (fail)
  go_big_quiet_step (fail)
  go_big_quiet_step (fail)
  go_big_quiet_step (fail)
  refine wpQuiet_step (fun K hK => ?_)
  go_simp
  refine ⟨_, fun w' hw' => rfl, hK _ ?_⟩
  clear hK K
  refine wpQuiet_nil ?_
  intro w3 hbn
  clear zz za zr zc a0 a1 a2 a3 a4 a5 a6 a7 a8 a9 a10 a11 a12 a13 c0 c1
  have HX := hide ((unhide HX).trans (hbn.mono (unhide HX).size))
  clear hbn
  have zz := (unhide HX).size
  have za : w.heap.size < w3.heap.size := by omega
  have zr : w.heap.size + 1 < w3.heap.size := by omega
  have zc : c < w3.heap.size := by omega
  obtain ⟨a0, a1, a2, a3, a4, a5, a6, a7, a8, a9, a10, a11, a12, a13⟩ := ((unhide HA).below (unhide HX) (by omega)).all
  obtain ⟨c0, c1⟩ := ((unhide HM).below (unhide HX)).cells
  go_wp2_with fail
  refine (skey_any a.k.kind a.k.num a.k.flt a.k.str a.k.ref _).mono ?_
  rw [keyV_parts, unhide EKC, unhide EKV]
  rintro e w4 ⟨rfl, hb4⟩
  clear zz za zr zc a0 a1 a2 a3 a4 a5 a6 a7 a8 a9 a10 a11 a12 a13 c0 c1
  have HX := hide ((unhide HX).trans (hb4.mono (unhide HX).size))
  clear hb4
  have zz := (unhide HX).size
  have za : w.heap.size < w4.heap.size := by omega
  have zr : w.heap.size + 1 < w4.heap.size := by omega
  have zc : c < w4.heap.size := by omega
  obtain ⟨a0, a1, a2, a3, a4, a5, a6, a7, a8, a9, a10, a11, a12, a13⟩ := ((unhide HA).below (unhide HX) (by omega)).all
  obtain ⟨c0, c1⟩ := ((unhide HM).below (unhide HX)).cells
  rw [unhide ET] at a1
  have HXK : Hid (Below W.heap.size W (w4.alloc (.cells #[.int .i64 kc, .int .i64 kv.kind, .int .i64 kv.num, .float .f64 kv.flt, .string kv.str, .int .i64 kv.ref] 68))) := hide ((unhide HX).alloc (unhide HX).size _)
  go_wp2_with fail
  refine (l5put_any c B t _ _ U D kv a.v _ ((unhide HM).below (unhide HXK)) h2 (unhide HG)).mono ?_
  rintro e w5 ⟨rfl, U', hM5, hD5⟩
  clear zz za zr zc a0 a1 a2 a3 a4 a5 a6 a7 a8 a9 a10 a11 a12 a13 c0 c1
  generalize (D.T t).code kv a.v = x at *
  have hq := ((unhide HQ).below (unhide HXK) (by omega)).dst hD5 (unhide HNO)
  obtain ⟨r0, r1, r2, r3, r4, r5, r6, r7, r8, r9, r10, r11⟩ := hq.all
  have fr := hq.frozen
  have zr := hq.lt
  have HM5 := hide hM5
  have HD5 := hide ((Dst.of_below (unhide HXK)).trans hD5)
  clear hq hM5 hD5
  go_wp2_with fail
  refine bodyPost_ret (v := AnV (ansC x)) (by simp [results, Tryz.results14, go_sem, zr, r0, r1, r2, r3, r4, r5, r6, r7, r8, r9, r10, r11, ansC, ansN, ansV]) rfl ?_
  rw [(unhide HRES).1, (unhide HRES).2]
  obtain ⟨m, d⟩ := fin12 rfl (ansC x) (unhide HB) (unhide HO) (by omega) hz (unhide HM5) (unhide HD5)
  exact ⟨rfl, _, _, _, m, d⟩

set_option maxRecDepth 100000 in
set_option maxHeartbeats 8000000 in
theorem do_get (c B : Nat) (vT vS : Value) (U : Nat → Value) (D : Ds) (a : Ac) (w : World) (hD : DeskM 45 w c B vT vS U D) (hG : D.Good) (hact : actB a = true) (hop : a.op = 3) (t : Nat) (et : a.t = t) (h2 : t < D.nt) (h4 : kcode a.k = 0) : DoSays c B vT vS U D a w := by
  have hT : tabB a.op = true := by rw [hop]; decide
  have hS : sitB a.op = false := by rw [hop]; decide
  obtain ⟨kc, ekc⟩ : ∃ kc, kcode a.k = kc := ⟨_, rfl⟩
  obtain ⟨kv, ekv⟩ : ∃ kv, kval a.k = kv := ⟨_, rfl⟩
  have HRES : Hid (D.ans a = ansV ((D.T t).get kv) ∧ D.step a = D) := hide (by
    have h0 : chk a D.nt D.ns = 0 := by
      have x1 : ¬ (D.nt : Int) ≤ a.t := by omega
      simp [chk, hact, tabB, sitB, hop, x1, h4]
    simp [Ds.ans, Ds.step, h0, Ds.ansOf, Ds.nextC, hop, et, ekv])
  have e2 : decide ((D.nt : Int) ≤ a.t) = false := by simp; omega
  have e4 : (kc != 0) = false := by rw [← ekc]; simp [h4]
  have e4' : (kc == 0) = true := by rw [← ekc]; simp [h4]
  clear h4
  have EKC := hide ekc
  have EKV := hide ekv
  clear ekc ekv
  have d1 : (a.op == 1) = false := by simp [hop]
  have d2 : (a.op == 2) = false := by simp [hop]
  have d3 : (a.op == 3) = true := by simp [hop]
  have d7 : (a.op == 7) = false := by simp [hop]
  have d8 : (a.op == 8) = false := by simp [hop]
  have d9 : (a.op == 9) = false := by simp [hop]
  have HOP := hide hop
  clear hop
  have ET := hide et
  clear et
  obtain ⟨ta, tc, rfl⟩ := own_slice hD.tb
  obtain ⟨sa, sc, rfl⟩ := own_slice hD.st
  have hnt := hG.nt
  have hns := hG.ns
  obtain ⟨W, hW, hb0, hA, hR, hz⟩ := boxes w a
  have HO : Hid (∀ k, OwnD c (.slice ta D.nt tc) (.slice sa D.ns sc) U D.nt k → k < w.heap.size) := hide (fun k h => (hD.rng h).2)
  have hcl := hD.lt
  have HM := hide (hD.below hb0)
  have HB := hide hb0
  have HA := hide hA
  have HQ := hide hR
  have HG := hide hG
  clear hD hb0 hA hR hG
  go_enter Tryz.func14, Tryz.ntmps14
  go_wp2_with fail
  rw [← hW]
  clear hW
  refine (specActOk a _).mono ?_
  rw [hact]
  rintro e w1 ⟨rfl, hb1⟩
  have HX := hide hb1
  clear hb1
  have HNO : Hid (¬ OwnD c (.slice ta D.nt tc) (.slice sa D.ns sc) U D.nt (w.heap.size + 1)) := hide (fun h => by have := unhide HO _ h; omega)
  have zz := (unhide HX).size
  have za : w.heap.size < w1.heap.size := by omega
  have zr : w.heap.size + 1 < w1.heap.size := by omega
  have zc : c < w1.heap.size := by omega
  obtain ⟨a0, a1, a2, a3, a4, a5, a6, a7, a8, a9, a10, a11, a12, a13⟩ := ((unhide HA).below (unhide HX) (by omega)).all
  obtain ⟨c0, c1⟩ := ((unhide HM).below (unhide HX)).cells
  go_wp2_with fail
  refine (l4wants_any a.op _).mono ?_
  rw [hT, hS]
  rintro e w2 ⟨rfl, ew⟩
  rw [ew]
  clear ew w2
  go_wp2_with fail
  refine wp_region_quiet (C := fun w' => Below w1.heap.size w1 w') (by kernel_rfl) (by kernel_rfl) ((Below.refl _ _).drew) ?_
  show wpQuiet _ _ _ _ [_, _, _, _, _, _, _, _, _, _, _] _
  refine wpQuiet_step (fun K hK => ?_)
  go_simp
  refine ⟨_, fun w' hw' => rfl, hK _ ?_⟩
  clear hK K
  refine wpQuiet_step (fun K hK => ?_)
  go_simp
  refine ⟨_, fun w' hw' => rfl, hK _ ?_⟩
  clear hK K
  refine wpQuiet_step (fun K hK => ?_)
  go_simp
  refine ⟨_, fun w' hw' => rfl, hK _ ?_⟩
  clear hK K
  refine wpQuiet_step (fun K hK => ?_)
  go_simp
  apply Exists.intro
  refine And.intro (fun w' hw' => ?_) (hK _ ?_)
  · obtain ⟨hc', hf'⟩ := bcell hw'
    go_simp
    first | rfl | exact ⟨rfl, rfl⟩ | exact ⟨rfl⟩
  clear hK K
  refine wpQuiet_step (fun K hK => ?_)
  go_simp
  refine ⟨_, fun w' hw' => rfl, hK _ ?_⟩
  clear hK K
  refine wpQuiet_step (fun K hK => ?_)
  go_simp
  refine ⟨_, fun w' hw' => rfl, hK _ ?_⟩
  clear hK K
  refine wpQuiet_step (fun K hK => ?_)
  go_simp
  refine ⟨_, fun w' hw' => rfl, hK _ ?_⟩
  clear hK K
  refine wpQuiet_step (fun K hK => ?_)
  go_simp
  apply Exists.intro
  refine And.intro (fun w' hw' => ?_) (hK _ ?_)
  · obtain ⟨hc', hf'⟩ := bcell hw'
    go_simp
    first | rfl | exact ⟨rfl, rfl⟩ | exact ⟨rfl⟩
  clear hK K
  refine wpQuiet_step (fun K hK => ?_)
  go_simp
  refine ⟨_, fun w' hw' => rfl, hK _ ?_⟩
  clear hK K
  refine wpQuiet_step (fun K hK => ?_)
  go_simp
  refine ⟨_, fun w' hw' => rfl, hK _ ?_⟩
  clear hK K
  refine wpQuiet_step (fun K hK => ?_)
  go_simp
  refine ⟨_, fun w' hw' => rfl, hK _ ?_⟩
  clear hK K
  refine wpQuiet_nil ?_
  intro w2 hbn
  clear zz za zr zc a0 a1 a2 a3 a4 a5 a6 a7 a8 a9 a10 a11 a12 a13 c0 c1
  have HX := hide ((unhide HX).trans (hbn.mono (unhide HX).size))
  clear hbn
  have zz := (unhide HX).size
  have za : w.heap.size < w2.heap.size := by omega
  have zr : w.heap.size + 1 < w2.heap.size := by omega
  have zc : c < w2.heap.size := by omega
  obtain ⟨a0, a1, a2, a3, a4, a5, a6, a7, a8, a9, a10, a11, a12, a13⟩ := ((unhide HA).below (unhide HX) (by omega)).all
  obtain ⟨c0, c1⟩ := ((unhide HM).below (unhide HX)).cells
  go_wp2_with fail
  refine wp_region_quiet (C := fun w' => Below w2.heap.size w2 w') (by kernel_rfl) (by kernel_rfl) ((Below.refl _ _).drew) ?_
  show wpQuiet _ _ _ _ [_, _, _, _, _, _, _, _, _, _, _] _
  refine wpQuiet_step (fun K hK => ?_)
  go_simp
  refine ⟨_, fun w' hw' => rfl, hK _ ?_⟩
  clear hK K
  refine wpQuiet_step (fun K hK => ?_)
  go_simp
  refine ⟨_, fun w' hw' => rfl, hK _ ?_⟩
  clear hK K
  go_big_quiet_step (fail)
  go_big_quiet_step (fail)
  go_big_quiet_step (fail)
  go_big_quiet_step (fail)
  go_big_quiet_step (fail)
  go_big_quiet_step (fail)
  go_big_quiet_step (fail)
  go_big_quiet_step (fail)
  refine wpQuiet_step (fun K hK => ?_)
  go_simp
  refine ⟨_, fun w' hw' => rfl, hK _ ?_⟩
  clear hK K
  refine wpQuiet_nil ?_
  intro w3 hbn
  clear zz za zr zc a0 a1 a2 a3 a4 a5 a6 a7 a8 a9 a10 a11 a12 a13 c0 c1
  have HX := hide ((unhide HX).trans (hbn.mono (unhide HX).size))
  clear hbn
  have zz := (unhide HX).size
  have za : w.heap.size < w3.heap.size := by omega
  have zr : w.heap.size + 1 < w3.heap.size := by omega
  have zc : c < w3.heap.size := by omega
  obtain ⟨a0, a1, a2, a3, a4, a5, a6, a7, a8, a9, a10, a11, a12, a13⟩ := ((unhide HA).below (unhide HX) (by omega)).all
  obtain ⟨c0, c1⟩ := ((unhide HM).below (unhide HX)).cells
  go_wp2_with fail
  refine (skey_any a.k.kind a.k.num a.k.flt a.k.str a.k.ref _).mono ?_
  rw [keyV_parts, unhide EKC, unhide EKV]
  rintro e w4 ⟨rfl, hb4⟩
  clear zz za zr zc a0 a1 a2 a3 a4 a5 a6 a7 a8 a9 a10 a11 a12 a13 c0 c1
  have HX := hide ((unhide HX).trans (hb4.mono (unhide HX).size))
  clear hb4
  have zz := (unhide HX).size
  have za : w.heap.size < w4.heap.size := by omega
  have zr : w.heap.size + 1 < w4.heap.size := by omega
  have zc : c < w4.heap.size := by omega
  obtain ⟨a0, a1, a2, a3, a4, a5, a6, a7, a8, a9, a10, a11, a12, a13⟩ := ((unhide HA).below (unhide HX) (by omega)).all
  obtain ⟨c0, c1⟩ := ((unhide HM).below (unhide HX)).cells
  rw [unhide ET] at a1
  have HXK : Hid (Below W.heap.size W (w4.alloc (.cells #[.int .i64 kc, .int .i64 kv.kind, .int .i64 kv.num, .float .f64 kv.flt, .string kv.str, .int .i64 kv.ref] 68))) := hide ((unhide HX).alloc (unhide HX).size _)
  go_wp2_with fail
  refine (l5get_any c B t _ _ U D kv _ ((unhide HM).below (unhide HXK)) h2 (unhide HG)).mono ?_
  rintro e w5 ⟨rfl, hb5⟩
  clear zz za zr zc a0 a1 a2 a3 a4 a5 a6 a7 a8 a9 a10 a11 a12 a13 c0 c1
  have HX := hide ((unhide HXK).trans (hb5.mono (unhide HXK).size))
  clear hb5
  generalize (D.T t).get kv = x at *
  have zz := (unhide HX).size
  have za : w.heap.size < w5.heap.size := by omega
  have zr : w.heap.size + 1 < w5.heap.size := by omega
  have zc : c < w5.heap.size := by omega
  obtain ⟨r0, r1, r2, r3, r4, r5, r6, r7, r8, r9, r10, r11⟩ := ((unhide HQ).below (unhide HX) (by omega)).all
  have fr := ((unhide HQ).below (unhide HX) (by omega)).frozen
  go_wp2_with fail
  refine bodyPost_ret (v := AnV (ansV x)) (by simp [results, Tryz.results14, go_sem, zr, r0, r1, r2, r3, r4, r5, r6, r7, r8, r9, r10, r11, ansC, ansN, ansV]) rfl ?_
  rw [(unhide HRES).1, (unhide HRES).2]
  obtain ⟨m, d⟩ := fin12 rfl (ansV x) (unhide HB) (unhide HO) (by omega) hz ((unhide HM).below (unhide HX)) (Dst.of_below (unhide HX))
  exact ⟨rfl, _, _, _, m, d⟩

end Go.Proofs.YtnjgebncghdajaaGreatDoor
