/-
  AcB.
-/
import Derived.Test.YtnjgebncghdajaaGreatDoorAcAP
namespace Go.Proofs.YtnjgebncghdajaaGreatDoor
open Go.RowKit
set_option linter.unusedVariables false
attribute [local go_sem] run_store_float run_equalIn_float

set_option maxRecDepth 100000 in
set_option maxHeartbeats 8000000 in
theorem specActOk (a : Ac) (w : World) :
    Calls Tryz.prog 27 #[AcV a] w fun e w' => e = .returned (.bool (actB a)) ∧ Below w.heap.size w w' := by
  have hb0 : Below w.heap.size w (w.alloc (.cells #[.int .i64 a.op, .int .i64 a.t, .int .i64 a.site, .int .i64 a.n, .int .i64 a.k.kind, .int .i64 a.k.num, .float .f64 a.k.flt, .string a.k.str, .int .i64 a.k.ref, .int .i64 a.v.kind, .int .i64 a.v.num, .float .f64 a.v.flt, .string a.v.str, .int .i64 a.v.ref] 48)) := (Below.refl _ _).alloc (Nat.le_refl _) _
  have HB := hide hb0
  clear hb0
  cases t0 : decide (a.t < 0)
  case true =>
    have HT : Hid (actB a = false) := hide (by unfold actB rngB; rw [t0]; simp)
    go_enter Tryz.func27, Tryz.ntmps27
    go_wp2
    go_ret
    exact ⟨by rw [unhide HT]; rfl, unhide HB⟩
  cases t1 : decide (100 ≤ a.t)
  case true =>
    have HT : Hid (actB a = false) := hide (by unfold actB rngB; rw [t0, t1]; simp)
    go_enter Tryz.func27, Tryz.ntmps27
    go_wp2
    go_ret
    exact ⟨by rw [unhide HT]; rfl, unhide HB⟩
  cases t2 : decide (a.site < 0)
  case true =>
    have HT : Hid (actB a = false) := hide (by unfold actB rngB; rw [t0, t1, t2]; simp)
    go_enter Tryz.func27, Tryz.ntmps27
    go_wp2
    go_ret
    exact ⟨by rw [unhide HT]; rfl, unhide HB⟩
  cases t3 : decide (50 ≤ a.site)
  case true =>
    have HT : Hid (actB a = false) := hide (by unfold actB rngB; rw [t0, t1, t2, t3]; simp)
    go_enter Tryz.func27, Tryz.ntmps27
    go_wp2
    go_ret
    exact ⟨by rw [unhide HT]; rfl, unhide HB⟩
  cases t4 : decide (a.n < 0)
  case true =>
    have HT : Hid (actB a = false) := hide (by unfold actB rngB; rw [t0, t1, t2, t3, t4]; simp)
    go_enter Tryz.func27, Tryz.ntmps27
    go_wp2
    go_ret
    exact ⟨by rw [unhide HT]; rfl, unhide HB⟩
  cases t5 : decide (1000000000000 < a.n)
  case true =>
    have HT : Hid (actB a = false) := hide (by unfold actB rngB; rw [t0, t1, t2, t3, t4, t5]; simp)
    go_enter Tryz.func27, Tryz.ntmps27
    go_wp2
    go_ret
    exact ⟨by rw [unhide HT]; rfl, unhide HB⟩
  cases t6 : a.k.ok
  case false =>
    have HT : Hid (actB a = false) := hide (by unfold actB rngB; rw [t0, t1, t2, t3, t4, t5, t6]; simp)
    go_enter Tryz.func27, Tryz.ntmps27
    go_wp2_with fail
    refine ((show validB a.k.kind a.k.num a.k.flt a.k.str a.k.ref = _ from t6) ▸ valueOk_any a.k.kind a.k.num a.k.flt a.k.str a.k.ref _).mono ?_
    rintro e w6 ⟨rfl, hb⟩
    obtain ⟨hc6, hf6⟩ := bcell hb
    have hz6 := hb.size
    try simp at hz6
    have y6 : w.heap.size < w6.heap.size := by omega
    have HB := hide ((unhide HB).trans (hb.mono (unhide HB).size))
    clear hb
    go_wp2_with fail
    go_ret
    exact ⟨by rw [unhide HT]; rfl, unhide HB⟩
  cases t7 : a.v.ok
  case false =>
    have HT : Hid (actB a = false) := hide (by unfold actB rngB; rw [t0, t1, t2, t3, t4, t5, t6, t7]; simp)
    go_enter Tryz.func27, Tryz.ntmps27
    go_wp2_with fail
    refine ((show validB a.k.kind a.k.num a.k.flt a.k.str a.k.ref = _ from t6) ▸ valueOk_any a.k.kind a.k.num a.k.flt a.k.str a.k.ref _).mono ?_
    rintro e w6 ⟨rfl, hb⟩
    obtain ⟨hc6, hf6⟩ := bcell hb
    have hz6 := hb.size
    try simp at hz6
    have y6 : w.heap.size < w6.heap.size := by omega
    have HB := hide ((unhide HB).trans (hb.mono (unhide HB).size))
    clear hb
    go_wp2_with fail
    refine ((show validB a.v.kind a.v.num a.v.flt a.v.str a.v.ref = _ from t7) ▸ valueOk_any a.v.kind a.v.num a.v.flt a.v.str a.v.ref _).mono ?_
    rintro e w7 ⟨rfl, hb⟩
    obtain ⟨hc7, hf7⟩ := bcell hb
    have hz7 := hb.size
    try simp at hz7
    have y7 : w.heap.size < w7.heap.size := by omega
    have HB := hide ((unhide HB).trans (hb.mono (unhide HB).size))
    clear hb
    go_wp2_with fail
    go_ret
    exact ⟨by rw [unhide HT]; rfl, unhide HB⟩
  have hr : rngB a = true := by unfold rngB; rw [t0, t1, t2, t3, t4, t5, t6, t7]; rfl
  have HR := hide hr
  clear hr
  go_enter Tryz.func27, Tryz.ntmps27
  go_wp2_with fail
  refine ((show validB a.k.kind a.k.num a.k.flt a.k.str a.k.ref = _ from t6) ▸ valueOk_any a.k.kind a.k.num a.k.flt a.k.str a.k.ref _).mono ?_
  rintro e w6 ⟨rfl, hb⟩
  obtain ⟨hc6, hf6⟩ := bcell hb
  have hz6 := hb.size
  try simp at hz6
  have y6 : w.heap.size < w6.heap.size := by omega
  have HB := hide ((unhide HB).trans (hb.mono (unhide HB).size))
  clear hb
  go_wp2_with fail
  refine ((show validB a.v.kind a.v.num a.v.flt a.v.str a.v.ref = _ from t7) ▸ valueOk_any a.v.kind a.v.num a.v.flt a.v.str a.v.ref _).mono ?_
  rintro e w7 ⟨rfl, hb⟩
  obtain ⟨hc7, hf7⟩ := bcell hb
  have hz7 := hb.size
  try simp at hz7
  have y7 : w.heap.size < w7.heap.size := by omega
  have HB := hide ((unhide HB).trans (hb.mono (unhide HB).size))
  clear hb
  have hcB := hide (bcell (unhide HB))
  clear t0 t1 t2 t3 t4 t5 t6 t7
  by_cases o1 : a.op = 1
  · have HT : Hid (actB a = (bareB a false false false false false)) := hide (by unfold actB; rw [unhide HR]; simp [o1])
    have e1 : (a.op == 1) = true := by simp [o1]
    clear o1
    go_wp2_with fail
    refine (bare1 a _).mono ?_
    rintro e w9 ⟨rfl, hb⟩
    go_wp2_with fail
    go_ret
    exact ⟨by rw [unhide HT]; rfl, (unhide HB).trans (hb.mono (unhide HB).size)⟩
  by_cases o2 : a.op = 2
  · have HT : Hid (actB a = (bareB a true false false true true)) := hide (by unfold actB; rw [unhide HR]; simp [o2])
    have e1 : (a.op == 1) = false := by simp [o1]
    have e2 : (a.op == 2) = true := by simp [o2]
    clear o1 o2
    go_wp2_with fail
    refine (bare2 a _).mono ?_
    rintro e w9 ⟨rfl, hb⟩
    go_wp2_with fail
    go_ret
    exact ⟨by rw [unhide HT]; rfl, (unhide HB).trans (hb.mono (unhide HB).size)⟩
  by_cases o3 : a.op = 3
  · have HT : Hid (actB a = (bareB a true false false true false)) := hide (by unfold actB; rw [unhide HR]; simp [o3])
    have e1 : (a.op == 1) = false := by simp [o1]
    have e2 : (a.op == 2) = false := by simp [o2]
    have e3 : (a.op == 3) = true := by simp [o3]
    clear o1 o2 o3
    go_wp2_with fail
    refine (bare3 a _).mono ?_
    rintro e w9 ⟨rfl, hb⟩
    go_wp2_with fail
    go_ret
    exact ⟨by rw [unhide HT]; rfl, (unhide HB).trans (hb.mono (unhide HB).size)⟩
  by_cases o4 : a.op = 4
  · have HT : Hid (actB a = (bareB a true false true false false)) := hide (by unfold actB; rw [unhide HR]; simp [o4])
    have e1 : (a.op == 1) = false := by simp [o1]
    have e2 : (a.op == 2) = false := by simp [o2]
    have e3 : (a.op == 3) = false := by simp [o3]
    have e4 : (a.op == 4) = true := by simp [o4]
    clear o1 o2 o3 o4
    go_wp2_with fail
    refine (bare4 a _).mono ?_
    rintro e w9 ⟨rfl, hb⟩
    go_wp2_with fail
    go_ret
    exact ⟨by rw [unhide HT]; rfl, (unhide HB).trans (hb.mono (unhide HB).size)⟩
  by_cases o5 : a.op = 5
  · have HT : Hid (actB a = (bareB a true false false false false)) := hide (by unfold actB; rw [unhide HR]; simp [o5])
    have e1 : (a.op == 1) = false := by simp [o1]
    have e2 : (a.op == 2) = false := by simp [o2]
    have e3 : (a.op == 3) = false := by simp [o3]
    have e4 : (a.op == 4) = false := by simp [o4]
    have e5 : (a.op == 5) = true := by simp [o5]
    clear o1 o2 o3 o4 o5
    go_wp2_with fail
    refine (bare5 a _).mono ?_
    rintro e w9 ⟨rfl, hb⟩
    go_wp2_with fail
    go_ret
    exact ⟨by rw [unhide HT]; rfl, (unhide HB).trans (hb.mono (unhide HB).size)⟩
  by_cases o6 : a.op = 6
  · have HT : Hid (actB a = (bareB a true false false false false)) := hide (by unfold actB; rw [unhide HR]; simp [o6])
    have e1 : (a.op == 1) = false := by simp [o1]
    have e2 : (a.op == 2) = false := by simp [o2]
    have e3 : (a.op == 3) = false := by simp [o3]
    have e4 : (a.op == 4) = false := by simp [o4]
    have e5 : (a.op == 5) = false := by simp [o5]
    have e6 : (a.op == 6) = true := by simp [o6]
    clear o1 o2 o3 o4 o5 o6
    go_wp2_with fail
    refine (bare5 a _).mono ?_
    rintro e w9 ⟨rfl, hb⟩
    go_wp2_with fail
    go_ret
    exact ⟨by rw [unhide HT]; rfl, (unhide HB).trans (hb.mono (unhide HB).size)⟩
  by_cases o7 : a.op = 7
  · have HT : Hid (actB a = (bareB a false false false true false && a.k.kind == 4)) := hide (by unfold actB; rw [unhide HR]; simp [o7])
    have e1 : (a.op == 1) = false := by simp [o1]
    have e2 : (a.op == 2) = false := by simp [o2]
    have e3 : (a.op == 3) = false := by simp [o3]
    have e4 : (a.op == 4) = false := by simp [o4]
    have e5 : (a.op == 5) = false := by simp [o5]
    have e6 : (a.op == 6) = false := by simp [o6]
    have e7 : (a.op == 7) = true := by simp [o7]
    clear o1 o2 o3 o4 o5 o6 o7
    cases tb : bareB a false false false true false
    case false =>
      go_wp2_with fail
      refine (tb ▸ bare7 a _).mono ?_
      rintro e w9 ⟨rfl, hb⟩
      obtain ⟨hc9, hf9⟩ := bcell hb
      have HB := hide ((unhide HB).trans (hb.mono (unhide HB).size))
      clear hb
      go_wp2_with fail
      go_ret
      exact ⟨by rw [unhide HT, tb]; rfl, unhide HB⟩
    case true =>
      go_wp2_with fail
      refine (tb ▸ bare7 a _).mono ?_
      rintro e w9 ⟨rfl, hb⟩
      obtain ⟨hc9, hf9⟩ := bcell hb
      have HB := hide ((unhide HB).trans (hb.mono (unhide HB).size))
      clear hb
      go_wp2_with fail
      go_ret
      exact ⟨by rw [unhide HT, tb]; rfl, unhide HB⟩
  by_cases o8 : a.op = 8
  · have HT : Hid (actB a = (bareB a true true false false false)) := hide (by unfold actB; rw [unhide HR]; simp [o8])
    have e1 : (a.op == 1) = false := by simp [o1]
    have e2 : (a.op == 2) = false := by simp [o2]
    have e3 : (a.op == 3) = false := by simp [o3]
    have e4 : (a.op == 4) = false := by simp [o4]
    have e5 : (a.op == 5) = false := by simp [o5]
    have e6 : (a.op == 6) = false := by simp [o6]
    have e7 : (a.op == 7) = false := by simp [o7]
    have e8 : (a.op == 8) = true := by simp [o8]
    clear o1 o2 o3 o4 o5 o6 o7 o8
    go_wp2_with fail
    refine (bare8 a _).mono ?_
    rintro e w9 ⟨rfl, hb⟩
    go_wp2_with fail
    go_ret
    exact ⟨by rw [unhide HT]; rfl, (unhide HB).trans (hb.mono (unhide HB).size)⟩
  by_cases o9 : a.op = 9
  · have HT : Hid (actB a = (bareB a true true false false true)) := hide (by unfold actB; rw [unhide HR]; simp [o9])
    have e1 : (a.op == 1) = false := by simp [o1]
    have e2 : (a.op == 2) = false := by simp [o2]
    have e3 : (a.op == 3) = false := by simp [o3]
    have e4 : (a.op == 4) = false := by simp [o4]
    have e5 : (a.op == 5) = false := by simp [o5]
    have e6 : (a.op == 6) = false := by simp [o6]
    have e7 : (a.op == 7) = false := by simp [o7]
    have e8 : (a.op == 8) = false := by simp [o8]
    have e9 : (a.op == 9) = true := by simp [o9]
    clear o1 o2 o3 o4 o5 o6 o7 o8 o9
    go_wp2_with fail
    refine (bare9 a _).mono ?_
    rintro e w9 ⟨rfl, hb⟩
    go_wp2_with fail
    go_ret
    exact ⟨by rw [unhide HT]; rfl, (unhide HB).trans (hb.mono (unhide HB).size)⟩
  have e1 : (a.op == 1) = false := by simp [o1]
  have e2 : (a.op == 2) = false := by simp [o2]
  have e3 : (a.op == 3) = false := by simp [o3]
  have e4 : (a.op == 4) = false := by simp [o4]
  have e5 : (a.op == 5) = false := by simp [o5]
  have e6 : (a.op == 6) = false := by simp [o6]
  have e7 : (a.op == 7) = false := by simp [o7]
  have e8 : (a.op == 8) = false := by simp [o8]
  have e9 : (a.op == 9) = false := by simp [o9]
  have HT : Hid (actB a = false) := hide (by unfold actB; simp [o1, o2, o3, o4, o5, o6, o7, o8, o9])
  clear o1 o2 o3 o4 o5 o6 o7 o8 o9
  go_wp2_with fail
  go_ret
  exact ⟨by rw [unhide HT]; rfl, unhide HB⟩
end Go.Proofs.YtnjgebncghdajaaGreatDoor
