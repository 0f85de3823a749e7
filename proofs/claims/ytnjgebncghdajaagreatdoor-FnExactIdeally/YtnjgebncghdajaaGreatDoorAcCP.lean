/-
  AcC.
-/
import Derived.Test.YtnjgebncghdajaaGreatDoorBi11
import Derived.Deep.QuietTactic
import Derived.BigQuiet
namespace Go.Proofs.YtnjgebncghdajaaGreatDoor
open Go.RowKit
set_option linter.unusedVariables false
attribute [local go_sem] run_store_float run_equalIn_float

theorem isBelow_any (n lim nm : Int) (w : World) :
    Calls Tryz.prog 77 #[.int .i64 n, .int .i64 lim, .int .i64 nm] w fun e w' => e = .returned (.bool (belowB n lim nm)) ∧ w' = w := by
  by_cases h : nm = 0
  · have hd : (nm == 0) = true := by simp [h]
    have HT : Hid (belowB n lim nm = (decide (0 ≤ n) && decide (n < 1))) := hide (by unfold belowB; rw [if_pos h])
    clear h
    cases t : decide (0 ≤ n)
    · go_enter Tryz.func77, Tryz.ntmps77
      go_wp2
      go_ret
      exact ⟨by rw [unhide HT, t]; rfl, rfl⟩
    · go_enter Tryz.func77, Tryz.ntmps77
      go_wp2
      go_ret
      exact ⟨by rw [unhide HT, t]; rfl, rfl⟩
  · have hd : (nm == 0) = false := by simp [h]
    have HT : Hid (belowB n lim nm = (decide (0 ≤ n) && decide (n < lim))) := hide (by unfold belowB; rw [if_neg h])
    clear h
    cases t : decide (0 ≤ n)
    · go_enter Tryz.func77, Tryz.ntmps77
      go_wp2
      go_ret
      exact ⟨by rw [unhide HT, t]; rfl, rfl⟩
    · go_enter Tryz.func77, Tryz.ntmps77
      go_wp2
      go_ret
      exact ⟨by rw [unhide HT, t]; rfl, rfl⟩

set_option maxHeartbeats 1000000 in
theorem isOperand_any (v : Vl) (nm : Int) (w : World) :
    Calls Tryz.prog 78 #[V v.kind v.num v.flt v.str v.ref, .int .i64 nm] w fun e w' => e = .returned (.bool (operB v nm)) ∧ Below w.heap.size w w' := by
  have hb0 : Below w.heap.size w (w.alloc (.cells #[.int .i64 v.kind, .int .i64 v.num, .float .f64 v.flt, .string v.str, .int .i64 v.ref] 46)) := (Below.refl _ _).alloc (Nat.le_refl _) _
  have HB := hide hb0
  clear hb0
  cases t0 : v.ok
  · have HT : Hid (operB v nm = false) := hide (by unfold operB; rw [t0]; rfl)
    go_enter Tryz.func78, Tryz.ntmps78
    go_wp2_with fail
    refine ((show validB v.kind v.num v.flt v.str v.ref = _ from t0) ▸ isValid_any v.kind v.num v.flt v.str v.ref _).mono ?_
    rintro e w1 ⟨rfl, hb⟩
    go_wp2_with fail
    go_ret
    exact ⟨by rw [unhide HT]; rfl, (unhide HB).trans (hb.mono (unhide HB).size)⟩
  · by_cases h : nm = 0
    · have hd : (nm == 0) = true := by simp [h]
      have hd' : (nm != 0) = false := by simp [h]
      have HT : Hid (operB v nm = (v.kind == 0)) := hide (by unfold operB; rw [t0, hd']; rfl)
      clear h
      go_enter Tryz.func78, Tryz.ntmps78
      go_wp2_with fail
      refine ((show validB v.kind v.num v.flt v.str v.ref = _ from t0) ▸ isValid_any v.kind v.num v.flt v.str v.ref _).mono ?_
      rintro e w1 ⟨rfl, hb⟩
      obtain ⟨hc, hf⟩ := bcell hb
      have HB := hide ((unhide HB).trans (hb.mono (unhide HB).size))
      clear hb
      go_wp2_with fail
      go_ret
      exact ⟨by rw [unhide HT]; rfl, unhide HB⟩
    · have hd : (nm == 0) = false := by simp [h]
      have hd' : (nm != 0) = true := by simp [h]
      have HT : Hid (operB v nm = true) := hide (by unfold operB; rw [t0, hd']; rfl)
      clear h
      go_enter Tryz.func78, Tryz.ntmps78
      go_wp2_with fail
      refine ((show validB v.kind v.num v.flt v.str v.ref = _ from t0) ▸ isValid_any v.kind v.num v.flt v.str v.ref _).mono ?_
      rintro e w1 ⟨rfl, hb⟩
      obtain ⟨hc, hf⟩ := bcell hb
      have HB := hide ((unhide HB).trans (hb.mono (unhide HB).size))
      clear hb
      go_wp2_with fail
      go_ret
      exact ⟨by rw [unhide HT]; rfl, unhide HB⟩

theorem ix_deeds (op : Int) (h1 : 1 ≤ op) (h9 : op ≤ 9) : ∃ fn, ∀ w, (Instr.index 114 deedsV (.int .i64 op)).run Tryz.prog w = .ok (.agg #[.int .i64 (nmI op), fn]) w := by
  rcases (by omega : op = 1 ∨ op = 2 ∨ op = 3 ∨ op = 4 ∨ op = 5 ∨ op = 6 ∨ op = 7 ∨ op = 8 ∨ op = 9) with rfl | rfl | rfl | rfl | rfl | rfl | rfl | rfl | rfl
  · exact ⟨.func (.func 79) #[] #[], fun w => by kernel_rfl⟩
  · exact ⟨.func (.func 80) #[] #[], fun w => by kernel_rfl⟩
  · exact ⟨.func (.func 81) #[] #[], fun w => by kernel_rfl⟩
  · exact ⟨.func (.func 82) #[] #[], fun w => by kernel_rfl⟩
  · exact ⟨.func (.func 83) #[] #[], fun w => by kernel_rfl⟩
  · exact ⟨.func (.func 84) #[] #[], fun w => by kernel_rfl⟩
  · exact ⟨.func (.func 85) #[] #[], fun w => by kernel_rfl⟩
  · exact ⟨.func (.func 86) #[] #[], fun w => by kernel_rfl⟩
  · exact ⟨.func (.func 87) #[] #[], fun w => by kernel_rfl⟩

theorem fd_deed (x : Int) (fn : Value) (w : World) : (Instr.field 113 (.agg #[.int .i64 x, fn]) 0).run Tryz.prog w = .ok (.int .i64 x) w := by kernel_rfl

set_option maxRecDepth 100000 in
set_option maxHeartbeats 8000000 in
theorem implActOk (a : Ac) (w : World) :
    Calls Tryz.prog 61 #[AcV a] w fun e w' => e = .returned (.bool (actB a)) ∧ Below w.heap.size w w' := by
  obtain ⟨W, hW⟩ : ∃ W, W = w.alloc (.cells #[.int .i64 a.op, .int .i64 a.t, .int .i64 a.site, .int .i64 a.n, .int .i64 a.k.kind, .int .i64 a.k.num, .float .f64 a.k.flt, .string a.k.str, .int .i64 a.k.ref, .int .i64 a.v.kind, .int .i64 a.v.num, .float .f64 a.v.flt, .string a.v.str, .int .i64 a.v.ref] 48) := ⟨_, rfl⟩
  have hb0 : Below w.heap.size w W := by rw [hW]; exact (Below.refl _ _).alloc (Nat.le_refl _) _
  have c0 : W.cell? ⟨w.heap.size, 0, none⟩ = some (.int .i64 a.op) := by rw [hW]; simp [go_sem]
  have c1 : W.cell? ⟨w.heap.size, 1, none⟩ = some (.int .i64 a.t) := by rw [hW]; simp [go_sem]
  have c2 : W.cell? ⟨w.heap.size, 2, none⟩ = some (.int .i64 a.site) := by rw [hW]; simp [go_sem]
  have c3 : W.cell? ⟨w.heap.size, 3, none⟩ = some (.int .i64 a.n) := by rw [hW]; simp [go_sem]
  have c4 : W.cell? ⟨w.heap.size, 4, none⟩ = some (.int .i64 a.k.kind) := by rw [hW]; simp [go_sem]
  have c5 : W.cell? ⟨w.heap.size, 5, none⟩ = some (.int .i64 a.k.num) := by rw [hW]; simp [go_sem]
  have c6 : W.cell? ⟨w.heap.size, 6, none⟩ = some (.float .f64 a.k.flt) := by rw [hW]; simp [go_sem]
  have c7 : W.cell? ⟨w.heap.size, 7, none⟩ = some (.string a.k.str) := by rw [hW]; simp [go_sem]
  have c8 : W.cell? ⟨w.heap.size, 8, none⟩ = some (.int .i64 a.k.ref) := by rw [hW]; simp [go_sem]
  have c9 : W.cell? ⟨w.heap.size, 9, none⟩ = some (.int .i64 a.v.kind) := by rw [hW]; simp [go_sem]
  have c10 : W.cell? ⟨w.heap.size, 10, none⟩ = some (.int .i64 a.v.num) := by rw [hW]; simp [go_sem]
  have c11 : W.cell? ⟨w.heap.size, 11, none⟩ = some (.float .f64 a.v.flt) := by rw [hW]; simp [go_sem]
  have c12 : W.cell? ⟨w.heap.size, 12, none⟩ = some (.string a.v.str) := by rw [hW]; simp [go_sem]
  have c13 : W.cell? ⟨w.heap.size, 13, none⟩ = some (.int .i64 a.v.ref) := by rw [hW]; simp [go_sem]
  have hzW : w.heap.size < W.heap.size := by rw [hW]; simp
  have HB := hide hb0
  clear hb0
  by_cases h1 : a.op < 1
  · have hd : decide (a.op < 1) = true := by simp [h1]
    have HT : Hid (actB a = false) := hide (by unfold actB; simp [show a.op ≠ 1 by omega, show a.op ≠ 2 by omega, show a.op ≠ 3 by omega, show a.op ≠ 4 by omega, show a.op ≠ 5 by omega, show a.op ≠ 6 by omega, show a.op ≠ 7 by omega, show a.op ≠ 8 by omega, show a.op ≠ 9 by omega])
    clear h1
    go_enter Tryz.func61, Tryz.ntmps61
    go_wp2_with fail
    go_ret
    exact ⟨by rw [unhide HT]; rfl, by rw [← hW]; exact unhide HB⟩
  have hd : decide (a.op < 1) = false := by simp [h1]
  by_cases h9 : 9 < a.op
  · have hd' : decide (9 < a.op) = true := by simp [h9]
    have HT : Hid (actB a = false) := hide (by unfold actB; simp [show a.op ≠ 1 by omega, show a.op ≠ 2 by omega, show a.op ≠ 3 by omega, show a.op ≠ 4 by omega, show a.op ≠ 5 by omega, show a.op ≠ 6 by omega, show a.op ≠ 7 by omega, show a.op ≠ 8 by omega, show a.op ≠ 9 by omega])
    clear h1 h9
    go_enter Tryz.func61, Tryz.ntmps61
    go_wp2_with fail
    go_ret
    exact ⟨by rw [unhide HT]; rfl, by rw [← hW]; exact unhide HB⟩
  have hd' : decide (9 < a.op) = false := by simp [h9]
  obtain ⟨fn, hix⟩ := ix_deeds a.op (by omega) (by omega)
  have hfd := fd_deed
  have HR : Hid (1 ≤ a.op ∧ a.op ≤ 9) := hide ⟨by omega, by omega⟩
  clear h1 h9
  go_enter Tryz.func61, Tryz.ntmps61
  go_wp2_with fail
  rw [← hW]
  clear hW
  refine wp_region_quiet (C := fun w' => Below W.heap.size W w') (by kernel_rfl) (by kernel_rfl) ((Below.refl _ _).drew) ?_
  show wpQuiet _ _ _ _ [_, _, _, _, _, _] _
  refine wpQuiet_step (fun K hK => ?_)
  go_simp
  apply Exists.intro
  refine And.intro (fun w' hw' => ?_) (hK _ ?_)
  · refine (deeds_any _).mono ?_
    rintro e w'' ⟨rfl, hb⟩
    exact ⟨rfl, hw'.trans (hb.mono hw'.size)⟩
  clear hK K
  refine wpQuiet_step (fun K hK => ?_)
  go_simp
  refine ⟨_, fun w' hw' => rfl, hK _ ?_⟩
  clear hK K
  refine wpQuiet_step (fun K hK => ?_)
  go_simp
  apply Exists.intro
  refine And.intro (fun w' hw' => ?_) (hK _ ?_)
  · obtain ⟨hc', hf'⟩ := bcell hw'
    go_simp
    first | rfl | exact ⟨rfl, rfl⟩ | exact ⟨rfl⟩
  clear hK K
  refine wpQuiet_step (fun K hK => ?_)
  go_simp
  apply Exists.intro
  refine And.intro (fun w' hw' => ?_) (hK _ ?_)
  · rfl
  clear hK K
  refine wpQuiet_step (fun K hK => ?_)
  go_simp
  apply Exists.intro
  refine And.intro (fun w' hw' => ?_) (hK _ ?_)
  · rfl
  clear hK K
  refine wpQuiet_step (fun K hK => ?_)
  go_simp
  refine ⟨_, fun w' hw' => rfl, hK _ ?_⟩
  clear hK K
  refine wpQuiet_nil ?_
  intro w1 hb1
  obtain ⟨hc1, hf1⟩ := bcell hb1
  have e0 := (hc1 _ _ hzW).trans c0
  have e1 := (hc1 _ _ hzW).trans c1
  have e2 := (hc1 _ _ hzW).trans c2
  have e3 := (hc1 _ _ hzW).trans c3
  have e4 := (hc1 _ _ hzW).trans c4
  have e5 := (hc1 _ _ hzW).trans c5
  have e6 := (hc1 _ _ hzW).trans c6
  have e7 := (hc1 _ _ hzW).trans c7
  have e8 := (hc1 _ _ hzW).trans c8
  have e9 := (hc1 _ _ hzW).trans c9
  have e10 := (hc1 _ _ hzW).trans c10
  have e11 := (hc1 _ _ hzW).trans c11
  have e12 := (hc1 _ _ hzW).trans c12
  have e13 := (hc1 _ _ hzW).trans c13
  have hz1 : w.heap.size < w1.heap.size := Nat.lt_of_lt_of_le hzW hb1.size
  have HB := hide ((unhide HB).trans (hb1.mono (unhide HB).size))
  clear hb1 hc1 hf1 c0 c1 c2 c3 c4 c5 c6 c7 c8 c9 c10 c11 c12 c13 hzW hd hd' hix hfd
  have HQ := hide (implB_eq a (unhide HR).1 (unhide HR).2)
  cases t0 : belowB a.t 100 (bt a.op 1)
  case false =>
    have HT : Hid (actB a = false) := hide (by rw [← unhide HQ]; unfold implB; simp [t0])
    go_wp2_with fail
    refine (t0 ▸ isBelow_any a.t 100 (bt a.op 1) _).mono ?_
    rintro e w2 ⟨rfl, rfl⟩
    go_wp2_with fail
    go_ret
    exact ⟨by rw [unhide HT]; rfl, unhide HB⟩
  cases t1 : belowB a.site 50 (bt a.op 2)
  case false =>
    have HT : Hid (actB a = false) := hide (by rw [← unhide HQ]; unfold implB; simp [t1])
    go_wp2_with fail
    refine (t0 ▸ isBelow_any a.t 100 (bt a.op 1) _).mono ?_
    rintro e w2 ⟨rfl, rfl⟩
    go_wp2_with fail
    refine (t1 ▸ isBelow_any a.site 50 (bt a.op 2) _).mono ?_
    rintro e w3 ⟨rfl, rfl⟩
    go_wp2_with fail
    go_ret
    exact ⟨by rw [unhide HT]; rfl, unhide HB⟩
  cases t2 : belowB a.n 1000000000001 (bt a.op 4)
  case false =>
    have HT : Hid (actB a = false) := hide (by rw [← unhide HQ]; unfold implB; simp [t2])
    go_wp2_with fail
    refine (t0 ▸ isBelow_any a.t 100 (bt a.op 1) _).mono ?_
    rintro e w2 ⟨rfl, rfl⟩
    go_wp2_with fail
    refine (t1 ▸ isBelow_any a.site 50 (bt a.op 2) _).mono ?_
    rintro e w3 ⟨rfl, rfl⟩
    go_wp2_with fail
    refine (t2 ▸ isBelow_any a.n 1000000000001 (bt a.op 4) _).mono ?_
    rintro e w4 ⟨rfl, rfl⟩
    go_wp2_with fail
    go_ret
    exact ⟨by rw [unhide HT]; rfl, unhide HB⟩
  cases t3 : operB a.k (bt a.op 8)
  case false =>
    have HT : Hid (actB a = false) := hide (by rw [← unhide HQ]; unfold implB; simp [t3])
    go_wp2_with fail
    refine (t0 ▸ isBelow_any a.t 100 (bt a.op 1) _).mono ?_
    rintro e w2 ⟨rfl, rfl⟩
    go_wp2_with fail
    refine (t1 ▸ isBelow_any a.site 50 (bt a.op 2) _).mono ?_
    rintro e w3 ⟨rfl, rfl⟩
    go_wp2_with fail
    refine (t2 ▸ isBelow_any a.n 1000000000001 (bt a.op 4) _).mono ?_
    rintro e w4 ⟨rfl, rfl⟩
    go_wp2_with fail
    refine (t3 ▸ isOperand_any a.k (bt a.op 8) _).mono ?_
    rintro e w5 ⟨rfl, hb⟩
    obtain ⟨hc, hf⟩ := bcell hb
    have e0 := (hc _ _ hz1).trans e0
    have e1 := (hc _ _ hz1).trans e1
    have e2 := (hc _ _ hz1).trans e2
    have e3 := (hc _ _ hz1).trans e3
    have e4 := (hc _ _ hz1).trans e4
    have e5 := (hc _ _ hz1).trans e5
    have e6 := (hc _ _ hz1).trans e6
    have e7 := (hc _ _ hz1).trans e7
    have e8 := (hc _ _ hz1).trans e8
    have e9 := (hc _ _ hz1).trans e9
    have e10 := (hc _ _ hz1).trans e10
    have e11 := (hc _ _ hz1).trans e11
    have e12 := (hc _ _ hz1).trans e12
    have e13 := (hc _ _ hz1).trans e13
    have hz1 := Nat.lt_of_lt_of_le hz1 hb.size
    have HB := hide ((unhide HB).trans (hb.mono (unhide HB).size))
    clear hb hc hf
    go_wp2_with fail
    go_ret
    exact ⟨by rw [unhide HT]; rfl, unhide HB⟩
  cases t4 : operB a.v (bt a.op 16)
  case false =>
    have HT : Hid (actB a = false) := hide (by rw [← unhide HQ]; unfold implB; simp [t4])
    go_wp2_with fail
    refine (t0 ▸ isBelow_any a.t 100 (bt a.op 1) _).mono ?_
    rintro e w2 ⟨rfl, rfl⟩
    go_wp2_with fail
    refine (t1 ▸ isBelow_any a.site 50 (bt a.op 2) _).mono ?_
    rintro e w3 ⟨rfl, rfl⟩
    go_wp2_with fail
    refine (t2 ▸ isBelow_any a.n 1000000000001 (bt a.op 4) _).mono ?_
    rintro e w4 ⟨rfl, rfl⟩
    go_wp2_with fail
    refine (t3 ▸ isOperand_any a.k (bt a.op 8) _).mono ?_
    rintro e w5 ⟨rfl, hb⟩
    obtain ⟨hc, hf⟩ := bcell hb
    have e0 := (hc _ _ hz1).trans e0
    have e1 := (hc _ _ hz1).trans e1
    have e2 := (hc _ _ hz1).trans e2
    have e3 := (hc _ _ hz1).trans e3
    have e4 := (hc _ _ hz1).trans e4
    have e5 := (hc _ _ hz1).trans e5
    have e6 := (hc _ _ hz1).trans e6
    have e7 := (hc _ _ hz1).trans e7
    have e8 := (hc _ _ hz1).trans e8
    have e9 := (hc _ _ hz1).trans e9
    have e10 := (hc _ _ hz1).trans e10
    have e11 := (hc _ _ hz1).trans e11
    have e12 := (hc _ _ hz1).trans e12
    have e13 := (hc _ _ hz1).trans e13
    have hz1 := Nat.lt_of_lt_of_le hz1 hb.size
    have HB := hide ((unhide HB).trans (hb.mono (unhide HB).size))
    clear hb hc hf
    go_wp2_with fail
    refine (t4 ▸ isOperand_any a.v (bt a.op 16) _).mono ?_
    rintro e w6 ⟨rfl, hb⟩
    obtain ⟨hc, hf⟩ := bcell hb
    have e0 := (hc _ _ hz1).trans e0
    have e1 := (hc _ _ hz1).trans e1
    have e2 := (hc _ _ hz1).trans e2
    have e3 := (hc _ _ hz1).trans e3
    have e4 := (hc _ _ hz1).trans e4
    have e5 := (hc _ _ hz1).trans e5
    have e6 := (hc _ _ hz1).trans e6
    have e7 := (hc _ _ hz1).trans e7
    have e8 := (hc _ _ hz1).trans e8
    have e9 := (hc _ _ hz1).trans e9
    have e10 := (hc _ _ hz1).trans e10
    have e11 := (hc _ _ hz1).trans e11
    have e12 := (hc _ _ hz1).trans e12
    have e13 := (hc _ _ hz1).trans e13
    have hz1 := Nat.lt_of_lt_of_le hz1 hb.size
    have HB := hide ((unhide HB).trans (hb.mono (unhide HB).size))
    clear hb hc hf
    go_wp2_with fail
    go_ret
    exact ⟨by rw [unhide HT]; rfl, unhide HB⟩
  have HT : Hid (actB a = (a.op != 7 || a.k.kind == 4)) := hide (by rw [← unhide HQ]; unfold implB; rw [t0, t1, t2, t3, t4]; rfl)
  by_cases h7 : a.op = 7
  · have o1 : (a.op == 7) = true := by simp [h7]
    have o2 : (a.op != 7) = false := by simp [h7]
    have HT : Hid (actB a = (a.k.kind == 4)) := hide (by rw [unhide HT, o2]; rfl)
    clear h7
    go_wp2_with fail
    refine (t0 ▸ isBelow_any a.t 100 (bt a.op 1) _).mono ?_
    rintro e w2 ⟨rfl, rfl⟩
    go_wp2_with fail
    refine (t1 ▸ isBelow_any a.site 50 (bt a.op 2) _).mono ?_
    rintro e w3 ⟨rfl, rfl⟩
    go_wp2_with fail
    refine (t2 ▸ isBelow_any a.n 1000000000001 (bt a.op 4) _).mono ?_
    rintro e w4 ⟨rfl, rfl⟩
    go_wp2_with fail
    refine (t3 ▸ isOperand_any a.k (bt a.op 8) _).mono ?_
    rintro e w5 ⟨rfl, hb⟩
    obtain ⟨hc, hf⟩ := bcell hb
    have e0 := (hc _ _ hz1).trans e0
    have e1 := (hc _ _ hz1).trans e1
    have e2 := (hc _ _ hz1).trans e2
    have e3 := (hc _ _ hz1).trans e3
    have e4 := (hc _ _ hz1).trans e4
    have e5 := (hc _ _ hz1).trans e5
    have e6 := (hc _ _ hz1).trans e6
    have e7 := (hc _ _ hz1).trans e7
    have e8 := (hc _ _ hz1).trans e8
    have e9 := (hc _ _ hz1).trans e9
    have e10 := (hc _ _ hz1).trans e10
    have e11 := (hc _ _ hz1).trans e11
    have e12 := (hc _ _ hz1).trans e12
    have e13 := (hc _ _ hz1).trans e13
    have hz1 := Nat.lt_of_lt_of_le hz1 hb.size
    have HB := hide ((unhide HB).trans (hb.mono (unhide HB).size))
    clear hb hc hf
    go_wp2_with fail
    refine (t4 ▸ isOperand_any a.v (bt a.op 16) _).mono ?_
    rintro e w6 ⟨rfl, hb⟩
    obtain ⟨hc, hf⟩ := bcell hb
    have e0 := (hc _ _ hz1).trans e0
    have e1 := (hc _ _ hz1).trans e1
    have e2 := (hc _ _ hz1).trans e2
    have e3 := (hc _ _ hz1).trans e3
    have e4 := (hc _ _ hz1).trans e4
    have e5 := (hc _ _ hz1).trans e5
    have e6 := (hc _ _ hz1).trans e6
    have e7 := (hc _ _ hz1).trans e7
    have e8 := (hc _ _ hz1).trans e8
    have e9 := (hc _ _ hz1).trans e9
    have e10 := (hc _ _ hz1).trans e10
    have e11 := (hc _ _ hz1).trans e11
    have e12 := (hc _ _ hz1).trans e12
    have e13 := (hc _ _ hz1).trans e13
    have hz1 := Nat.lt_of_lt_of_le hz1 hb.size
    have HB := hide ((unhide HB).trans (hb.mono (unhide HB).size))
    clear hb hc hf
    go_wp2_with fail
    go_ret
    exact ⟨by rw [unhide HT]; rfl, unhide HB⟩
  · have o1 : (a.op == 7) = false := by simp [h7]
    have o2 : (a.op != 7) = true := by simp [h7]
    have HT : Hid (actB a = true) := hide (by rw [unhide HT, o2]; rfl)
    clear h7
    go_wp2_with fail
    refine (t0 ▸ isBelow_any a.t 100 (bt a.op 1) _).mono ?_
    rintro e w2 ⟨rfl, rfl⟩
    go_wp2_with fail
    refine (t1 ▸ isBelow_any a.site 50 (bt a.op 2) _).mono ?_
    rintro e w3 ⟨rfl, rfl⟩
    go_wp2_with fail
    refine (t2 ▸ isBelow_any a.n 1000000000001 (bt a.op 4) _).mono ?_
    rintro e w4 ⟨rfl, rfl⟩
    go_wp2_with fail
    refine (t3 ▸ isOperand_any a.k (bt a.op 8) _).mono ?_
    rintro e w5 ⟨rfl, hb⟩
    obtain ⟨hc, hf⟩ := bcell hb
    have e0 := (hc _ _ hz1).trans e0
    have e1 := (hc _ _ hz1).trans e1
    have e2 := (hc _ _ hz1).trans e2
    have e3 := (hc _ _ hz1).trans e3
    have e4 := (hc _ _ hz1).trans e4
    have e5 := (hc _ _ hz1).trans e5
    have e6 := (hc _ _ hz1).trans e6
    have e7 := (hc _ _ hz1).trans e7
    have e8 := (hc _ _ hz1).trans e8
    have e9 := (hc _ _ hz1).trans e9
    have e10 := (hc _ _ hz1).trans e10
    have e11 := (hc _ _ hz1).trans e11
    have e12 := (hc _ _ hz1).trans e12
    have e13 := (hc _ _ hz1).trans e13
    have hz1 := Nat.lt_of_lt_of_le hz1 hb.size
    have HB := hide ((unhide HB).trans (hb.mono (unhide HB).size))
    clear hb hc hf
    go_wp2_with fail
    refine (t4 ▸ isOperand_any a.v (bt a.op 16) _).mono ?_
    rintro e w6 ⟨rfl, hb⟩
    obtain ⟨hc, hf⟩ := bcell hb
    have e0 := (hc _ _ hz1).trans e0
    have e1 := (hc _ _ hz1).trans e1
    have e2 := (hc _ _ hz1).trans e2
    have e3 := (hc _ _ hz1).trans e3
    have e4 := (hc _ _ hz1).trans e4
    have e5 := (hc _ _ hz1).trans e5
    have e6 := (hc _ _ hz1).trans e6
    have e7 := (hc _ _ hz1).trans e7
    have e8 := (hc _ _ hz1).trans e8
    have e9 := (hc _ _ hz1).trans e9
    have e10 := (hc _ _ hz1).trans e10
    have e11 := (hc _ _ hz1).trans e11
    have e12 := (hc _ _ hz1).trans e12
    have e13 := (hc _ _ hz1).trans e13
    have hz1 := Nat.lt_of_lt_of_le hz1 hb.size
    have HB := hide ((unhide HB).trans (hb.mono (unhide HB).size))
    clear hb hc hf
    go_wp2_with fail
    go_ret
    exact ⟨by rw [unhide HT]; rfl, unhide HB⟩
end Go.Proofs.YtnjgebncghdajaaGreatDoor
