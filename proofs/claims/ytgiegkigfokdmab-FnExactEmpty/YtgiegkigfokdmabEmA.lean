/-
  The empty store, made by both sides; stores with a forest and nothing else.
-/
import Derived.Test.YtgiegkigfokdmabFoK
namespace Go.Proofs.Ytgiegkigfokdmab
open Go.RowKit
set_option linter.unusedVariables false

abbrev f1 : Nat → Shp := fun _ => ⟨-1, ⟨#[]⟩, 0⟩
abbrev ES (v : Value) : Value := .agg #[v, .slice none 0 0, .slice none 0 0]
abbrev SB (b : Nat) : Value := .slice (some ⟨b, 0, none⟩) 1 1

set_option maxHeartbeats 1000000 in
set_option maxRecDepth 100000 in
theorem markTableS_nil (k : Int) (w : World) :
    Calls Try.prog 51 #[.slice none 0 0, .int .i64 k] w fun e w' => e = .returned (.int .i64 k) ∧ w' = w := by
  go_enter Try.func51, Try.ntmps51
  go_wp2
  go_loopw [1, 5] (fun q i wr => q = .int .i64 k ∧ i = .int .i64 0 ∧ wr = w) (fun _ _ _ => 0)
  case atStart => exact ⟨rfl, rfl, rfl⟩
  case round =>
    obtain ⟨rfl, rfl, rfl⟩ := hrel
    go_wp2
    go_ret
    exact ⟨rfl, rfl⟩

set_option maxHeartbeats 1000000 in
set_option maxRecDepth 100000 in
theorem markSiteS_nil (k : Int) (w : World) :
    Calls Try.prog 52 #[.slice none 0 0, .int .i64 k] w fun e w' => e = .returned (.int .i64 k) ∧ w' = w := by
  go_enter Try.func52, Try.ntmps52
  go_wp2
  go_loopw [1, 5] (fun q i wr => q = .int .i64 k ∧ i = .int .i64 0 ∧ wr = w) (fun _ _ _ => 0)
  case atStart => exact ⟨rfl, rfl, rfl⟩
  case round =>
    obtain ⟨rfl, rfl, rfl⟩ := hrel
    go_wp2
    go_ret
    exact ⟨rfl, rfl⟩

set_option maxHeartbeats 1000000 in
set_option maxRecDepth 100000 in
theorem heldTableS_nil (k : Int) (w : World) :
    Calls Try.prog 53 #[.slice none 0 0, .int .i64 k] w fun e w' => e = .returned (.int .i64 k) ∧ w' = w := by
  go_enter Try.func53, Try.ntmps53
  go_wp2
  go_loopw [1, 5] (fun q i wr => q = .int .i64 k ∧ i = .int .i64 0 ∧ wr = w) (fun _ _ _ => 0)
  case atStart => exact ⟨rfl, rfl, rfl⟩
  case round =>
    obtain ⟨rfl, rfl, rfl⟩ := hrel
    go_wp2
    go_ret
    exact ⟨rfl, rfl⟩

set_option maxHeartbeats 1000000 in
set_option maxRecDepth 100000 in
theorem heldSiteS_nil (k : Int) (w : World) :
    Calls Try.prog 54 #[.slice none 0 0, .int .i64 k] w fun e w' => e = .returned (.int .i64 k) ∧ w' = w := by
  go_enter Try.func54, Try.ntmps54
  go_wp2
  go_loopw [1, 5] (fun q i wr => q = .int .i64 k ∧ i = .int .i64 0 ∧ wr = w) (fun _ _ _ => 0)
  case atStart => exact ⟨rfl, rfl, rfl⟩
  case round =>
    obtain ⟨rfl, rfl, rfl⟩ := hrel
    go_wp2
    go_ret
    exact ⟨rfl, rfl⟩

set_option maxHeartbeats 1000000 in
set_option maxRecDepth 100000 in
theorem eqTableS_nil (w : World) :
    Calls Try.prog 49 #[.slice none 0 0, .slice none 0 0] w fun e w' => e = .returned (.bool true) ∧ w' = w := by
  go_enter Try.func49, Try.ntmps49
  go_wp2
  go_loopw [5] (fun i wr => i = .int .i64 0 ∧ wr = w) (fun _ _ => 0)
  case atStart => exact ⟨rfl, rfl⟩
  case round =>
    obtain ⟨rfl, rfl⟩ := hrel
    go_wp2
    go_ret
    exact ⟨rfl, rfl⟩

set_option maxHeartbeats 1000000 in
set_option maxRecDepth 100000 in
theorem eqSiteS_nil (w : World) :
    Calls Try.prog 50 #[.slice none 0 0, .slice none 0 0] w fun e w' => e = .returned (.bool true) ∧ w' = w := by
  go_enter Try.func50, Try.ntmps50
  go_wp2
  go_loopw [5] (fun i wr => i = .int .i64 0 ∧ wr = w) (fun _ _ => 0)
  case atStart => exact ⟨rfl, rfl⟩
  case round =>
    obtain ⟨rfl, rfl⟩ := hrel
    go_wp2
    go_ret
    exact ⟨rfl, rfl⟩

theorem gv1 {w : World} {b lo hi : Nat} (h : w.rowIs b 56 3 (cellOf f1)) (h1 : lo ≤ b) (h2 : b < hi) : GV f1 1 w (SB b) lo hi :=
  .inr ⟨by omega, b, 1, rfl, h1, h2, 3, cellOf f1, by omega, h, fun _ _ => rfl⟩
theorem row1 (w : World) : (w.alloc (.cells #[.int .i64 (-1), .string ⟨#[]⟩, .int .i64 0] 56)).rowIs w.heap.size 56 3 (cellOf f1) :=
  World.rowIs_alloc w #[.int .i64 (-1), .string ⟨#[]⟩, .int .i64 0] 56 (cellOf f1) (fun i hi => by
    have : i < 3 := hi
    match i, this with
    | 0, _ => rfl
    | 1, _ => rfl
    | 2, _ => rfl)

set_option maxHeartbeats 1000000 in
theorem specEmpty1 (w : World) : Calls Try.prog 26 #[] w fun e w' => (∃ b, e = .returned (ES (SB b)) ∧ GV f1 1 w' (SB b) w.heap.size w'.heap.size) ∧ Below w.heap.size w w' := by
  go_enter Try.func26, Try.ntmps26
  go_wp2
  refine bodyPost_ret (v := ES (SB (w.heap.size + 1))) (by simp [results, Try.results26, go_sem]) rfl ⟨⟨w.heap.size + 1, rfl, gv1 ?_ (by omega) (by simp)⟩, ((Below.refl _ _).alloc (Nat.le_refl _) _).alloc (by simp) _⟩
  have h := row1 (w.alloc (.cells #[.slice (some ⟨w.heap.size + 1, 0, none⟩) 1 1, .slice none 0 0, .slice none 0 0] 49))
  rw [Deep.nblk_alloc] at h
  exact h

set_option maxHeartbeats 1000000 in
theorem root_any (w : World) : Calls Try.prog 48 #[] w fun e w' => e = .returned (.agg #[.int .i64 (-1), .string ⟨#[]⟩, .int .i64 0]) ∧ Below w.heap.size w w' := by
  go_enter Try.func48, Try.ntmps48
  go_wp2
  exact bodyPost_ret (v := .agg #[.int .i64 (-1), .string ⟨#[]⟩, .int .i64 0]) (by simp [results, Try.results48, go_sem]) rfl ⟨rfl, (Below.refl _ _).alloc (Nat.le_refl _) _⟩

set_option maxHeartbeats 1000000 in
theorem implEmpty1 (w : World) : Calls Try.prog 27 #[] w fun e w' => (∃ b, e = .returned (ES (SB b)) ∧ GV f1 1 w' (SB b) w.heap.size w'.heap.size) ∧ Below w.heap.size w w' := by
  have HB0 : Hid (Below w.heap.size w (w.alloc (.cells #[.slice none 0 0, .slice none 0 0, .slice none 0 0] 49))) := hide ((Below.refl _ _).alloc (Nat.le_refl _) _)
  go_enter Try.func27, Try.ntmps27
  go_wp2_with fail
  refine (root_any _).mono ?_
  rintro e w1 ⟨rfl, hb1⟩
  obtain ⟨hc1, hf1⟩ := bcell hb1
  have hz1 := hb1.size
  simp at hz1
  have y1 : w.heap.size < w1.heap.size := by omega
  have c0 : w1.cell? ⟨w.heap.size, 0, none⟩ = some (.slice none 0 0) := by rw [hc1 _ _ (by simp)]; simp [go_sem]
  have c1 : w1.cell? ⟨w.heap.size, 1, none⟩ = some (.slice none 0 0) := by rw [hc1 _ _ (by simp)]; simp [go_sem]
  have c2 : w1.cell? ⟨w.heap.size, 2, none⟩ = some (.slice none 0 0) := by rw [hc1 _ _ (by simp)]; simp [go_sem]
  have fr : ∀ o, w1.frozen? ⟨w.heap.size, o, none⟩ = false := fun o => by rw [hf1 _ _ (by simp)]; simp [go_sem]
  have HB1 := hide ((unhide HB0).trans (hb1.mono (by simp)))
  clear hb1 hc1 hf1
  go_wp2
  have h := row1 (((w1.setCell ⟨w.heap.size, 0, none⟩ (SB w1.heap.size)).setCell ⟨w.heap.size, 1, none⟩ (.slice none 0 0)).setCell ⟨w.heap.size, 2, none⟩ (.slice none 0 0))
  simp only [World.size_setCell] at h
  refine bodyPost_ret (v := ES (SB w1.heap.size)) (by simp [results, Try.results27, go_sem, World.cell?_alloc_lt, y1, c0, c1, c2]) rfl ⟨⟨w1.heap.size, rfl, gv1 h (by omega) (by simp)⟩, ?_⟩
  refine Below.alloc ?_ (by simp; omega) _
  iterate 3 (refine Below.setCell ?_ (by show w.heap.size ≤ w.heap.size; omega) _)
  exact unhide HB1

set_option maxHeartbeats 1000000 in
theorem eqStoreV {f : Nat → Shp} {n : Nat} {w : World} {v v' : Value} {lo hi lo' hi' : Nat} (h : GV f n w v lo hi) (h' : GV f n w v' lo' hi') (hn : n ≤ 1048576) (hh : hi ≤ w.heap.size) (hh' : hi' ≤ w.heap.size) :
    Calls Try.prog 28 #[ES v, ES v'] w fun e w' => e = .returned (.bool true) ∧ Below w.heap.size w w' := by
  obtain ⟨a, cp, rfl⟩ := h.form
  obtain ⟨a', cp', rfl⟩ := h'.form
  have hb0 : Below w.heap.size w ((w.alloc (.cells #[.slice a n cp, .slice none 0 0, .slice none 0 0] 49)).alloc (.cells #[.slice a' n cp', .slice none 0 0, .slice none 0 0] 49)) := ((Below.refl _ _).alloc (Nat.le_refl _) _).alloc (by simp) _
  have HV := hide (h.below hb0 hh)
  have HV' := hide (h'.below hb0 hh')
  clear h h'
  go_enter Try.func28, Try.ntmps28
  go_wp2_with fail
  refine (eqForestV (unhide HV) (unhide HV') hn (by simp; omega) (by simp; omega)).mono ?_
  rintro e w1 ⟨rfl, hb1⟩
  obtain ⟨hc1, hf1⟩ := bcell hb1
  have x0 : w1.cell? ⟨w.heap.size, 1, none⟩ = some (.slice none 0 0) := by rw [hc1 _ _ (by simp; omega)]; simp [go_sem]
  have x1 : w1.cell? ⟨w.heap.size + 1, 1, none⟩ = some (.slice none 0 0) := by rw [hc1 _ _ (by simp)]; simp [go_sem]
  have x2 : w1.cell? ⟨w.heap.size, 2, none⟩ = some (.slice none 0 0) := by rw [hc1 _ _ (by simp; omega)]; simp [go_sem]
  have x3 : w1.cell? ⟨w.heap.size + 1, 2, none⟩ = some (.slice none 0 0) := by rw [hc1 _ _ (by simp)]; simp [go_sem]
  have HB1 := hide (hb0.trans (hb1.mono hb0.size))
  clear hb0 hb1 hc1 hf1
  go_wp2_with fail
  refine (eqTableS_nil _).mono ?_
  rintro e w2 ⟨rfl, rfl⟩
  go_wp2_with fail
  refine (eqSiteS_nil _).mono ?_
  rintro e w2 ⟨rfl, rfl⟩
  go_wp2
  go_ret
  exact ⟨rfl, unhide HB1⟩

set_option maxHeartbeats 1000000 in
theorem markStoreV {f : Nat → Shp} {n : Nat} {w : World} {v : Value} {lo hi : Nat} (h : GV f n w v lo hi) (hn : n ≤ 1048576) (hh : hi ≤ w.heap.size) :
    Calls Try.prog 29 #[ES v, .int .i64 1] w fun e w' => (e = .returned (.int .i64 (1 + 3 * (n : Int))) ∧ GV mk n w' v lo hi) ∧ Out lo hi w w' := by
  obtain ⟨a, cp, rfl⟩ := h.form
  have hb0 : Below w.heap.size w (w.alloc (.cells #[.slice a n cp, .slice none 0 0, .slice none 0 0] 49)) := (Below.refl _ _).alloc (Nat.le_refl _) _
  have HV := hide (h.below hb0 hh)
  have x0 : (w.alloc (.cells #[.slice a n cp, .slice none 0 0, .slice none 0 0] 49)).cell? ⟨w.heap.size, 1, none⟩ = some (.slice none 0 0) := by simp [go_sem]
  have x1 : (w.alloc (.cells #[.slice a n cp, .slice none 0 0, .slice none 0 0] 49)).cell? ⟨w.heap.size, 2, none⟩ = some (.slice none 0 0) := by simp [go_sem]
  have X0 := hide x0
  have X1 := hide x1
  clear h x0 x1
  go_enter Try.func29, Try.ntmps29
  go_wp2_with fail
  refine (markForestV (unhide HV) hn (by simp; omega)).mono ?_
  rintro e w1 ⟨⟨rfl, hv1⟩, hb1⟩
  have y0 := (World.cell?_of_block (hb1.block w.heap.size (by simp) (.inr hh))).trans (unhide X0)
  have y1 := (World.cell?_of_block (hb1.block w.heap.size (by simp) (.inr hh))).trans (unhide X1)
  have HB1 := hide ((Out.of hb0).trans hb1)
  have HV1 := hide hv1
  clear hb0 hb1 hv1 X0 X1
  obtain ⟨k, hk⟩ : ∃ k : Int, k = 1 + 3 * (n : Int) := ⟨_, rfl⟩
  rw [← hk]
  have HK := hide hk
  clear hk
  go_wp2_with fail
  refine (markTableS_nil _ _).mono ?_
  rintro e w2 ⟨rfl, rfl⟩
  go_wp2_with fail
  refine (markSiteS_nil _ _).mono ?_
  rintro e w2 ⟨rfl, rfl⟩
  go_wp2
  go_ret
  exact ⟨⟨by rw [← unhide HK]; rfl, unhide HV1⟩, unhide HB1⟩

set_option maxHeartbeats 1000000 in
theorem heldStoreV {n : Nat} {w : World} {v : Value} {lo hi : Nat} (h : GV mk n w v lo hi) (hn : n ≤ 1048576) (hh : hi ≤ w.heap.size) :
    Calls Try.prog 30 #[ES v, .int .i64 1] w fun e w' => e = .returned (.int .i64 (1 + 3 * (n : Int))) ∧ Below w.heap.size w w' := by
  obtain ⟨a, cp, rfl⟩ := h.form
  have hb0 : Below w.heap.size w (w.alloc (.cells #[.slice a n cp, .slice none 0 0, .slice none 0 0] 49)) := (Below.refl _ _).alloc (Nat.le_refl _) _
  have HV := hide (h.below hb0 hh)
  clear h
  go_enter Try.func30, Try.ntmps30
  go_wp2_with fail
  refine (heldForestV (unhide HV) hn (by simp; omega)).mono ?_
  rintro e w1 ⟨rfl, hb1⟩
  obtain ⟨hc1, hf1⟩ := bcell hb1
  have x0 : w1.cell? ⟨w.heap.size, 1, none⟩ = some (.slice none 0 0) := by rw [hc1 _ _ (by simp)]; simp [go_sem]
  have x1 : w1.cell? ⟨w.heap.size, 2, none⟩ = some (.slice none 0 0) := by rw [hc1 _ _ (by simp)]; simp [go_sem]
  have HB1 := hide (hb0.trans (hb1.mono hb0.size))
  clear hb0 hb1 hc1 hf1
  have hq : ¬ 1 + 3 * (n : Int) < 0 := by omega
  obtain ⟨k, hk⟩ : ∃ k : Int, k = 1 + 3 * (n : Int) := ⟨_, rfl⟩
  rw [← hk] at hq ⊢
  have HK := hide hk
  clear hk
  go_wp2_with fail
  refine (heldTableS_nil _ _).mono ?_
  rintro e w2 ⟨rfl, rfl⟩
  go_wp2_with fail
  refine (heldSiteS_nil _ _).mono ?_
  rintro e w2 ⟨rfl, rfl⟩
  go_wp2
  go_ret
  exact ⟨by rw [← unhide HK]; rfl, unhide HB1⟩
end Go.Proofs.Ytgiegkigfokdmab
