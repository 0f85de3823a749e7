/-
  A forest of no shapes, by nil.
-/
import Derived.Test.YtgiegkigfokdmaaNodJ
namespace Go.Proofs.Ytgiegkigfokdmaa
open Go.RowKit
set_option linter.unusedVariables false

abbrev nilF : Value := .agg #[.slice none 0 0]

set_option maxHeartbeats 1000000 in
theorem specForestOk_nil (w : World) : Calls Try.prog 9 #[nilF] w fun e w' => e = .returned (.int .i64 1) ∧ Below w.heap.size w w' := by
  go_enter Try.func9, Try.ntmps9
  go_wp2
  go_ret
  exact ⟨rfl, (Below.refl _ _).alloc (Nat.le_refl _) _⟩

set_option maxHeartbeats 1000000 in
theorem judge_nil (w : World) : Calls Try.prog 30 #[nilF] w fun e w' => e = .returned (.tuple #[.slice none 0 0, .int .i64 1]) ∧ Below w.heap.size w w' := by
  go_enter Try.func30, Try.ntmps30
  go_wp2
  go_ret2
  exact ⟨by simp, (Below.refl _ _).alloc (Nat.le_refl _) _⟩

set_option maxHeartbeats 1000000 in
theorem implForestOk_nil (w : World) : Calls Try.prog 8 #[nilF] w fun e w' => e = .returned (.int .i64 1) ∧ Below w.heap.size w w' := by
  have hb0 : Below w.heap.size w (w.alloc (.cells #[.slice none 0 0] 25)) := (Below.refl _ _).alloc (Nat.le_refl _) _
  go_enter Try.func8, Try.ntmps8
  go_wp2_with fail
  refine (judge_nil _).mono ?_
  rintro e w1 ⟨rfl, hb1⟩
  have HB1 := hide (hb0.trans (hb1.mono hb0.size))
  clear hb0 hb1
  go_wp2
  go_ret
  exact ⟨rfl, unhide HB1⟩

set_option maxHeartbeats 1000000 in
theorem nodeOf_nil (i : Int) (w : World) : Calls Try.prog 22 #[nilF, .int .i64 i] w fun e w' => e = .returned (.pointer none) ∧ Below w.heap.size w w' := by
  have hb0 : Below w.heap.size w (w.alloc (.cells #[.slice none 0 0] 25)) := (Below.refl _ _).alloc (Nat.le_refl _) _
  go_enter Try.func22, Try.ntmps22
  go_wp2_with fail
  refine (judge_nil _).mono ?_
  rintro e w1 ⟨rfl, hb1⟩
  have HB1 := hide (hb0.trans (hb1.mono hb0.size))
  clear hb0 hb1
  go_wp2
  go_ret
  exact ⟨rfl, unhide HB1⟩

set_option maxHeartbeats 1000000 in
theorem implGrow_nil (i : Int) (key : ByteArray) (w : World) : Calls Try.prog 6 #[nilF, .int .i64 i, .string key] w fun e w' => e = .returned (GrV (.slice none 0 0) (-1)) ∧ Below w.heap.size w w' := by
  have hb0 : Below w.heap.size w ((w.alloc (.cells #[.slice none 0 0] 25)).alloc (.cells #[.slice none 0 0, .int .i64 0] 29)) := ((Below.refl _ _).alloc (Nat.le_refl _) _).alloc (by simp) _
  go_enter Try.func6, Try.ntmps6
  go_wp2_with fail
  refine (nodeOf_nil i _).mono ?_
  rintro e w1 ⟨rfl, hb1⟩
  obtain ⟨hc1, hf1⟩ := bcell hb1
  have g1 : w1.cell? ⟨w.heap.size + 1, 0, none⟩ = some (.slice none 0 0) := by rw [hc1 _ _ (by simp)]; simp [go_sem]
  have k1 : w1.cell? ⟨w.heap.size + 1, 1, none⟩ = some (.int .i64 0) := by rw [hc1 _ _ (by simp)]; simp [go_sem]
  have p1 : w1.frozen? ⟨w.heap.size + 1, 0, none⟩ = false := by rw [hf1 _ _ (by simp)]; simp [go_sem]
  have q1 : w1.frozen? ⟨w.heap.size + 1, 1, none⟩ = false := by rw [hf1 _ _ (by simp)]; simp [go_sem]
  have HB1 := hide (hb0.trans (hb1.mono hb0.size))
  clear hb0 hb1 hc1 hf1
  go_wp2
  refine bodyPost_ret (v := GrV (.slice none 0 0) (-1)) (by simp [results, Try.results6, go_sem, g1, k1]) rfl ⟨rfl, ?_⟩
  exact ((unhide HB1).setCell (by show _ ≤ w.heap.size + 1; omega) _).setCell (by show _ ≤ w.heap.size + 1; omega) _

set_option maxHeartbeats 1000000 in
theorem specGrow_nil (i : Int) (key : ByteArray) (w : World) : Calls Try.prog 7 #[nilF, .int .i64 i, .string key] w fun e w' => e = .returned (GrV (.slice none 0 0) (-1)) ∧ Below w.heap.size w w' := by
  have hb0 : Below w.heap.size w ((w.alloc (.cells #[.slice none 0 0] 25)).alloc (.cells #[.slice none 0 0, .int .i64 0] 29)) := ((Below.refl _ _).alloc (Nat.le_refl _) _).alloc (by simp) _
  go_enter Try.func7, Try.ntmps7
  go_wp2_with fail
  refine (specForestOk_nil _).mono ?_
  rintro e w1 ⟨rfl, hb1⟩
  obtain ⟨hc1, hf1⟩ := bcell hb1
  have g1 : w1.cell? ⟨w.heap.size + 1, 0, none⟩ = some (.slice none 0 0) := by rw [hc1 _ _ (by simp)]; simp [go_sem]
  have k1 : w1.cell? ⟨w.heap.size + 1, 1, none⟩ = some (.int .i64 0) := by rw [hc1 _ _ (by simp)]; simp [go_sem]
  have p1 : w1.frozen? ⟨w.heap.size + 1, 0, none⟩ = false := by rw [hf1 _ _ (by simp)]; simp [go_sem]
  have q1 : w1.frozen? ⟨w.heap.size + 1, 1, none⟩ = false := by rw [hf1 _ _ (by simp)]; simp [go_sem]
  have HB1 := hide (hb0.trans (hb1.mono hb0.size))
  clear hb0 hb1 hc1 hf1
  go_wp2
  refine bodyPost_ret (v := GrV (.slice none 0 0) (-1)) (by simp [results, Try.results7, go_sem, g1, k1]) rfl ⟨rfl, ?_⟩
  exact ((unhide HB1).setCell (by show _ ≤ w.heap.size + 1; omega) _).setCell (by show _ ≤ w.heap.size + 1; omega) _

set_option maxHeartbeats 1000000 in
theorem wForest_nil (w : World) : Calls Try.prog 10 #[nilF, nilF] w fun e w' => e = .returned (.bool true) ∧ Below w.heap.size w w' := by
  go_enter Try.func10, Try.ntmps10
  go_wp2
  go_loopw [16] (fun i wr => i = .int .i64 0 ∧ Below w.heap.size w wr) (fun _ _ => 0)
  case atStart => exact ⟨rfl, ((Below.refl _ _).alloc (Nat.le_refl _) _).alloc (by simp) _⟩
  case round =>
    obtain ⟨rfl, hb⟩ := hrel
    go_wp2
    go_ret
    exact ⟨rfl, hb⟩

set_option maxRecDepth 100000 in
set_option maxHeartbeats 1000000 in
theorem wForest_in (b b' n cap cap' : Nat) (f : Nat → Shp) (w : World) (hA : ShRow w b n f) (hB : ShRow w b' n f) (hn : n ≤ 1048576) :
    Calls Try.prog 10 #[.agg #[.slice (some ⟨b, 0, none⟩) n cap], .agg #[.slice (some ⟨b', 0, none⟩) n cap']] w fun e w' => e = .returned (.bool true) ∧ Below w.heap.size w w' := by
  have hl := hA.lt
  have hl' := hB.lt
  have HA := hide hA
  have HB := hide hB
  clear hA hB
  go_enter Try.func10, Try.ntmps10
  go_wp2
  go_loopw [16] (fun i wr => ∃ (k : Nat), k ≤ n ∧ i = .int .i64 k ∧ Below w.heap.size w wr ∧ wr.cell? ⟨w.heap.size, 0, none⟩ = some (.slice (some ⟨b, 0, none⟩) n cap) ∧ wr.cell? ⟨w.heap.size + 1, 0, none⟩ = some (.slice (some ⟨b', 0, none⟩) n cap')) (fun i _ => n - (intOf i).toNat)
  case atStart => exact ⟨0, by omega, rfl, ((Below.refl _ _).alloc (Nat.le_refl _) _).alloc (by simp) _, by simp [go_sem], by simp [go_sem]⟩
  case round =>
    obtain ⟨k, hk, rfl, hb, x0, x1⟩ := hrel
    by_cases hlt : k < n
    · obtain ⟨c0, c1, c2⟩ := ((unhide HA).below hb hl).cells hlt
      obtain ⟨d0, d1, d2⟩ := ((unhide HB).below hb hl').cells hlt
      have hneq : ∀ w : World, (binOp .neq 61 (Sh (f k).parent (f k).key (f k).count) (Sh (f k).parent (f k).key (f k).count)).run Try.prog w = .ok (.bool false) w := fun w => by rw [neqShape]; simp
      have HBW := hide hb
      clear hb
      go_wp2
      go_quiet (fail)
      go_wp2
      go_roundw
      case rel => exact ⟨k + 1, by omega, by go_num, below_drewN (unhide HBW) _, x0, x1⟩
      case measure => simp [intOf]; omega
    · go_wp2
      go_ret
      exact ⟨rfl, hb⟩
end Go.Proofs.Ytgiegkigfokdmaa
