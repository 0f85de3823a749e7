/-
  Marks in a row of shapes, in a row of strings; rows of strings compared.
-/
import Derived.Test.YtgiegkigfokdmabFoD
import Derived.Test.YtgiegkigfokdmabMark
namespace Go.Proofs.Ytgiegkigfokdmab
open Go.RowKit
set_option linter.unusedVariables false

/-- Of what was there nothing but block b has turned. -/
structure But (b : Nat) (w w' : World) : Prop where
  os : w'.os = w.os
  tape : w'.tape = w.tape
  output : w'.output = w.output
  size : w.heap.size ≤ w'.heap.size
  block : ∀ k, k < w.heap.size → k ≠ b → w'.heap[k]? = w.heap[k]?

theorem But.refl (b : Nat) (w : World) : But b w w := ⟨rfl, rfl, rfl, Nat.le_refl _, fun _ _ _ => rfl⟩
theorem But.trans {b : Nat} {u v w : World} (h : But b u v) (k : But b v w) : But b u w :=
  ⟨k.os.trans h.os, k.tape.trans h.tape, k.output.trans h.output, Nat.le_trans h.size k.size, fun i hi hn => (k.block i (Nat.lt_of_lt_of_le hi h.size) hn).trans (h.block i hi hn)⟩
theorem But.of {b : Nat} {w w' : World} (h : Below w.heap.size w w') : But b w w' := ⟨h.os, h.tape, h.output, h.size, fun k hk _ => h.block k hk⟩
theorem But.set (b o : Nat) (w : World) (v : Value) : But b w (w.setCell ⟨b, o, none⟩ v) := ⟨rfl, rfl, rfl, by simp [World.setCell], fun k _ hn => Below.heap_setCell _ _ _ _ (by simpa using hn)⟩
theorem But.below {b B : Nat} {w w' : World} (h : But b w w') (hb : B ≤ b) (hB : B ≤ w.heap.size) : Below B w w' := ⟨h.os, h.tape, h.output, h.size, fun k hk => h.block k (by omega) (by omega)⟩
theorem But.row {b c n : Nat} {t : TypeId} {g : Nat → Value} {w w' : World} (h : But b w w') (hr : w.rowIs c t n g) (hn : c ≠ b) : w'.rowIs c t n g := hr.of_block (h.block c hr.lt hn)

set_option maxRecDepth 100000 in
set_option maxHeartbeats 1000000 in
theorem markShapeS_any (b n cap N : Nat) (g : Nat → Value) (w : World) (hA : w.rowIs b 56 N g) (hN : n * 3 ≤ N) (hn : n ≤ 1048576) :
    Calls Try.prog 39 #[.slice (some ⟨b, 0, none⟩) n cap, .int .i64 1] w fun e w' => e = .returned (.int .i64 (1 + 3 * (n : Int))) ∧ But b w w' := by
  have HA := hide hA
  clear hA
  go_enter Try.func39, Try.ntmps39
  go_wp2
  go_loopw [1, 5] (fun q i wr => ∃ (k : Nat) (g : Nat → Value), k ≤ n ∧ i = .int .i64 k ∧ q = .int .i64 ((1 + 3 * k : Nat) : Int) ∧ But b w wr ∧ wr.rowIs b 56 N g) (fun _ i _ => n - (intOf i).toNat)
  case atStart => exact ⟨0, g, by omega, rfl, rfl, But.refl _ _, unhide HA⟩
  case round =>
    obtain ⟨k, g, hk, rfl, rfl, hb, hr⟩ := hrel
    have d0 : k < n → wr.cell? ⟨b, k * 3, none⟩ = some (g (k * 3)) := fun h => hr.cell (by omega)
    have d1 : k < n → wr.cell? ⟨b, k * 3 + 1, none⟩ = some (g (k * 3 + 1)) := fun h => hr.cell (by omega)
    have d2 : k < n → wr.cell? ⟨b, k * 3 + 2, none⟩ = some (g (k * 3 + 2)) := fun h => hr.cell (by omega)
    have e0 := hr.frozen (k * 3)
    have e1 := hr.frozen (k * 3 + 1)
    have e2 := hr.frozen (k * 3 + 2)
    have hlr := hr.lt
    have HB := hide hb
    have HR := hide hr
    clear hb hr
    go_wp2_with fail
    · have hlt : k < n := by assumption
      have hmt := markText_any (2 + 3 * k) (by omega) (wr.setCell ⟨b, k * 3, none⟩ (.int .i64 (1 + 3 * (k : Int))))
      rw [show ((2 + 3 * k : Nat) : Int) = 1 + 3 * (k : Int) + 1 by omega] at hmt
      refine hmt.mono ?_
      rintro e w1 ⟨rfl, hb1⟩
      have hr1 := ((unhide HR).set (k * 3) (.int .i64 (1 + 3 * (k : Int)))).of_block (hb1.block b (by simpa using hlr))
      have f1 := hr1.cell (i := k * 3 + 1) (by omega)
      have f2 := hr1.cell (i := k * 3 + 2) (by omega)
      have f3 := hr1.frozen (k * 3 + 1)
      have f4 := hr1.frozen (k * 3 + 2)
      have HB1 := hide ((unhide HB).trans ((But.set b (k * 3) wr (.int .i64 (1 + 3 * (k : Int)))).trans (But.of hb1)))
      have HR1 := hide hr1
      clear hmt hb1 hr1 d0 d1 d2 e0 e1 e2
      go_wp2
      go_roundw
      case rel => exact ⟨k + 1, _, by omega, by go_num, by go_num, ((unhide HB1).trans (But.set b _ _ _)).trans (But.set b _ _ _), ((unhide HR1).set _ _).set _ _⟩
      case measure => simp [intOf]; omega
    · have : k = n := by omega
      subst this
      go_ret
      exact ⟨by show Ending.returned (Value.int .i64 ((1 + 3 * k : Nat) : Int)) = _; congr 2, unhide HB⟩

set_option maxHeartbeats 1000000 in
theorem markForest_any (b n cap : Nat) (f : Nat → Shp) (w : World) (hA : ShRow w b n f) (hn : n ≤ 1048576) :
    Calls Try.prog 16 #[.agg #[.slice (some ⟨b, 0, none⟩) n cap], .int .i64 1] w fun e w' => e = .returned (.int .i64 (1 + 3 * (n : Int))) ∧ But b w w' := by
  have hl := hA.lt
  have hb0 : Below w.heap.size w (w.alloc (.cells #[.slice (some ⟨b, 0, none⟩) n cap] 29)) := (Below.refl _ _).alloc (Nat.le_refl _) _
  obtain ⟨N, g, hN, hr, _⟩ := hA.below hb0 hl
  have HR := hide hr
  have HB0 := hide hb0
  clear hA hb0 hr
  go_enter Try.func16, Try.ntmps16
  go_wp2_with fail
  refine (markShapeS_any b n cap N g _ (unhide HR) hN hn).mono ?_
  rintro e w1 ⟨rfl, hb1⟩
  have HB1 := hide ((But.of (b := b) (unhide HB0)).trans hb1)
  clear hb1
  go_wp2
  go_ret
  exact ⟨rfl, unhide HB1⟩

set_option maxRecDepth 100000 in
set_option maxHeartbeats 1000000 in
theorem markStringS_any (m n cap : Nat) (g : Nat → ByteArray) (w : World) (hA : StRow w m n g) (hn : n ≤ 1048576) :
    Calls Try.prog 17 #[.slice (some ⟨m, 0, none⟩) n cap, .int .i64 1] w fun e w' => e = .returned (.int .i64 (1 + (n : Int))) ∧ But m w w' ∧ StRow w' m n (fun j => mark (1 + j)) := by
  have HA := hide hA
  clear hA
  go_enter Try.func17, Try.ntmps17
  go_wp2
  go_loopw [1, 5] (fun q i wr => ∃ (k : Nat) (g : Nat → Value), k ≤ n ∧ i = .int .i64 k ∧ q = .int .i64 ((1 + k : Nat) : Int) ∧ But m w wr ∧ wr.rowIs m 9 n g ∧ ∀ j, j < k → g j = .string (mark (1 + j))) (fun _ i _ => n - (intOf i).toNat)
  case atStart => exact ⟨0, _, by omega, rfl, rfl, But.refl _ _, unhide HA, fun j h => by omega⟩
  case round =>
    obtain ⟨k, g, hk, rfl, rfl, hb, hr, hall⟩ := hrel
    have hlr := hr.lt
    have HB := hide hb
    have HR := hide hr
    have HALL := hide hall
    clear hb hr hall
    go_wp2_with fail
    · have hlt : k < n := by assumption
      have hmt := markText_any (1 + k) (by omega) wr
      rw [show ((1 + k : Nat) : Int) = 1 + (k : Int) by omega] at hmt
      refine hmt.mono ?_
      rintro e w1 ⟨rfl, hb1⟩
      have hr1 := (unhide HR).of_block (hb1.block m hlr)
      have f1 := hr1.cell (i := k) (by omega)
      have f3 := hr1.frozen k
      have HB1 := hide ((unhide HB).trans (But.of hb1))
      have HR1 := hide hr1
      clear hmt hb1 hr1
      go_wp2
      go_roundw
      case rel =>
        refine ⟨k + 1, _, by omega, by go_num, by go_num, (unhide HB1).trans (But.set m _ _ _), (unhide HR1).set _ _, fun j hj => ?_⟩
        by_cases e : j = k
        · subst e; simp
        · simp only [e, if_false]; exact unhide HALL j (by omega)
      case measure => simp [intOf]; omega
    · have : k = n := by omega
      subst this
      go_ret
      exact ⟨by show Ending.returned (Value.int .i64 ((1 + k : Nat) : Int)) = _; congr 2, unhide HB, (unhide HR).congr fun j hj => unhide HALL j hj⟩

set_option maxRecDepth 100000 in
set_option maxHeartbeats 1000000 in
theorem heldStringS_any (m n cap : Nat) (w : World) (hA : StRow w m n (fun j => mark (1 + j))) (hn : n ≤ 1048576) :
    Calls Try.prog 18 #[.slice (some ⟨m, 0, none⟩) n cap, .int .i64 1] w fun e w' => e = .returned (.int .i64 (1 + (n : Int))) ∧ Below w.heap.size w w' := by
  have hl := World.rowIs.lt hA
  have HA := hide hA
  clear hA
  go_enter Try.func18, Try.ntmps18
  go_wp2
  go_loopw [1, 5] (fun q i wr => ∃ (k : Nat), k ≤ n ∧ i = .int .i64 k ∧ q = .int .i64 ((1 + k : Nat) : Int) ∧ Below w.heap.size w wr) (fun _ i _ => n - (intOf i).toNat)
  case atStart => exact ⟨0, by omega, rfl, rfl, Below.refl _ _⟩
  case round =>
    obtain ⟨k, hk, rfl, rfl, hb⟩ := hrel
    have hr := World.rowIs.of_block (unhide HA) (hb.block m hl)
    have HB := hide hb
    have hx : m < wr.heap.size := Nat.lt_of_lt_of_le hl hb.size
    clear hb
    go_wp2
    · have hlt : k < n := by assumption
      have c0 : wr.cell? ⟨m, k, none⟩ = some (.string (mark (1 + k))) := hr.cell hlt
      clear hr
      have hmt := fun w => markText_any (1 + k) (by omega) w
      rw [show ((1 + k : Nat) : Int) = 1 + (k : Int) by omega] at hmt
      have HM := hide hmt
      clear hmt
      refine wp_region_quiet (C := fun w' => Below wr.heap.size wr w') (by kernel_rfl) (by kernel_rfl) ((Below.refl _ _).drew) ?_
      show wpQuiet _ _ _ _ [_, _, _, _, _, _, _] _
      refine wpQuiet_step (fun K hK => ?_)
      go_simp
      refine ⟨_, fun w' hw' => rfl, hK _ ?_⟩
      clear hK K
      refine wpQuiet_step (fun K hK => ?_)
      go_simp
      refine ⟨_, fun w' hw' => rfl, hK _ ?_⟩
      clear hK K
      refine wpQuiet_step (fun K hK => ?_)
      go_simp
      refine ⟨_, fun w' hw' => rfl, hK _ ?_⟩
      clear hK K
      refine wpQuiet_step (fun K hK => ?_)
      go_simp
      apply Exists.intro
      refine And.intro (fun w' hw' => ?_) (hK _ ?_)
      · obtain ⟨hc', hf'⟩ := bcell hw'
        go_simp
        first | rfl | exact ⟨rfl, rfl⟩ | exact ⟨rfl⟩
      clear hK K
      refine wpQuiet_step (fun K hK => ?_)
      go_simp
      refine ⟨_, fun w' hw' => rfl, hK _ ?_⟩
      clear hK K
      refine wpQuiet_step (fun K hK => ?_)
      go_simp
      apply Exists.intro
      refine And.intro (fun w' hw' => ?_) (hK _ ?_)
      · refine ((unhide HM) _).mono ?_
        rintro e w'' ⟨rfl, hb⟩
        exact ⟨rfl, hw'.trans (hb.mono hw'.size)⟩
      clear hK K
      refine wpQuiet_step (fun K hK => ?_)
      go_simp
      refine ⟨_, fun w' hw' => rfl, hK _ ?_⟩
      clear hK K
      refine wpQuiet_nil ?_
      intro w2 hw2
      have HB2 := hide ((unhide HB).trans (hw2.mono (unhide HB).size))
      clear hw2 c0
      go_wp2
      go_roundw
      case rel => exact ⟨k + 1, by omega, by go_num, by go_num, unhide HB2⟩
      case measure => simp [intOf]; omega
    · have : k = n := by omega
      subst this
      go_ret
      exact ⟨by first | rfl | (congr 2), unhide HB⟩

set_option maxRecDepth 100000 in
set_option maxHeartbeats 1000000 in
theorem eqStringS_same (a b n cap cap' : Nat) (g : Nat → ByteArray) (w : World) (hA : StRow w a n g) (hB : StRow w b n g) (hn : n ≤ 1048576) :
    Calls Try.prog 15 #[.slice (some ⟨a, 0, none⟩) n cap, .slice (some ⟨b, 0, none⟩) n cap'] w fun e w' => e = .returned (.bool true) ∧ Below w.heap.size w w' := by
  have hl := World.rowIs.lt hA
  have hl' := World.rowIs.lt hB
  have HA := hide hA
  have HB := hide hB
  clear hA hB
  go_enter Try.func15, Try.ntmps15
  go_wp2
  go_loopw [5] (fun i wr => ∃ (k : Nat), k ≤ n ∧ i = .int .i64 k ∧ Below w.heap.size w wr) (fun i _ => n - (intOf i).toNat)
  case atStart => exact ⟨0, by omega, rfl, Below.refl _ _⟩
  case round =>
    obtain ⟨k, hk, rfl, hb⟩ := hrel
    have c0 : k < n → wr.cell? ⟨a, k, none⟩ = some (.string (g k)) := fun h => (hb.cell (by exact hl)).trans (World.rowIs.cell (unhide HA) h)
    have c1 : k < n → wr.cell? ⟨b, k, none⟩ = some (.string (g k)) := fun h => (hb.cell (by exact hl')).trans (World.rowIs.cell (unhide HB) h)
    have HBW := hide hb
    clear hb
    go_wp2
    · have hlt : k < n := by assumption
      have d0 := c0 hlt
      have d1 := c1 hlt
      clear c0 c1
      go_quiet (fail)
      go_wp2
      go_roundw
      case rel => exact ⟨k + 1, by omega, by go_num, below_drewN (unhide HBW) _⟩
      case measure => simp [intOf]; omega
    · have : k = n := by omega
      subst this
      go_ret
      exact ⟨rfl, unhide HBW⟩

set_option maxHeartbeats 1000000 in
theorem markStringS_nil (w : World) :
    Calls Try.prog 17 #[.slice none 0 0, .int .i64 1] w fun e w' => e = .returned (.int .i64 1) ∧ w' = w := by
  go_enter Try.func17, Try.ntmps17
  go_wp2
  go_loopw [1, 5] (fun q i wr => q = .int .i64 1 ∧ i = .int .i64 0 ∧ wr = w) (fun _ _ _ => 0)
  case atStart => exact ⟨rfl, rfl, rfl⟩
  case round =>
    obtain ⟨rfl, rfl, rfl⟩ := hrel
    go_wp2
    go_ret
    exact ⟨rfl, rfl⟩

set_option maxHeartbeats 1000000 in
theorem heldStringS_nil (w : World) :
    Calls Try.prog 18 #[.slice none 0 0, .int .i64 1] w fun e w' => e = .returned (.int .i64 1) ∧ w' = w := by
  go_enter Try.func18, Try.ntmps18
  go_wp2
  go_loopw [1, 5] (fun q i wr => q = .int .i64 1 ∧ i = .int .i64 0 ∧ wr = w) (fun _ _ _ => 0)
  case atStart => exact ⟨rfl, rfl, rfl⟩
  case round =>
    obtain ⟨rfl, rfl, rfl⟩ := hrel
    go_wp2
    go_ret
    exact ⟨rfl, rfl⟩

set_option maxHeartbeats 1000000 in
theorem eqStringS_nil (w : World) :
    Calls Try.prog 15 #[.slice none 0 0, .slice none 0 0] w fun e w' => e = .returned (.bool true) ∧ w' = w := by
  go_enter Try.func15, Try.ntmps15
  go_wp2
  go_loopw [5] (fun i wr => i = .int .i64 0 ∧ wr = w) (fun _ _ => 0)
  case atStart => exact ⟨rfl, rfl⟩
  case round =>
    obtain ⟨rfl, rfl⟩ := hrel
    go_wp2
    go_ret
    exact ⟨rfl, rfl⟩
end Go.Proofs.Ytgiegkigfokdmab
