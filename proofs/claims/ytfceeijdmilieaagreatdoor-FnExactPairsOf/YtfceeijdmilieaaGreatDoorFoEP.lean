/-
  FoE.
-/
import Derived.Test.YtfceeijdmilieaaGreatDoorFoDP
import Derived.Test.YtfceeijdmilieaaGreatDoorMarkP
namespace Go.Proofs.YtfceeijdmilieaaGreatDoor
open Go.RowKit
set_option linter.unusedVariables false

/-- Of what was there nothing but block b has turned. -/
structure But (b : Nat) (w w' : World) : Prop where
  os : w'.os = w.os
  tape : w'.tape = w.tape
  output : w'.output = w.output
  size : w.heap.size ≤ w'.heap.size
  block : ∀ k, k < w.heap.size → k ≠ b → w'.heap[k]? = w.heap[k]?

theorem But.refl (b : Nat) (w : World) : But b w w := ⟨rfl, rfl, rfl, Nat.le_refl _, fun _ _ _ => rfl⟩
theorem But.trans {b : Nat} {u v w : World} (h : But b u v) (k : But b v w) : But b u w :=
  ⟨k.os.trans h.os, k.tape.trans h.tape, k.output.trans h.output, Nat.le_trans h.size k.size, fun i hi hn => (k.block i (Nat.lt_of_lt_of_le hi h.size) hn).trans (h.block i hi hn)⟩
theorem But.of {b : Nat} {w w' : World} (h : Below w.heap.size w w') : But b w w' := ⟨h.os, h.tape, h.output, h.size, fun k hk _ => h.block k hk⟩
theorem But.set (b o : Nat) (w : World) (v : Value) : But b w (w.setCell ⟨b, o, none⟩ v) := ⟨rfl, rfl, rfl, by simp [World.setCell], fun k _ hn => Below.heap_setCell _ _ _ _ (by simpa using hn)⟩
theorem But.below {b B : Nat} {w w' : World} (h : But b w w') (hb : B ≤ b) (hB : B ≤ w.heap.size) : Below B w w' := ⟨h.os, h.tape, h.output, h.size, fun k hk => h.block k (by omega) (by omega)⟩
theorem But.row {b c n : Nat} {t : TypeId} {g : Nat → Value} {w w' : World} (h : But b w w') (hr : w.rowIs c t n g) (hn : c ≠ b) : w'.rowIs c t n g := hr.of_block (h.block c hr.lt hn)

set_option maxRecDepth 100000 in
set_option maxHeartbeats 1000000 in
theorem markShapeS_any (b n cap N : Nat) (g : Nat → Value) (w : World) (hA : w.rowIs b 149 N g) (hN : n * 3 ≤ N) (hn : n ≤ 1048576) :
    Calls Tryz.prog 125 #[.slice (some ⟨b, 0, none⟩) n cap, .int .i64 1] w fun e w' => e = .returned (.int .i64 (1 + 3 * (n : Int))) ∧ But b w w' := by
  have HA := hide hA
  clear hA
  go_enter Tryz.func125, Tryz.ntmps125
  go_wp2
  go_loopw [1, 5] (fun q i wr => ∃ (k : Nat) (g : Nat → Value), k ≤ n ∧ i = .int .i64 k ∧ q = .int .i64 ((1 + 3 * k : Nat) : Int) ∧ But b w wr ∧ wr.rowIs b 149 N g) (fun _ i _ => n - (intOf i).toNat)
  case atStart => exact ⟨0, g, by omega, rfl, rfl, But.refl _ _, unhide HA⟩
  case round =>
    obtain ⟨k, g, hk, rfl, rfl, hb, hr⟩ := hrel
    have d0 : k < n → wr.cell? ⟨b, k * 3, none⟩ = some (g (k * 3)) := fun h => hr.cell (by omega)
    have d1 : k < n → wr.cell? ⟨b, k * 3 + 1, none⟩ = some (g (k * 3 + 1)) := fun h => hr.cell (by omega)
    have d2 : k < n → wr.cell? ⟨b, k * 3 + 2, none⟩ = some (g (k * 3 + 2)) := fun h => hr.cell (by omega)
    have e0 := hr.frozen (k * 3)
    have e1 := hr.frozen (k * 3 + 1)
    have e2 := hr.frozen (k * 3 + 2)
    have hlr := hr.lt
    have HB := hide hb
    have HR := hide hr
    clear hb hr
    go_wp2_with fail
    · have hlt : k < n := by assumption
      have hmt := markText_any (2 + 3 * k) (by omega) (wr.setCell ⟨b, k * 3, none⟩ (.int .i64 (1 + 3 * (k : Int))))
      rw [show ((2 + 3 * k : Nat) : Int) = 1 + 3 * (k : Int) + 1 by omega] at hmt
      refine hmt.mono ?_
      rintro e w1 ⟨rfl, hb1⟩
      have hr1 := ((unhide HR).set (k * 3) (.int .i64 (1 + 3 * (k : Int)))).of_block (hb1.block b (by simpa using hlr))
      have f1 := hr1.cell (i := k * 3 + 1) (by omega)
      have f2 := hr1.cell (i := k * 3 + 2) (by omega)
      have f3 := hr1.frozen (k * 3 + 1)
      have f4 := hr1.frozen (k * 3 + 2)
      have HB1 := hide ((unhide HB).trans ((But.set b (k * 3) wr (.int .i64 (1 + 3 * (k : Int)))).trans (But.of hb1)))
      have HR1 := hide hr1
      clear hmt hb1 hr1 d0 d1 d2 e0 e1 e2
      go_wp2
      go_roundw
      case rel => exact ⟨k + 1, _, by omega, by go_num, by go_num, ((unhide HB1).trans (But.set b _ _ _)).trans (But.set b _ _ _), ((unhide HR1).set _ _).set _ _⟩
      case measure => simp [intOf]; omega
    · have : k = n := by omega
      subst this
      go_ret
      exact ⟨by show Ending.returned (Value.int .i64 ((1 + 3 * k : Nat) : Int)) = _; congr 2, unhide HB⟩

set_option maxHeartbeats 1000000 in
theorem markForest_any (b n cap : Nat) (f : Nat → Shp) (w : World) (hA : ShRow w b n f) (hn : n ≤ 1048576) :
    Calls Tryz.prog 62 #[.agg #[.slice (some ⟨b, 0, none⟩) n cap], .int .i64 1] w fun e w' => e = .returned (.int .i64 (1 + 3 * (n : Int))) ∧ But b w w' := by
  have hl := hA.lt
  have hb0 : Below w.heap.size w (w.alloc (.cells #[.slice (some ⟨b, 0, none⟩) n cap] 25)) := (Below.refl _ _).alloc (Nat.le_refl _) _
  obtain ⟨N, g, hN, hr, _⟩ := hA.below hb0 hl
  have HR := hide hr
  have HB0 := hide hb0
  clear hA hb0 hr
  go_enter Tryz.func62, Tryz.ntmps62
  go_wp2_with fail
  refine (markShapeS_any b n cap N g _ (unhide HR) hN hn).mono ?_
  rintro e w1 ⟨rfl, hb1⟩
  have HB1 := hide ((But.of (b := b) (unhide HB0)).trans hb1)
  clear hb1
  go_wp2
  go_ret
  exact ⟨rfl, unhide HB1⟩

end Go.Proofs.YtfceeijdmilieaaGreatDoor
