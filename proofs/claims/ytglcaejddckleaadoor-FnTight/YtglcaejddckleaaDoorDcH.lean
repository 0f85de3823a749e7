/-
  Dicts: the model's rule 5; DictOk of the model.
-/
import Derived.Test.YtglcaejddckleaaDoorDcG
namespace Go.Proofs.YtglcaejddckleaaDoor
open Go.RowKit
set_option linter.unusedVariables false
attribute [local go_sem] run_store_float run_equalIn_float

def D5 (d : Dc) (H : Nat → Nat) : Prop := ∀ i, i < d.n → (d.L i).turn ≠ 0 → cnt d.I i d.m + cnt d.X i d.x = 1 ∧ placeI d (d.L i).key (H i) = i ∧ ¬ ((d.L i).key.kind = 2 ∧ (d.L i).key.num = (d.m : Int) + 1)
def ok5 (d : Dc) (H : Nat → Nat) (i : Nat) : Prop := (d.L i).turn ≠ 0 → cnt d.I i d.m + cnt d.X i d.x = 1 ∧ placeI d (d.L i).key (H i) = i ∧ ¬ ((d.L i).key.kind = 2 ∧ (d.L i).key.num = (d.m : Int) + 1)
theorem not_D5 {d : Dc} {H : Nat → Nat} {k : Nat} (hk : k < d.n) (h : ¬ ok5 d H k) : tells (D5 d H) = false := tells_no (fun h' => h (h' k hk))

theorem make_ints (n : Nat) (hn : n ≤ 4194304) (w : World) :
    (Instr.makeSlice 26 (.int .i64 (n : Int)) (.int .i64 (n : Int))).run Tryd.prog w = .ok (.slice (some ⟨w.heap.size, 0, none⟩) n n) (w.alloc (.cells (madeCells (Value.int .i64 0).cells n) 3)) := by
  obtain ⟨i, hi, hz, hs, hb⟩ := info_parts infoInt
  have := run_make (P := Tryd.prog) w 26 3 i _ Tryd.underlying26 hi hz .i64 .i64 n n (by omega) (Int.le_refl _) (by rw [hb]; omega) (by omega)
  simp only [Int.toNat_natCast, hs, Nat.mul_one] at this
  exact this
theorem made_zeros (w : World) (n : Nat) : (w.alloc (.cells (madeCells (Value.int .i64 0).cells n) 3)).rowIs w.heap.size 3 n (fun _ => .int .i64 0) := by
  have h := World.rowIs_alloc w (madeCells (Value.int .i64 0).cells n) 3 (fun _ => .int .i64 0) (fun i hi => by
    rw [size_madeCells] at hi
    unfold madeCells
    simp [Value.cells, hi, Nat.mod_one])
  rw [size_madeCells] at h
  exact h

theorem cnt_le (f : Nat → Int) (i k : Nat) : cnt f i k ≤ k := by
  induction k with
  | zero => exact Nat.le_refl _
  | succ k ih => unfold cnt; split <;> omega
/-- A row of counts. -/
def Counts (w : World) (b n : Nat) (g : Nat → Nat) : Prop := ∃ h, w.rowIs b 3 n h ∧ ∀ j, j < n → h j = .int .i64 (g j)
theorem Counts.cell {w : World} {b n : Nat} {g : Nat → Nat} (h : Counts w b n g) {j : Nat} (hj : j < n) : w.cell? ⟨b, j, none⟩ = some (.int .i64 (g j)) := by
  obtain ⟨h0, hr, hg⟩ := h
  rw [hr.cell hj, hg j hj]
theorem Counts.frozen {w : World} {b n : Nat} {g : Nat → Nat} (h : Counts w b n g) (j : Nat) : w.frozen? ⟨b, j, none⟩ = false := by
  obtain ⟨h0, hr, hg⟩ := h
  exact hr.frozen j
theorem Counts.lt {w : World} {b n : Nat} {g : Nat → Nat} (h : Counts w b n g) : b < w.heap.size := by
  obtain ⟨h0, hr, hg⟩ := h
  exact hr.lt
theorem Counts.below {w w' : World} {b n : Nat} {g : Nat → Nat} (h : Counts w b n g) (hb : Below w.heap.size w w') : Counts w' b n g := by
  obtain ⟨h0, hr, hg⟩ := h
  exact ⟨h0, hr.of_block (hb.block b hr.lt), hg⟩
theorem Counts.bump {w : World} {b n q : Nat} {g : Nat → Nat} (h : Counts w b n g) : Counts (w.setCell ⟨b, q, none⟩ (.int .i64 ((g q : Int) + 1))) b n (fun j => if j = q then g q + 1 else g j) := by
  obtain ⟨h0, hr, hg⟩ := h
  refine ⟨_, hr.set q _, fun j hj => ?_⟩
  by_cases e : j = q
  · subst e; simp
  · simp only [e, if_false]; exact hg j hj
theorem Counts.congr {w : World} {b n : Nat} {g g' : Nat → Nat} (h : Counts w b n g) (e : ∀ j, j < n → g' j = g j) : Counts w b n g' := by
  obtain ⟨h0, hr, hg⟩ := h
  exact ⟨h0, hr, fun j hj => by rw [e j hj]; exact hg j hj⟩

end Go.Proofs.YtglcaejddckleaaDoor
