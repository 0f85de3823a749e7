/-
  Shapes: a row of them made anew; two rows compared.
-/
import Derived.Test.YtgiegkigfokdmaaFoA
import Derived.Deep.QuietTactic
import Derived.BigQuiet
namespace Go.Proofs.Ytgiegkigfokdmaa
open Go.RowKit
set_option linter.unusedVariables false

/-- Cell j of a row of shapes. -/
def cellOf (f : Nat → Shp) (j : Nat) : Value :=
  if j % 3 = 0 then .int .i64 (f (j / 3)).parent else if j % 3 = 1 then .string (f (j / 3)).key else .int .i64 (f (j / 3)).count

theorem cellOf0 (f : Nat → Shp) (i : Nat) : cellOf f (i * 3) = .int .i64 (f i).parent := by
  have h1 : i * 3 % 3 = 0 := by omega
  have h2 : i * 3 / 3 = i := by omega
  simp [cellOf]
theorem cellOf1 (f : Nat → Shp) (i : Nat) : cellOf f (i * 3 + 1) = .string (f i).key := by
  have h1 : (i * 3 + 1) % 3 = 1 := by omega
  have h2 : (i * 3 + 1) / 3 = i := by omega
  simp [cellOf, h1, h2]
theorem cellOf2 (f : Nat → Shp) (i : Nat) : cellOf f (i * 3 + 2) = .int .i64 (f i).count := by
  have h1 : (i * 3 + 2) % 3 = 2 := by omega
  have h2 : (i * 3 + 2) / 3 = i := by omega
  simp [cellOf, h1, h2]

/-- n shapes in the first cells of block b. -/
def ShRow (w : World) (b n : Nat) (f : Nat → Shp) : Prop := ∃ (N : Nat) (g : Nat → Value), n * 3 ≤ N ∧ w.rowIs b 61 N g ∧ ∀ j, j < n * 3 → g j = cellOf f j

theorem ShRow.lt {w : World} {b n : Nat} {f : Nat → Shp} (h : ShRow w b n f) : b < w.heap.size := by obtain ⟨_, _, _, h, _⟩ := h; exact h.lt
theorem ShRow.cells {w : World} {b n : Nat} {f : Nat → Shp} (h : ShRow w b n f) {i : Nat} (hi : i < n) :
    w.cell? ⟨b, i * 3, none⟩ = some (.int .i64 (f i).parent) ∧ w.cell? ⟨b, i * 3 + 1, none⟩ = some (.string (f i).key) ∧ w.cell? ⟨b, i * 3 + 2, none⟩ = some (.int .i64 (f i).count) := by
  obtain ⟨N, g, hN, hr, hg⟩ := h
  exact ⟨by rw [hr.cell (by omega), hg _ (by omega), cellOf0], by rw [hr.cell (by omega), hg _ (by omega), cellOf1], by rw [hr.cell (by omega), hg _ (by omega), cellOf2]⟩
theorem ShRow.of_block {w w' : World} {b n : Nat} {f : Nat → Shp} (h : ShRow w b n f) (e : w'.heap[b]? = w.heap[b]?) : ShRow w' b n f := by
  obtain ⟨N, g, hN, hr, hg⟩ := h
  exact ⟨N, g, hN, hr.of_block e, hg⟩
theorem ShRow.below {w w' : World} {B b n : Nat} {f : Nat → Shp} (h : ShRow w b n f) (hb : Below B w w') (hB : b < B) : ShRow w' b n f := h.of_block (hb.block b hB)
theorem ShRow.alloc {w : World} {b n : Nat} {f : Nat → Shp} (h : ShRow w b n f) (o : Obj) : ShRow (w.alloc o) b n f := h.of_block (Deep.blk_alloc_lt _ _ _ h.lt)
theorem ShRow.setOther {w : World} {b n : Nat} {f : Nat → Shp} (h : ShRow w b n f) {a : Addr} (ha : b ≠ a.block) (v : Value) : ShRow (w.setCell a v) b n f := h.of_block (Deep.blk_setCell_other _ _ _ _ ha)
theorem ShRow.at {w : World} {b n : Nat} {f : Nat → Shp} (h : ShRow w b n f) : ShAt w (some ⟨b, 0, none⟩) n f :=
  .inr ⟨b, 0, rfl, h.lt, fun i hi => by simpa using h.cells hi⟩

theorem infoShape : (Try.prog.info? 61).map (fun i => (i.zero, i.size, i.bytes)) = some (some (Sh 0 ⟨#[]⟩ 0), 3, 32) := by kernel_rfl

theorem make_shapes (n : Nat) (hn : n ≤ 1048576) (w : World) :
    (Instr.makeSlice 23 (.int .i64 (n : Int)) (.int .i64 (n : Int))).run Try.prog w = .ok (.slice (some ⟨w.heap.size, 0, none⟩) n n) (w.alloc (.cells (madeCells (Sh 0 ⟨#[]⟩ 0).cells (n * 3)) 61)) := by
  obtain ⟨i, hi, hzz⟩ := Option.map_eq_some_iff.1 infoShape
  simp only [Prod.mk.injEq] at hzz
  obtain ⟨hz, hs, hb⟩ := hzz
  have := run_make (P := Try.prog) w 23 61 i _ Try.underlying23 hi hz .i64 .i64 n n (by omega) (Int.le_refl _) (by rw [hb]; omega) (by omega)
  simp only [Int.toNat_natCast, hs] at this
  exact this

theorem made_row (w : World) (m : Nat) : ∃ g, (w.alloc (.cells (madeCells (Sh 0 ⟨#[]⟩ 0).cells m) 61)).rowIs w.heap.size 61 m g := by
  have h := World.rowIs_alloc w (madeCells (Sh 0 ⟨#[]⟩ 0).cells m) 61 (fun i => ((madeCells (Sh 0 ⟨#[]⟩ 0).cells m)[i]?).getD undef) (fun i hi => by rw [Array.getElem?_eq_getElem hi]; rfl)
  rw [size_madeCells] at h
  exact ⟨_, h⟩

/-- One shape more stored. -/
theorem row_step {w : World} {b n k : Nat} {g : Nat → Value} {f : Nat → Shp} (h : w.rowIs b 61 (n * 3) g) (hall : ∀ j, j < k * 3 → g j = cellOf f j) :
    ∃ g', (((w.setCell ⟨b, k * 3, none⟩ (.int .i64 (f k).parent)).setCell ⟨b, k * 3 + 1, none⟩ (.string (f k).key)).setCell ⟨b, k * 3 + 2, none⟩ (.int .i64 (f k).count)).rowIs b 61 (n * 3) g' ∧ ∀ j, j < (k + 1) * 3 → g' j = cellOf f j := by
  refine ⟨_, ((h.set _ _).set _ _).set _ _, fun j hj => ?_⟩
  by_cases e2 : j = k * 3 + 2
  · subst e2; simp [cellOf2]
  · by_cases e1 : j = k * 3 + 1
    · subst e1; simp [cellOf1]
    · by_cases e0 : j = k * 3
      · subst e0; simp [cellOf0]
      · simp only [e0, e1, e2, if_false]
        exact hall j (by omega)

/-- Two rows of shapes, the same. -/
def same3 (n : Nat) (f g : Nat → Shp) : Prop := ∀ i, i < n → (f i).parent = (g i).parent ∧ (f i).key.toList = (g i).key.toList ∧ (f i).count = (g i).count

end Go.Proofs.Ytgiegkigfokdmaa
