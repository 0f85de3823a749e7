/-
  JdP.
-/
import Derived.Test.YtnjgebncghdajaaGreatDoorIdRP
import Derived.Test.YtnjgebncghdajaaGreatDoorBi11
namespace Go.Proofs.YtnjgebncghdajaaGreatDoor
open Go.RowKit
set_option linter.unusedVariables false
set_option linter.unusedSimpArgs false
attribute [local go_sem] run_store_float run_equalIn_float

def ds0 : Ds := ⟨0, fun _ => default, 0, fun _ => ⟨#[]⟩⟩
theorem ds0_good : ds0.Good := ⟨by decide, by decide, fun i h => absurd h (Nat.not_lt_zero _), fun i h => absurd h (Nat.not_lt_zero _)⟩
/-- The desk behind the first k acts; what act i answers. -/
def aft (f : Nat → Ac) : Nat → Ds
  | 0 => ds0
  | k + 1 => (aft f k).step (f k)
def ansF (f : Nat → Ac) (i : Nat) : An := (aft f i).ans (f i)
theorem aft_good (f : Nat → Ac) : ∀ k, (aft f k).Good
  | 0 => ds0_good
  | k + 1 => (aft_good f k).step (f k)
/-- The cells of k answers. -/
def anR (g : Nat → An) : Nat → List Value
  | 0 => []
  | k + 1 => anR g k ++ anL (g k)
theorem anR_length (g : Nat → An) (n : Nat) : (anR g n).length = n * 12 := by
  induction n with
  | zero => rfl
  | succ n ih => simp [anR, ih, anL]; omega
theorem anR_get {g : Nat → An} {n i j : Nat} (hi : i < n) (hj : j < 12) : (anR g n)[i * 12 + j]? = (anL (g i))[j]? := by
  induction n with
  | zero => omega
  | succ n ih =>
    show (anR g n ++ anL (g n))[i * 12 + j]? = _
    by_cases h : i < n
    · rw [List.getElem?_append_left (by rw [anR_length]; omega), ih h]
    · have : i = n := by omega
      subst this
      rw [List.getElem?_append_right (by rw [anR_length]; omega), anR_length, show i * 12 + j - i * 12 = j by omega]
/-- A row of acts. -/
def AcAt (w : World) (v : Value) (n : Nat) (f : Nat → Ac) : Prop :=
  ∃ b cp, v = .slice (some ⟨b, 0, none⟩) n cp ∧ b < w.heap.size ∧ ∀ i, i < n → ∀ j u, (ActBx (f i)).toList[j]? = some u → w.cell? ⟨b, i * 14 + j, none⟩ = some u
theorem AcAt.below {w w' : World} {v : Value} {n : Nat} {f : Nat → Ac} (h : AcAt w v n f) (hb : Below w.heap.size w w') : AcAt w' v n f := by
  obtain ⟨b, cp, hv, hl, hc⟩ := h
  exact ⟨b, cp, hv, Nat.lt_of_lt_of_le hl hb.size, fun i hi j u hu => (hb.cell (p := ⟨b, i * 14 + j, none⟩) hl).trans (hc i hi j u hu)⟩
abbrev AOwn (w : World) (B : Nat) (v : Value) (n : Nat) (g : Nat → An) : Prop := w.ownsRow B 50 12 v n (anR g n)
abbrev IdV (ok : Bool) (va vT : Value) : Value := .agg #[.bool ok, va, vT]

/-- An answer laid whole into a new box. -/
def anO (x : An) : Value := AnV x
theorem sz_ans (w : World) : (sizeOf 50).run Tryz.prog w = .ok 12 w := by kernel_rfl
theorem anL_one (x : An) : ∀ u ∈ anL x, u.oneCell' = true := by
  intro u h
  simp only [anL, List.mem_cons, List.not_mem_nil, or_false] at h
  rcases h with rfl | rfl | rfl | rfl | rfl | rfl | rfl | rfl | rfl | rfl | rfl | rfl <;> rfl
set_option maxRecDepth 100000 in
theorem st_ans (w : World) (x : An) : (Instr.storeAt 50 (.pointer (some ⟨w.heap.size, 0, none⟩)) (anO x)).run Tryz.prog (w.alloc (.cells An0 50)) = .ok () (w.alloc (.cells (anL x).toArray 50)) := by
  have h := storeCells_new (P := Tryz.prog) w 50 (anL x) [] An0.toList rfl (anL_one x)
  have hs := sz_ans
  unfold Instr.storeAt storeVar
  simp only [List.nil_append, List.length_nil] at h
  have hc : (anO x).cells.toList = anL x := rfl
  have hn : (anO x).cells.size = 12 := rfl
  simp only [Sem.run_bind]
  have hsa : ∀ w', (Instr.sureAddr (.pointer (some ⟨w.heap.size, 0, none⟩))).run Tryz.prog w' = .ok ⟨w.heap.size, 0, none⟩ w' := fun w' => by simp [go_sem]
  simp [hsa, hs, hc, hn]
  exact h
theorem ans_cells {w : World} {b : Nat} {x : An} (h : w.heap[b]? = some (.cells (anL x).toArray 50 (0, 0))) : ∀ j u, (anL x)[j]? = some u → w.cell? ⟨b, j, none⟩ = some u := fun j u hu => by
  rw [cell_of_row w b j _ _ _ h]; simpa using hu
theorem desk0 {ty : TypeId} {w : World} {c B : Nat} (hb : B ≤ c) (h : w.heap[c]? = some (.cells #[.slice none 0 0, .slice none 0 0] ty (0, 0))) : DeskM ty w c B (.slice none 0 0) (.slice none 0 0) (fun _ => .slice none 0 0) ds0 :=
  ⟨hb, h, World.ownsRow_nil _ _ _ _, fun i hi => absurd hi (Nat.not_lt_zero _), World.ownsRow_nil _ _ _ _, by simp [Value.ownBlock], by simp [Value.ownBlock], fun i hi => absurd hi (Nat.not_lt_zero _), by simp [Value.ownBlock], by simp [Value.ownBlock], by simp [Value.ownBlock], fun g i j hi => absurd hi (Nat.not_lt_zero _)⟩
end Go.Proofs.YtnjgebncghdajaaGreatDoor
