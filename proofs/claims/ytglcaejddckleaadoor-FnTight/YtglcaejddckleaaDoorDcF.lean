/-
  Dicts: the model's rule 4.
-/
import Derived.Test.YtglcaejddckleaaDoorDcE
namespace Go.Proofs.YtglcaejddckleaaDoor
open Go.RowKit
set_option linter.unusedVariables false
attribute [local go_sem] run_store_float run_equalIn_float

/-- What rule 2 says of each entry of the log. -/
def Entry (d : Dc) (i : Nat) : Prop := ((d.L i).turn = 0 ∧ noneB (d.L i).key = true ∧ noneB (d.L i).val = true) ∨ (0 < (d.L i).turn ∧ (d.L i).turn ≤ d.turns ∧ keyB (d.L i).key = true ∧ (d.L i).val.ok = true ∧ (d.L i).val.kind ≠ 0)
theorem logTo_entries {d : Dc} : ∀ (k : Nat) {live last : Int}, logTo d k = some (live, last) → 0 ≤ last ∧ ∀ i, i < k → Entry d i := by
  intro k
  induction k with
  | zero => intro live last h; simp [logTo] at h; exact ⟨by omega, fun i hi => by omega⟩
  | succ k ih =>
    intro live last h
    cases hk : logTo d k with
    | none => rw [logTo_none' hk (by omega)] at h; cases h
    | some x =>
      obtain ⟨l0, t0⟩ := x
      obtain ⟨i1, i2⟩ := ih hk
      by_cases ht : (d.L k).turn = 0
      · rw [logTo_dead hk ht] at h
        split at h
        · next hn =>
          simp only [Option.some.injEq, Prod.mk.injEq] at h
          refine ⟨by omega, fun i hi => ?_⟩
          by_cases e : i = k
          · subst e; left; simpa [ht] using hn
          · exact i2 i (by omega)
        · cases h
      · rw [logTo_live hk ht] at h
        split at h
        · next hn =>
          simp only [Option.some.injEq, Prod.mk.injEq] at h
          unfold pairB at hn
          simp at hn
          refine ⟨by omega, fun i hi => ?_⟩
          by_cases e : i = k
          · subst e; right; exact ⟨by omega, hn.1.1.1.2, hn.1.1.2, hn.1.2, hn.2⟩
          · exact i2 i (by omega)
        · cases h
theorem D2.entry {d : Dc} (h : D2 d) {i : Nat} (hi : i < d.n) : Entry d i := by
  obtain ⟨l, e⟩ := h
  exact (logTo_entries d.n e).2 i hi
theorem D2.pos {d : Dc} (h : D2 d) {i : Nat} (hi : i < d.n) (ht : (d.L i).turn ≠ 0) : 0 < (d.L i).turn ∧ keyB (d.L i).key = true := by
  rcases h.entry hi with h | h
  · exact absurd h.1 ht
  · exact ⟨h.1, h.2.2.1⟩

def indexedK (d : Dc) (i : Nat) : Prop := 0 < (d.L i).turn ∧ ¬ smallK d.m (d.L i).key

theorem pow2_half {a : Nat} (h : 1 ≤ a) : Pow2 (2 * a) ↔ Pow2 a := by
  constructor
  · rintro ⟨k, hk⟩
    cases k with
    | zero => simp at hk; omega
    | succ k => exact ⟨k, by rw [Nat.pow_succ] at hk; omega⟩
  · rintro ⟨k, hk⟩
    exact ⟨k + 1, by rw [Nat.pow_succ, hk]; omega⟩
theorem pow2_odd {a : Nat} (h : 1 < a) (ho : a % 2 ≠ 0) : ¬ Pow2 a := by
  rintro ⟨k, hk⟩
  cases k with
  | zero => simp at hk; omega
  | succ k => rw [Nat.pow_succ] at hk; omega
theorem pow2_one : Pow2 1 := ⟨0, rfl⟩

theorem usedTo_le (d : Dc) (k : Nat) : usedTo d k ≤ k := by
  induction k with
  | zero => exact Nat.le_refl _
  | succ k ih => unfold usedTo; split <;> omega

def SizeX (x : Nat) : Prop := x = 0 ∨ (8 ≤ x ∧ x ≤ 4000 ∧ Pow2 x)
theorem not_D4 {d : Dc} {k : Nat} (hk : k < d.x) (h : ¬ okSlot d k) : tells (D4 d) = false := tells_no (fun h' => h (h'.2.1 k hk))
theorem not_D4' {d : Dc} (h : ¬ SizeX d.x) : tells (D4 d) = false := tells_no (fun h' => h h'.1)

end Go.Proofs.YtglcaejddckleaaDoor
