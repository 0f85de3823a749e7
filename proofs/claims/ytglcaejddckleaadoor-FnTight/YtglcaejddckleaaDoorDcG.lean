/-
  Dicts: keys looked for, by the model.
-/
import Derived.Test.YtglcaejddckleaaDoorDcF
import Derived.Laws.Bits64b
namespace Go.Proofs.YtglcaejddckleaaDoor
open Go.RowKit
set_option linter.unusedVariables false
attribute [local go_sem] run_store_float run_equalIn_float

def feq (a b : Nat) : Bool := FloatKind.f64.format.order a b == some .eq
def likeB (a b : Vl) : Bool := a.kind == b.kind && (a.num == b.num && (feq a.flt b.flt && (a.str.toList == b.str.toList && a.ref == b.ref)))
def probe (d : Dc) (v : Vl) : Nat → Nat → Option Nat
  | _, 0 => none
  | at0, f + 1 => if d.X at0 = 0 then none else if 0 < d.X at0 ∧ likeB (d.at (d.X at0)).key v = true then some at0 else probe d v ((at0 + 1) % d.x) f
def slotOf (d : Dc) (v : Vl) (h : Nat) : Option Nat := if d.x = 0 then none else probe d v (h % d.x) d.x
def slotI : Option Nat → Int
  | none => -1
  | some s => s
def slotP (d : Dc) : Option Nat → Int
  | none => -1
  | some s => d.X s - 1
open Classical in
noncomputable def placeI (d : Dc) (v : Vl) (h : Nat) : Int := if smallK d.m v then d.I (v.num - 1).toNat - 1 else slotP d (slotOf d v h)

theorem probe_zero {d : Dc} {v : Vl} {a f : Nat} (h : d.X a = 0) : probe d v a (f + 1) = none := if_pos h
theorem probe_hit {d : Dc} {v : Vl} {a f : Nat} (h : 0 < d.X a) (hl : likeB (d.at (d.X a)).key v = true) : probe d v a (f + 1) = some a := by
  show (if _ then _ else _) = _
  rw [if_neg (by omega), if_pos ⟨h, hl⟩]
theorem probe_next {d : Dc} {v : Vl} {a f : Nat} (h : d.X a ≠ 0) (hl : ¬ (0 < d.X a ∧ likeB (d.at (d.X a)).key v = true)) : probe d v a (f + 1) = probe d v ((a + 1) % d.x) f := by
  show (if _ then _ else _) = _
  rw [if_neg h, if_neg hl]
theorem probe_lt {d : Dc} {v : Vl} (hx : 0 < d.x) : ∀ (f a s : Nat), a < d.x → probe d v a f = some s → s < d.x ∧ 0 < d.X s := by
  intro f
  induction f with
  | zero => intro a s _ h; cases h
  | succ f ih =>
    intro a s ha h
    by_cases h0 : d.X a = 0
    · rw [probe_zero h0] at h; cases h
    · by_cases hl : 0 < d.X a ∧ likeB (d.at (d.X a)).key v = true
      · rw [probe_hit hl.1 hl.2] at h
        cases h
        exact ⟨ha, hl.1⟩
      · rw [probe_next h0 hl] at h
        exact ih _ _ (Nat.mod_lt _ hx) h
theorem slotOf_lt {d : Dc} {v : Vl} {h s : Nat} (e : slotOf d v h = some s) : s < d.x ∧ 0 < d.X s := by
  unfold slotOf at e
  split at e
  · cases e
  · exact probe_lt (by omega) _ _ _ (Nat.mod_lt _ (by omega)) e

theorem and_mask {x h : Nat} (hp : Pow2 x) (hx : x ≤ 4000) (hh : h < 18446744073709551616) : bits BinOp.and IntKind.u64 (h : Int) ((x : Int) - 1) = ((h % x : Nat) : Int) := by
  obtain ⟨k, rfl⟩ := hp
  have h1 : 0 < 2 ^ k := Nat.two_pow_pos k
  have e : (((2 ^ k : Nat) : Int) - 1) = ((2 ^ k - 1 : Nat) : Int) := by omega
  rw [e, bits_and_u64_nat _ _ hh (by omega), Nat.and_two_pow_sub_one_eq_mod]

end Go.Proofs.YtglcaejddckleaaDoor
