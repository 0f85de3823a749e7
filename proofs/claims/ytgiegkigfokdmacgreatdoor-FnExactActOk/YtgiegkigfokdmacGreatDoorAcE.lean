/-
  Acts: what the program's ActOk asks is what the model's asks.
-/
import Derived.Test.YtgiegkigfokdmacGreatDoorAcA
namespace Go.Proofs.YtgiegkigfokdmacGreatDoor
open Go.RowKit
set_option linter.unusedVariables false

def nmI (op : Int) : Int := if op = 2 then 25 else if op = 3 then 9 else if op = 4 then 5 else if op = 5 then 1 else if op = 6 then 1 else if op = 7 then 8 else if op = 8 then 3 else if op = 9 then 19 else 0
def belowB (n lim nm : Int) : Bool := decide (0 ≤ n) && decide (n < if nm = 0 then 1 else lim)
def operB (v : Vl) (nm : Int) : Bool := v.ok && (nm != 0 || v.kind == 0)
abbrev bt (op m : Int) : Int := bits .and .i64 (nmI op) m
def implB (a : Ac) : Bool := belowB a.t 100 (bt a.op 1) && belowB a.site 50 (bt a.op 2) && belowB a.n 1000000000001 (bt a.op 4) && operB a.k (bt a.op 8) && operB a.v (bt a.op 16) && (a.op != 7 || a.k.kind == 4)

theorem bt1 : bt 1 1 = 0 ∧ bt 1 2 = 0 ∧ bt 1 4 = 0 ∧ bt 1 8 = 0 ∧ bt 1 16 = 0 := by decide
theorem bt2 : bt 2 1 = 1 ∧ bt 2 2 = 0 ∧ bt 2 4 = 0 ∧ bt 2 8 = 8 ∧ bt 2 16 = 16 := by decide
theorem bt3 : bt 3 1 = 1 ∧ bt 3 2 = 0 ∧ bt 3 4 = 0 ∧ bt 3 8 = 8 ∧ bt 3 16 = 0 := by decide
theorem bt4 : bt 4 1 = 1 ∧ bt 4 2 = 0 ∧ bt 4 4 = 4 ∧ bt 4 8 = 0 ∧ bt 4 16 = 0 := by decide
theorem bt5 : bt 5 1 = 1 ∧ bt 5 2 = 0 ∧ bt 5 4 = 0 ∧ bt 5 8 = 0 ∧ bt 5 16 = 0 := by decide
theorem bt6 : bt 6 1 = 1 ∧ bt 6 2 = 0 ∧ bt 6 4 = 0 ∧ bt 6 8 = 0 ∧ bt 6 16 = 0 := by decide
theorem bt7 : bt 7 1 = 0 ∧ bt 7 2 = 0 ∧ bt 7 4 = 0 ∧ bt 7 8 = 8 ∧ bt 7 16 = 0 := by decide
theorem bt8 : bt 8 1 = 1 ∧ bt 8 2 = 2 ∧ bt 8 4 = 0 ∧ bt 8 8 = 0 ∧ bt 8 16 = 0 := by decide
theorem bt9 : bt 9 1 = 1 ∧ bt 9 2 = 2 ∧ bt 9 4 = 0 ∧ bt 9 8 = 0 ∧ bt 9 16 = 16 := by decide

theorem implB1 (t s n : Int) (k v : Vl) : implB ⟨1, t, s, n, k, v⟩ = actB ⟨1, t, s, n, k, v⟩ := by
  obtain ⟨e1, e2, e3, e4, e5⟩ := bt1
  unfold implB actB rngB bareB belowB operB nonB
  simp only [e1, e2, e3, e4, e5]
  cases hk : k.ok <;> cases hv : v.ok <;> simp
  rw [Bool.eq_iff_iff]
  simp
  omega

theorem implB2 (t s n : Int) (k v : Vl) : implB ⟨2, t, s, n, k, v⟩ = actB ⟨2, t, s, n, k, v⟩ := by
  obtain ⟨e1, e2, e3, e4, e5⟩ := bt2
  unfold implB actB rngB bareB belowB operB nonB
  simp only [e1, e2, e3, e4, e5]
  cases hk : k.ok <;> cases hv : v.ok <;> simp
  rw [Bool.eq_iff_iff]
  simp
  omega

theorem implB3 (t s n : Int) (k v : Vl) : implB ⟨3, t, s, n, k, v⟩ = actB ⟨3, t, s, n, k, v⟩ := by
  obtain ⟨e1, e2, e3, e4, e5⟩ := bt3
  unfold implB actB rngB bareB belowB operB nonB
  simp only [e1, e2, e3, e4, e5]
  cases hk : k.ok <;> cases hv : v.ok <;> simp
  rw [Bool.eq_iff_iff]
  simp
  omega

theorem implB4 (t s n : Int) (k v : Vl) : implB ⟨4, t, s, n, k, v⟩ = actB ⟨4, t, s, n, k, v⟩ := by
  obtain ⟨e1, e2, e3, e4, e5⟩ := bt4
  unfold implB actB rngB bareB belowB operB nonB
  simp only [e1, e2, e3, e4, e5]
  cases hk : k.ok <;> cases hv : v.ok <;> simp
  rw [Bool.eq_iff_iff]
  simp
  omega

theorem implB5 (t s n : Int) (k v : Vl) : implB ⟨5, t, s, n, k, v⟩ = actB ⟨5, t, s, n, k, v⟩ := by
  obtain ⟨e1, e2, e3, e4, e5⟩ := bt5
  unfold implB actB rngB bareB belowB operB nonB
  simp only [e1, e2, e3, e4, e5]
  cases hk : k.ok <;> cases hv : v.ok <;> simp
  rw [Bool.eq_iff_iff]
  simp
  omega

theorem implB6 (t s n : Int) (k v : Vl) : implB ⟨6, t, s, n, k, v⟩ = actB ⟨6, t, s, n, k, v⟩ := by
  obtain ⟨e1, e2, e3, e4, e5⟩ := bt6
  unfold implB actB rngB bareB belowB operB nonB
  simp only [e1, e2, e3, e4, e5]
  cases hk : k.ok <;> cases hv : v.ok <;> simp
  rw [Bool.eq_iff_iff]
  simp
  omega

theorem implB7 (t s n : Int) (k v : Vl) : implB ⟨7, t, s, n, k, v⟩ = actB ⟨7, t, s, n, k, v⟩ := by
  obtain ⟨e1, e2, e3, e4, e5⟩ := bt7
  unfold implB actB rngB bareB belowB operB nonB
  simp only [e1, e2, e3, e4, e5]
  cases hk : k.ok <;> cases hv : v.ok <;> simp
  rw [Bool.eq_iff_iff]
  simp
  omega

theorem implB8 (t s n : Int) (k v : Vl) : implB ⟨8, t, s, n, k, v⟩ = actB ⟨8, t, s, n, k, v⟩ := by
  obtain ⟨e1, e2, e3, e4, e5⟩ := bt8
  unfold implB actB rngB bareB belowB operB nonB
  simp only [e1, e2, e3, e4, e5]
  cases hk : k.ok <;> cases hv : v.ok <;> simp
  rw [Bool.eq_iff_iff]
  simp
  omega

theorem implB9 (t s n : Int) (k v : Vl) : implB ⟨9, t, s, n, k, v⟩ = actB ⟨9, t, s, n, k, v⟩ := by
  obtain ⟨e1, e2, e3, e4, e5⟩ := bt9
  unfold implB actB rngB bareB belowB operB nonB
  simp only [e1, e2, e3, e4, e5]
  cases hk : k.ok <;> cases hv : v.ok <;> simp
  rw [Bool.eq_iff_iff]
  simp
  omega

theorem implB_eq (a : Ac) (h1 : 1 ≤ a.op) (h9 : a.op ≤ 9) : implB a = actB a := by
  obtain ⟨op, t, s, n, k, v⟩ := a
  have h1 : 1 ≤ op := h1
  have h9 : op ≤ 9 := h9
  rcases (by omega : op = 1 ∨ op = 2 ∨ op = 3 ∨ op = 4 ∨ op = 5 ∨ op = 6 ∨ op = 7 ∨ op = 8 ∨ op = 9) with rfl | rfl | rfl | rfl | rfl | rfl | rfl | rfl | rfl
  · exact implB1 t s n k v
  · exact implB2 t s n k v
  · exact implB3 t s n k v
  · exact implB4 t s n k v
  · exact implB5 t s n k v
  · exact implB6 t s n k v
  · exact implB7 t s n k v
  · exact implB8 t s n k v
  · exact implB9 t s n k v
end Go.Proofs.YtgiegkigfokdmacGreatDoor
