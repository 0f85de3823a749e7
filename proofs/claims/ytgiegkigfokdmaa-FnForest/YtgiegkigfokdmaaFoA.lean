/-
  Shapes: the laws' own small functions on a row of shapes.
-/
import Derived.Test.YtgiegkigfokdmaaHide
import Derived.WalkKit
import Derived.WalkSpells
import Derived.WalkLawsBesides
import Derived.Below
import Derived.Deep.OwnRows
namespace Go.Proofs.Ytgiegkigfokdmaa
open Go.RowKit
set_option linter.unusedVariables false

/-- A shape. -/
structure Shp where
  parent : Int
  key : ByteArray
  count : Int
instance : Inhabited Shp := ⟨⟨0, ⟨#[]⟩, 0⟩⟩

abbrev Sh (p : Int) (k : ByteArray) (c : Int) : Value := .agg #[.int .i64 p, .string k, .int .i64 c]

/-- A row of n shapes at an address: nil where there is none. -/
def ShAt (w : World) (a : Option Addr) (n : Nat) (f : Nat → Shp) : Prop :=
  n = 0 ∨ ∃ b off, a = some ⟨b, off, none⟩ ∧ b < w.heap.size ∧ ∀ i, i < n → w.cell? ⟨b, off + i * 3, none⟩ = some (.int .i64 (f i).parent) ∧ w.cell? ⟨b, off + i * 3 + 1, none⟩ = some (.string (f i).key) ∧ w.cell? ⟨b, off + i * 3 + 2, none⟩ = some (.int .i64 (f i).count)

theorem ShAt.below {w w' : World} {B : Nat} {a : Option Addr} {n : Nat} {f : Nat → Shp} (h : ShAt w a n f) (hb : Below B w w') (hB : B = w.heap.size) : ShAt w' a n f := by
  subst hB
  rcases h with h | ⟨b, off, e, hlt, hc⟩
  · exact .inl h
  · refine .inr ⟨b, off, e, Nat.lt_of_lt_of_le hlt hb.size, fun i hi => ?_⟩
    obtain ⟨h0, h1, h2⟩ := hc i hi
    exact ⟨(hb.cell (by exact hlt)).trans h0, (hb.cell (by exact hlt)).trans h1, (hb.cell (by exact hlt)).trans h2⟩

/-- What a row of shapes weighs at most. -/
def Light (n : Nat) (f : Nat → Shp) : Prop := n ≤ 1048576 ∧ ∀ i, i < n → (f i).key.size ≤ 1048576

end Go.Proofs.Ytgiegkigfokdmaa
