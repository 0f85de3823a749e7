/-
  Shapes: the laws' own small functions on a row of shapes.
-/
import Derived.Test.YtgiegkigfokdmabHide
import Derived.WalkKit
import Derived.WalkSpells
import Derived.WalkLawsBesides
import Derived.Below
import Derived.Deep.OwnRows
namespace Go.Proofs.Ytgiegkigfokdmab
open Go.RowKit
set_option linter.unusedVariables false

/-- A shape. -/
structure Shp where
  parent : Int
  key : ByteArray
  count : Int
instance : Inhabited Shp := ⟨⟨0, ⟨#[]⟩, 0⟩⟩

abbrev Sh (p : Int) (k : ByteArray) (c : Int) : Value := .agg #[.int .i64 p, .string k, .int .i64 c]

/-- A row of n shapes at an address: nil where there is none. -/
def ShAt (w : World) (a : Option Addr) (n : Nat) (f : Nat → Shp) : Prop :=
  n = 0 ∨ ∃ b off, a = some ⟨b, off, none⟩ ∧ b < w.heap.size ∧ ∀ i, i < n → w.cell? ⟨b, off + i * 3, none⟩ = some (.int .i64 (f i).parent) ∧ w.cell? ⟨b, off + i * 3 + 1, none⟩ = some (.string (f i).key) ∧ w.cell? ⟨b, off + i * 3 + 2, none⟩ = some (.int .i64 (f i).count)

theorem ShAt.below {w w' : World} {B : Nat} {a : Option Addr} {n : Nat} {f : Nat → Shp} (h : ShAt w a n f) (hb : Below B w w') (hB : B = w.heap.size) : ShAt w' a n f := by
  subst hB
  rcases h with h | ⟨b, off, e, hlt, hc⟩
  · exact .inl h
  · refine .inr ⟨b, off, e, Nat.lt_of_lt_of_le hlt hb.size, fun i hi => ?_⟩
    obtain ⟨h0, h1, h2⟩ := hc i hi
    exact ⟨(hb.cell (by exact hlt)).trans h0, (hb.cell (by exact hlt)).trans h1, (hb.cell (by exact hlt)).trans h2⟩

set_option maxHeartbeats 400000 in
theorem szShape_any (p : Int) (k : ByteArray) (c : Int) (left : Int) (w : World) (hs : k.size ≤ maxLen) (h0 : 0 ≤ left) (h1 : left ≤ 1048576) :
    Calls Try.prog 55 #[Sh p k c, .int .i64 left] w fun e w' => e = .returned (.int .i64 (if left < k.size then -1 else left - k.size)) ∧ Below w.heap.size w w' := by
  unfold maxLen at hs
  by_cases h : left < k.size
  · rw [if_pos h]
    go_enter Try.func55, Try.ntmps55
    go_wp2
    go_ret
    exact ⟨by simp, (Below.refl _ _).alloc (Nat.le_refl _) _⟩
  · rw [if_neg h]
    go_enter Try.func55, Try.ntmps55
    go_wp2
    go_ret
    exact ⟨by simp, (Below.refl _ _).alloc (Nat.le_refl _) _⟩

set_option maxHeartbeats 400000 in
theorem toShape_any (p : Int) (k : ByteArray) (c : Int) (w : World) :
    Calls Try.prog 56 #[Sh p k c] w fun e w' => e = .returned (Sh p k c) ∧ Below w.heap.size w w' := by
  go_enter Try.func56, Try.ntmps56
  go_wp2
  exact bodyPost_ret (v := Sh p k c) (by simp [results, Try.results56, go_sem]) rfl ⟨rfl, (((Below.refl _ _).alloc (Nat.le_refl _) _).alloc (by simp) _).alloc (by simp; omega) _⟩

set_option maxHeartbeats 1000000 in
theorem eqShape_any (p q : Int) (k l : ByteArray) (c d : Int) (w : World) :
    Calls Try.prog 61 #[Sh p k c, Sh q l d] w fun e w' => e = .returned (.bool (p == q && (k.toList == l.toList) && c == d)) ∧ Below w.heap.size w w' := by
  go_enter Try.func61, Try.ntmps61
  go_wp2
  all_goals (go_ret; refine ⟨by simp_all, ((Below.refl _ _).alloc (Nat.le_refl _) _).alloc (by simp) _⟩)

/-- What a row of shapes weighs at most. -/
def Light (n : Nat) (f : Nat → Shp) : Prop := n ≤ 1048576 ∧ ∀ i, i < n → (f i).key.size ≤ 1048576

set_option maxHeartbeats 1000000 in
theorem szShapeS_any (a : Option Addr) (n cap : Nat) (f : Nat → Shp) (w : World) (hA : ShAt w a n f) (hn : n ≤ maxLen) (hk : ∀ i, i < n → (f i).key.size ≤ maxLen) :
    Calls Try.prog 31 #[.slice a n cap, .int .i64 1048576] w fun e w' => (∃ r : Int, e = .returned (.int .i64 r) ∧ (r = -1 ∨ 0 ≤ r ∧ r ≤ 1048576 ∧ Light n f)) ∧ Below w.heap.size w w' := by
  unfold maxLen at hn
  by_cases h : (1048576 : Int) < n
  · go_enter Try.func31, Try.ntmps31
    go_wp2
    go_ret
    exact ⟨⟨-1, by simp, .inl rfl⟩, Below.refl _ _⟩
  rcases hA with rfl | ⟨b, off, rfl, hlt, hc⟩
  · go_enter Try.func31, Try.ntmps31
    go_wp2
    go_loopw [1, 5] (fun l i wr => i = .int .i64 0 ∧ l = .int .i64 1048576 ∧ wr = w) (fun _ i _ => 0)
    case atStart => simp
    case round =>
      obtain ⟨rfl, rfl, rfl⟩ := hrel
      go_wp2
      go_ret
      exact ⟨⟨1048576, by simp, .inr ⟨by omega, by omega, by omega, fun i hi => by omega⟩⟩, Below.refl _ _⟩
  have HC := hide hc
  have HK := hide hk
  clear hc hk
  go_enter Try.func31, Try.ntmps31
  go_wp2
  go_loopw [1, 5] (fun l i wr => ∃ (k : Nat) (left : Int), k ≤ n ∧ i = .int .i64 k ∧ l = .int .i64 left ∧ 0 ≤ left ∧ left ≤ 1048576 ∧ Below w.heap.size w wr ∧ ∀ j, j < k → (f j).key.size ≤ 1048576) (fun _ i _ => n - (intOf i).toNat)
  case atStart => exact ⟨0, 1048576 - n, by omega, rfl, by simp, by omega, by omega, Below.refl _ _, fun j hj => by omega⟩
  case round =>
    obtain ⟨k, left, hk, rfl, rfl, hl0, hl1, hb, hall⟩ := hrel
    have c0 : k < n → wr.cell? ⟨b, off + k * 3, none⟩ = some (.int .i64 (f k).parent) := fun h => (hb.cell (by exact hlt)).trans (unhide HC k h).1
    have c1 : k < n → wr.cell? ⟨b, off + k * 3 + 1, none⟩ = some (.string (f k).key) := fun h => (hb.cell (by exact hlt)).trans (unhide HC k h).2.1
    have c2 : k < n → wr.cell? ⟨b, off + k * 3 + 2, none⟩ = some (.int .i64 (f k).count) := fun h => (hb.cell (by exact hlt)).trans (unhide HC k h).2.2
    have HB := hide hb
    have HALL := hide hall
    clear hb hall
    go_wp2_with (go_at_call 55; refine (szShape_any (f k).parent (f k).key (f k).count left _ (unhide HK k (by omega)) (by omega) (by omega)).mono ?_; rintro e w1 ⟨rfl, hb1⟩)
    · have hb1' : Below w.heap.size w w1 := (unhide HB).trans (hb1.mono (unhide HB).size)
      go_ret
      exact ⟨⟨-1, by simp, .inl rfl⟩, hb1'⟩
    · have hlt : k < n := by assumption
      have hge : 0 ≤ if left < ((f k).key.size : Int) then -1 else left - ((f k).key.size : Int) := by assumption
      have hsz : ¬ left < ((f k).key.size : Int) := fun h => by rw [if_pos h] at hge; omega
      have hb1' : Below w.heap.size w w1 := (unhide HB).trans (hb1.mono (unhide HB).size)
      go_roundw
      case rel =>
        refine ⟨k + 1, left - (f k).key.size, by omega, by go_num, by rw [if_neg hsz], by omega, by omega, hb1', fun j hj => ?_⟩
        by_cases e : j = k
        · subst e; omega
        · exact (unhide HALL) j (by omega)
      case measure => simp [intOf]; omega
    · have : k = n := by omega
      subst this
      go_ret
      exact ⟨⟨left, by simp, .inr ⟨hl0, hl1, by omega, unhide HALL⟩⟩, unhide HB⟩
end Go.Proofs.Ytgiegkigfokdmab
