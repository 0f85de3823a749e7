/-
  Shapes in the first cells of a greater block: compared, marked, held.
-/
import Derived.Test.YtgiegkigfokdmaaFoE
import Derived.Test.YtgiegkigfokdmaaFoI
namespace Go.Proofs.Ytgiegkigfokdmaa
open Go.RowKit
set_option linter.unusedVariables false

abbrev ShIn (w : World) (b n : Nat) (f : Nat → Shp) : Prop := ShRow w b n f
theorem ShIn.lt {w : World} {b n : Nat} {f : Nat → Shp} (h : ShIn w b n f) : b < w.heap.size := ShRow.lt h
theorem ShIn.cells {w : World} {b n : Nat} {f : Nat → Shp} (h : ShIn w b n f) {i : Nat} (hi : i < n) :
    w.cell? ⟨b, i * 3, none⟩ = some (.int .i64 (f i).parent) ∧ w.cell? ⟨b, i * 3 + 1, none⟩ = some (.string (f i).key) ∧ w.cell? ⟨b, i * 3 + 2, none⟩ = some (.int .i64 (f i).count) := ShRow.cells h hi
theorem ShIn.of_block {w w' : World} {b n : Nat} {f : Nat → Shp} (h : ShIn w b n f) (e : w'.heap[b]? = w.heap[b]?) : ShIn w' b n f := ShRow.of_block h e
theorem ShIn.below {w w' : World} {B b n : Nat} {f : Nat → Shp} (h : ShIn w b n f) (hb : Below B w w') (hB : b < B) : ShIn w' b n f := ShRow.below h hb hB

theorem ShOwn.in {w : World} {base b n cp : Nat} {f : Nat → Shp} (h : ShOwn w base (.slice (some ⟨b, 0, none⟩) n cp) n f) : base ≤ b ∧ ShIn w b n f := by
  obtain ⟨hl, ⟨hv, _⟩ | ⟨g', cap, cur, hv, hb, hblk, h1, h2, h3, h4⟩⟩ := h
  · cases hv
  · cases hv
    refine ⟨hb, cp * 3, fun j => (cur[j]?).getD undef, by omega, ⟨cur, hblk, h3, fun i hi => by simp [Array.getElem?_eq_getElem (show i < cur.size by omega)]⟩, fun j hj => ?_⟩
    have h5 := shL_get (f := f) hj
    rw [← h4, List.getElem?_take, if_pos hj] at h5
    show (cur[j]?).getD undef = _
    rw [← Array.getElem?_toList, h5]
    rfl

/-- What a marked shape is. -/
def mk (i : Nat) : Shp := ⟨1 + 3 * (i : Int), mark (2 + 3 * i), 3 + 3 * (i : Int)⟩

/-- The shapes of an answer: none, or n of them in a block from lo to below hi. -/
def GV (f : Nat → Shp) (n : Nat) (w : World) (v : Value) (lo hi : Nat) : Prop :=
  (n = 0 ∧ v = .slice none 0 0) ∨ (0 < n ∧ ∃ b cp, v = .slice (some ⟨b, 0, none⟩) n cp ∧ lo ≤ b ∧ b < hi ∧ ShIn w b n f)

theorem GV.keep {f : Nat → Shp} {n : Nat} {w w' : World} {v : Value} {lo hi : Nat} (h : GV f n w v lo hi) (hk : ∀ b, lo ≤ b → b < hi → w'.heap[b]? = w.heap[b]?) : GV f n w' v lo hi := by
  rcases h with h | ⟨h0, b, cp, h1, h2, h3, h4⟩
  · exact .inl h
  · exact .inr ⟨h0, b, cp, h1, h2, h3, h4.of_block (hk b h2 h3)⟩

theorem GV.below {f : Nat → Shp} {n : Nat} {w w' : World} {v : Value} {lo hi B : Nat} (h : GV f n w v lo hi) (hb : Below B w w') (hB : hi ≤ B) : GV f n w' v lo hi := h.keep fun b _ h2 => hb.block b (by omega)

theorem GV.form {f : Nat → Shp} {n : Nat} {w : World} {v : Value} {lo hi : Nat} (h : GV f n w v lo hi) : ∃ a cp, v = .slice a n cp := by
  rcases h with ⟨rfl, rfl⟩ | ⟨_, b, cp, rfl, _⟩
  · exact ⟨_, _, rfl⟩
  · exact ⟨_, _, rfl⟩

/-- All blocks but those from lo to below hi are as they were. -/
structure Out (lo hi : Nat) (w w' : World) : Prop where
  os : w'.os = w.os
  tape : w'.tape = w.tape
  output : w'.output = w.output
  size : w.heap.size ≤ w'.heap.size
  block : ∀ k, k < w.heap.size → k < lo ∨ hi ≤ k → w'.heap[k]? = w.heap[k]?
theorem Out.of {lo hi : Nat} {w w' : World} (h : Below w.heap.size w w') : Out lo hi w w' := ⟨h.os, h.tape, h.output, h.size, fun k hk _ => h.block k hk⟩
theorem Out.trans {lo hi : Nat} {u v w : World} (h : Out lo hi u v) (k : Out lo hi v w) : Out lo hi u w :=
  ⟨k.os.trans h.os, k.tape.trans h.tape, k.output.trans h.output, Nat.le_trans h.size k.size, fun q hq hn => (k.block q (Nat.lt_of_lt_of_le hq h.size) hn).trans (h.block q hq hn)⟩
theorem Out.below {lo hi : Nat} {w w' : World} (h : Out lo hi w w') (hl : lo ≤ w.heap.size) : Below lo w w' := ⟨h.os, h.tape, h.output, h.size, fun k hk => h.block k (by omega) (.inl hk)⟩
theorem But.out {b lo hi : Nat} {w w' : World} (h : But b w w') (h1 : lo ≤ b) (h2 : b < hi) : Out lo hi w w' := ⟨h.os, h.tape, h.output, h.size, fun k hk hn => h.block k hk (by omega)⟩

abbrev GrV (v : Value) (r : Int) : Value := .agg #[v, .int .i64 r]

end Go.Proofs.Ytgiegkigfokdmaa
