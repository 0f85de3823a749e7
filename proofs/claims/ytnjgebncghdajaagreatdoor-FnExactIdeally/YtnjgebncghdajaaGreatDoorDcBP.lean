/-
  DcB.
-/
import Derived.Test.YtnjgebncghdajaaGreatDoorDcAP
import Derived.Deep.RegionLaw
namespace Go.Proofs.YtnjgebncghdajaaGreatDoor
open Go.RowKit
set_option linter.unusedVariables false
attribute [local go_sem] run_store_float run_equalIn_float

/-- The cells of n pairs. -/
def pL (f : Nat → Pr) : Nat → List Value
  | 0 => []
  | k + 1 => pL f k ++ prL (f k)
theorem pL_length (f : Nat → Pr) (n : Nat) : (pL f n).length = n * 11 := by
  induction n with
  | zero => rfl
  | succ n ih => simp [pL, ih, prL]; omega
theorem pL_get {f : Nat → Pr} {n i j : Nat} (hi : i < n) (hj : j < 11) : (pL f n)[i * 11 + j]? = (prL (f i))[j]? := by
  induction n with
  | zero => omega
  | succ n ih =>
    show (pL f n ++ prL (f n))[i * 11 + j]? = _
    by_cases h : i < n
    · rw [List.getElem?_append_left (by rw [pL_length]; omega), ih h]
    · have : i = n := by omega
      subst this
      rw [List.getElem?_append_right (by rw [pL_length]; omega), pL_length, show i * 11 + j - i * 11 = j by omega]
/-- The cells of n ints. -/
def iL (f : Nat → Int) : Nat → List Value
  | 0 => []
  | k + 1 => iL f k ++ [.int .i64 (f k)]
theorem iL_length (f : Nat → Int) (n : Nat) : (iL f n).length = n := by
  induction n with
  | zero => rfl
  | succ n ih => simp [iL, ih]
theorem iL_get {f : Nat → Int} {n i : Nat} (hi : i < n) : (iL f n)[i]? = some (.int .i64 (f i)) := by
  induction n with
  | zero => omega
  | succ n ih =>
    show (iL f n ++ [.int .i64 (f n)])[i]? = _
    by_cases h : i < n
    · rw [List.getElem?_append_left (by rw [iL_length]; omega), ih h]
    · have : i = n := by omega
      subst this
      rw [List.getElem?_append_right (by rw [iL_length]; omega), iL_length]
      simp

abbrev POwn (w : World) (base : Nat) (v : Value) (n : Nat) (f : Nat → Pr) : Prop := w.ownsRow base 95 11 v n (pL f n)
abbrev IOwn (w : World) (base : Nat) (v : Value) (n : Nat) (f : Nat → Int) : Prop := w.ownsRow base 3 1 v n (iL f n)

theorem POwn.at {w : World} {base : Nat} {v : Value} {n : Nat} {f : Nat → Pr} (h : POwn w base v n f) : ∃ a cp, v = .slice a n cp ∧ PAt w a n f := by
  have h' := h
  obtain ⟨hl, ⟨hv, h0⟩ | ⟨g, cap, cur, hv, hb, hblk, h1, h2, h3, h4⟩⟩ := h'
  · subst hv h0
    exact ⟨none, 0, rfl, .inl rfl⟩
  · subst hv
    refine ⟨_, _, rfl, .inr ⟨g, 0, rfl, (h.lt g rfl).2, fun i hi => PCell.of fun j u hu => ?_⟩⟩
    have hj : j < 11 := by
      have := (List.getElem?_eq_some_iff.1 hu).1
      simpa [prL] using this
    rw [Nat.zero_add, World.ownsRow.cellAt h _ (by omega), pL_get hi hj, hu]
theorem IOwn.at {w : World} {base : Nat} {v : Value} {n : Nat} {f : Nat → Int} (h : IOwn w base v n f) : ∃ a cp, v = .slice a n cp ∧ IAt w a n f := by
  have h' := h
  obtain ⟨hl, ⟨hv, h0⟩ | ⟨g, cap, cur, hv, hb, hblk, h1, h2, h3, h4⟩⟩ := h'
  · subst hv h0
    exact ⟨none, 0, rfl, .inl rfl⟩
  · subst hv
    refine ⟨_, _, rfl, .inr ⟨g, 0, rfl, (h.lt g rfl).2, fun i hi => ?_⟩⟩
    rw [Nat.zero_add, World.ownsRow.cellAt h _ (by omega), iL_get hi]

abbrev PZ : Value := .agg #[.int .i64 0, .int .i64 0, .float .f64 0, .string ⟨#[]⟩, .int .i64 0, .int .i64 0, .int .i64 0, .float .f64 0, .string ⟨#[]⟩, .int .i64 0, .int .i64 0]
theorem infoPair : (Tryz.prog.info? 95).map (fun i => (i.zero, i.size, i.bytes)) = some (some PZ, 11, 104) := by kernel_rfl
theorem infoInt : (Tryz.prog.info? 3).map (fun i => (i.zero, i.size, i.bytes)) = some (some (.int .i64 0), 1, 8) := by kernel_rfl
theorem prL_one (p : Pr) : ∀ u ∈ prL p, u.oneCell' = true := by
  intro u hu
  simp only [prL, List.mem_cons, List.not_mem_nil, or_false] at hu
  rcases hu with rfl | rfl | rfl | rfl | rfl | rfl | rfl | rfl | rfl | rfl | rfl <;> rfl

/-- Between two rounds of the copying. -/
structure Cp (w wr : World) (ia : Option Addr) (ic : Nat) (xa : Option Addr) (xc : Nat) (d : Dc) (v0 v1 v2 : Value) : Prop where
  below : Below w.heap.size w wr
  sz : w.heap.size + 2 ≤ wr.heap.size
  a1 : wr.cell? ⟨w.heap.size, 1, none⟩ = some (.slice ia d.m ic)
  a2 : wr.cell? ⟨w.heap.size, 2, none⟩ = some (.slice xa d.x xc)
  b0 : wr.cell? ⟨w.heap.size + 1, 0, none⟩ = some v0
  b1 : wr.cell? ⟨w.heap.size + 1, 1, none⟩ = some v1
  b2 : wr.cell? ⟨w.heap.size + 1, 2, none⟩ = some v2
  b3 : wr.cell? ⟨w.heap.size + 1, 3, none⟩ = some (.int .i64 d.used)
  b4 : wr.cell? ⟨w.heap.size + 1, 4, none⟩ = some (.int .i64 d.live)
  b5 : wr.cell? ⟨w.heap.size + 1, 5, none⟩ = some (.int .i64 d.turns)
  fz : ∀ q, wr.frozen? ⟨w.heap.size + 1, q, none⟩ = false

theorem Cp.same {w wr w1 : World} {ia xa : Option Addr} {ic xc : Nat} {d : Dc} {v0 v1 v2 : Value} (h : Cp w wr ia ic xa xc d v0 v1 v2) (hb : Below (w.heap.size + 2) wr w1) : Cp w w1 ia ic xa xc d v0 v1 v2 := by
  have e : ∀ q o, q < w.heap.size + 2 → w1.cell? ⟨q, o, none⟩ = wr.cell? ⟨q, o, none⟩ := fun q o hq => hb.cell (p := ⟨q, o, none⟩) hq
  have e' : ∀ q o, q < w.heap.size + 2 → w1.frozen? ⟨q, o, none⟩ = wr.frozen? ⟨q, o, none⟩ := fun q o hq => hb.frozen (p := ⟨q, o, none⟩) hq
  exact ⟨h.below.trans (hb.mono (by omega)), Nat.le_trans h.sz hb.size, (e _ _ (by omega)).trans h.a1, (e _ _ (by omega)).trans h.a2, (e _ _ (by omega)).trans h.b0, (e _ _ (by omega)).trans h.b1, (e _ _ (by omega)).trans h.b2, (e _ _ (by omega)).trans h.b3, (e _ _ (by omega)).trans h.b4, (e _ _ (by omega)).trans h.b5, fun q => (e' _ _ (by omega)).trans (h.fz q)⟩

theorem cell_set_other {w : World} {b o o' : Nat} {v : Value} (h : o ≠ o') : (w.setCell ⟨b, o, none⟩ v).cell? ⟨b, o', none⟩ = w.cell? ⟨b, o', none⟩ := by
  apply World.cell?_setCell_other
  intro e
  cases e
  exact h rfl
theorem cell_set_block {w : World} {b b' o o' : Nat} {v : Value} (h : b ≠ b') : (w.setCell ⟨b, o, none⟩ v).cell? ⟨b', o', none⟩ = w.cell? ⟨b', o', none⟩ := by
  apply World.cell?_setCell_other
  intro e
  cases e
  exact h rfl

theorem Cp.set0 {w wr : World} {ia xa : Option Addr} {ic xc : Nat} {d : Dc} {v0 v1 v2 : Value} (h : Cp w wr ia ic xa xc d v0 v1 v2) (u : Value) : Cp w (wr.setCell ⟨w.heap.size + 1, 0, none⟩ u) ia ic xa xc d u v1 v2 :=
  ⟨h.below.setCell (by show _ ≤ w.heap.size + 1; omega) _, by simpa using h.sz, (cell_set_block (by omega)).trans h.a1, (cell_set_block (by omega)).trans h.a2, World.cell?_setCell_same' _ _ _ (by rw [h.b0]; rfl), (cell_set_other (by omega)).trans h.b1, (cell_set_other (by omega)).trans h.b2, (cell_set_other (by omega)).trans h.b3, (cell_set_other (by omega)).trans h.b4, (cell_set_other (by omega)).trans h.b5, fun q => by rw [World.frozen?_setCell]; exact h.fz q⟩
theorem Cp.set1 {w wr : World} {ia xa : Option Addr} {ic xc : Nat} {d : Dc} {v0 v1 v2 : Value} (h : Cp w wr ia ic xa xc d v0 v1 v2) (u : Value) : Cp w (wr.setCell ⟨w.heap.size + 1, 1, none⟩ u) ia ic xa xc d v0 u v2 :=
  ⟨h.below.setCell (by show _ ≤ w.heap.size + 1; omega) _, by simpa using h.sz, (cell_set_block (by omega)).trans h.a1, (cell_set_block (by omega)).trans h.a2, (cell_set_other (by omega)).trans h.b0, World.cell?_setCell_same' _ _ _ (by rw [h.b1]; rfl), (cell_set_other (by omega)).trans h.b2, (cell_set_other (by omega)).trans h.b3, (cell_set_other (by omega)).trans h.b4, (cell_set_other (by omega)).trans h.b5, fun q => by rw [World.frozen?_setCell]; exact h.fz q⟩
theorem Cp.set2 {w wr : World} {ia xa : Option Addr} {ic xc : Nat} {d : Dc} {v0 v1 v2 : Value} (h : Cp w wr ia ic xa xc d v0 v1 v2) (u : Value) : Cp w (wr.setCell ⟨w.heap.size + 1, 2, none⟩ u) ia ic xa xc d v0 v1 u :=
  ⟨h.below.setCell (by show _ ≤ w.heap.size + 1; omega) _, by simpa using h.sz, (cell_set_block (by omega)).trans h.a1, (cell_set_block (by omega)).trans h.a2, (cell_set_other (by omega)).trans h.b0, (cell_set_other (by omega)).trans h.b1, World.cell?_setCell_same' _ _ _ (by rw [h.b2]; rfl), (cell_set_other (by omega)).trans h.b3, (cell_set_other (by omega)).trans h.b4, (cell_set_other (by omega)).trans h.b5, fun q => by rw [World.frozen?_setCell]; exact h.fz q⟩

theorem grown_setCell (w : World) (a : Addr) (v : Value) : w.grownBy (w.setCell a v) (some a.block) := ⟨rfl, rfl, rfl, by simp, fun k _ hne => Deep.blk_setCell_other _ _ _ _ (fun e => hne (by rw [e]))⟩
theorem grown_below {w w' : World} {v : Value} {B : Nat} (hgr : w.grownBy w' v.ownBlock) (hlt : ∀ q, v.ownBlock = some q → B ≤ q) (hB : B ≤ w.heap.size) : Below B w w' :=
  ⟨hgr.os, hgr.tape, hgr.output, hgr.size, fun k hk => hgr.block k (by omega) (fun e => by have := hlt k e.symm; omega)⟩

theorem own_mono {w : World} {base base' e size : Nat} {v : Value} {n : Nat} {xs : List Value} (h : w.ownsRow base e size v n xs) (hb : base' ≤ base) : w.ownsRow base' e size v n xs := by
  obtain ⟨hl, h | ⟨g, cap, cur, h1, h2, h3⟩⟩ := h
  · exact ⟨hl, .inl h⟩
  · exact ⟨hl, .inr ⟨g, cap, cur, h1, Nat.le_trans hb h2, h3⟩⟩
theorem own_block {w w' : World} {base e size : Nat} {v : Value} {n : Nat} {xs : List Value} (h : w.ownsRow base e size v n xs) (hs : w.heap.size ≤ w'.heap.size) (hq : ∀ q, base ≤ q → q < w.heap.size → w'.heap[q]? = w.heap[q]?) : w'.ownsRow base e size v n xs := by
  obtain ⟨hl, h | ⟨g, cap, cur, h1, h2, h3, h4⟩⟩ := h
  · exact ⟨hl, .inl h⟩
  · exact ⟨hl, .inr ⟨g, cap, cur, h1, h2, (hq g h2 (Array.getElem?_eq_some_iff.1 h3).1).trans h3, h4⟩⟩

/-- A pointer to a dict whose rows are its own: they lie behind it. -/
structure DOwn (w : World) (c : Nat) (v0 v1 v2 : Value) (d : Dc) : Prop where
  sz : c + 1 ≤ w.heap.size
  c0 : w.cell? ⟨c, 0, none⟩ = some v0
  c1 : w.cell? ⟨c, 1, none⟩ = some v1
  c2 : w.cell? ⟨c, 2, none⟩ = some v2
  c3 : w.cell? ⟨c, 3, none⟩ = some (.int .i64 d.used)
  c4 : w.cell? ⟨c, 4, none⟩ = some (.int .i64 d.live)
  c5 : w.cell? ⟨c, 5, none⟩ = some (.int .i64 d.turns)
  fz : ∀ q, w.frozen? ⟨c, q, none⟩ = false
  log : POwn w (c + 1) v0 d.n d.L
  ints : IOwn w (c + 1) v1 d.m d.I
  index : IOwn w (c + 1) v2 d.x d.X
  ap : ∀ q, v1.ownBlock = some q → v2.ownBlock ≠ some q
theorem DOwn.ptr {w : World} {c : Nat} {v0 v1 v2 : Value} {d : Dc} (h : DOwn w c v0 v1 v2 d) : ∃ la lc ia ic xa xc, v0 = .slice la d.n lc ∧ v1 = .slice ia d.m ic ∧ v2 = .slice xa d.x xc ∧ DPtr w c 0 la lc ia ic xa xc d := by
  obtain ⟨la, lc, e0, hL⟩ := h.log.at
  obtain ⟨ia, ic, e1, hI⟩ := h.ints.at
  obtain ⟨xa, xc, e2, hX⟩ := h.index.at
  subst e0 e1 e2
  exact ⟨la, lc, ia, ic, xa, xc, rfl, rfl, rfl, h.sz, h.c0, h.c1, h.c2, h.c3, h.c4, h.c5, hL, hI, hX⟩

end Go.Proofs.YtnjgebncghdajaaGreatDoor
