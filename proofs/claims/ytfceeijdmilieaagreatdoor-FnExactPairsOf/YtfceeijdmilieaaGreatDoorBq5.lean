/-
  DcA, DcB, DcC.
-/
import Derived.Test.YtfceeijdmilieaaGreatDoorBq0
import Derived.Below
import Derived.Deep.OwnRows
import Derived.Deep.AppendLies
import Derived.Deep.RegionLaw
import Derived.Deep.QuietTactic
import Derived.BigQuiet
namespace Go.Proofs.YtfceeijdmilieaaGreatDoor
open Go.RowKit
set_option linter.unusedVariables false

structure Pr where
  key : Vl
  val : Vl
  turn : Int
instance : Inhabited Pr := ⟨⟨default, default, 0⟩⟩

/-- The eleven cells of a pair. -/
def prL (p : Pr) : List Value := [.int .i64 p.key.kind, .int .i64 p.key.num, .float .f64 p.key.flt, .string p.key.str, .int .i64 p.key.ref, .int .i64 p.val.kind, .int .i64 p.val.num, .float .f64 p.val.flt, .string p.val.str, .int .i64 p.val.ref, .int .i64 p.turn]
abbrev PV (p : Pr) : Value := .agg #[.int .i64 p.key.kind, .int .i64 p.key.num, .float .f64 p.key.flt, .string p.key.str, .int .i64 p.key.ref, .int .i64 p.val.kind, .int .i64 p.val.num, .float .f64 p.val.flt, .string p.val.str, .int .i64 p.val.ref, .int .i64 p.turn]

structure PCell (w : World) (b o : Nat) (p : Pr) : Prop where
  k0 : w.cell? ⟨b, o, none⟩ = some (.int .i64 p.key.kind)
  k1 : w.cell? ⟨b, o + 1, none⟩ = some (.int .i64 p.key.num)
  k2 : w.cell? ⟨b, o + 2, none⟩ = some (.float .f64 p.key.flt)
  k3 : w.cell? ⟨b, o + 3, none⟩ = some (.string p.key.str)
  k4 : w.cell? ⟨b, o + 4, none⟩ = some (.int .i64 p.key.ref)
  v0 : w.cell? ⟨b, o + 5, none⟩ = some (.int .i64 p.val.kind)
  v1 : w.cell? ⟨b, o + 6, none⟩ = some (.int .i64 p.val.num)
  v2 : w.cell? ⟨b, o + 7, none⟩ = some (.float .f64 p.val.flt)
  v3 : w.cell? ⟨b, o + 8, none⟩ = some (.string p.val.str)
  v4 : w.cell? ⟨b, o + 9, none⟩ = some (.int .i64 p.val.ref)
  tn : w.cell? ⟨b, o + 10, none⟩ = some (.int .i64 p.turn)

theorem PCell.of {w : World} {b o : Nat} {p : Pr} (h : ∀ j u, (prL p)[j]? = some u → w.cell? ⟨b, o + j, none⟩ = some u) : PCell w b o p :=
  ⟨h 0 _ rfl, h 1 _ rfl, h 2 _ rfl, h 3 _ rfl, h 4 _ rfl, h 5 _ rfl, h 6 _ rfl, h 7 _ rfl, h 8 _ rfl, h 9 _ rfl, h 10 _ rfl⟩
theorem PCell.keep {w w' : World} {b o : Nat} {p : Pr} (h : PCell w b o p) (e : ∀ q, w'.cell? ⟨b, q, none⟩ = w.cell? ⟨b, q, none⟩) : PCell w' b o p :=
  ⟨(e _).trans h.k0, (e _).trans h.k1, (e _).trans h.k2, (e _).trans h.k3, (e _).trans h.k4, (e _).trans h.v0, (e _).trans h.v1, (e _).trans h.v2, (e _).trans h.v3, (e _).trans h.v4, (e _).trans h.tn⟩

/-- A row of n pairs at an address. -/
def PAt (w : World) (a : Option Addr) (n : Nat) (f : Nat → Pr) : Prop :=
  n = 0 ∨ ∃ b off, a = some ⟨b, off, none⟩ ∧ b < w.heap.size ∧ ∀ i, i < n → PCell w b (off + i * 11) (f i)
/-- A row of n ints at an address. -/
def IAt (w : World) (a : Option Addr) (n : Nat) (f : Nat → Int) : Prop :=
  n = 0 ∨ ∃ b off, a = some ⟨b, off, none⟩ ∧ b < w.heap.size ∧ ∀ i, i < n → w.cell? ⟨b, off + i, none⟩ = some (.int .i64 (f i))

theorem PAt.below {w w' : World} {B : Nat} {a : Option Addr} {n : Nat} {f : Nat → Pr} (h : PAt w a n f) (hb : Below B w w') (hB : B = w.heap.size) : PAt w' a n f := by
  subst hB
  rcases h with h | ⟨b, off, e, hlt, hc⟩
  · exact .inl h
  · exact .inr ⟨b, off, e, Nat.lt_of_lt_of_le hlt hb.size, fun i hi => (hc i hi).keep (fun q => hb.cell (p := ⟨b, q, none⟩) hlt)⟩
theorem IAt.below {w w' : World} {B : Nat} {a : Option Addr} {n : Nat} {f : Nat → Int} (h : IAt w a n f) (hb : Below B w w') (hB : B = w.heap.size) : IAt w' a n f := by
  subst hB
  rcases h with h | ⟨b, off, e, hlt, hc⟩
  · exact .inl h
  · exact .inr ⟨b, off, e, Nat.lt_of_lt_of_le hlt hb.size, fun i hi => (hb.cell (p := ⟨b, off + i, none⟩) hlt).trans (hc i hi)⟩

/-- A dict. -/
structure Dc where
  n : Nat
  L : Nat → Pr
  m : Nat
  I : Nat → Int
  x : Nat
  X : Nat → Int
  used : Int
  live : Int
  turns : Int

abbrev Dv (la : Option Addr) (lc : Nat) (ia : Option Addr) (ic : Nat) (xa : Option Addr) (xc : Nat) (d : Dc) : Value := .agg #[.slice la d.n lc, .slice ia d.m ic, .slice xa d.x xc, .int .i64 d.used, .int .i64 d.live, .int .i64 d.turns]

/-- The rows of a dict. -/
structure DAt (w : World) (la ia xa : Option Addr) (d : Dc) : Prop where
  log : PAt w la d.n d.L
  ints : IAt w ia d.m d.I
  index : IAt w xa d.x d.X
theorem DAt.below {w w' : World} {la ia xa : Option Addr} {d : Dc} (h : DAt w la ia xa d) (hb : Below w.heap.size w w') : DAt w' la ia xa d := ⟨h.log.below hb rfl, h.ints.below hb rfl, h.index.below hb rfl⟩
theorem DAt.belowOf {w0 w w' : World} {la ia xa : Option Addr} {d : Dc} (h : DAt w la ia xa d) (hb : Below w.heap.size w w') : DAt w' la ia xa d := h.below hb

/-- Lengths in bounds. -/
structure Small (d : Dc) : Prop where
  n : d.n ≤ 4194304
  m : d.m ≤ 4194304
  x : d.x ≤ 4194304

/-- A pointer to a dict. -/
structure DPtr (w : World) (c o : Nat) (la : Option Addr) (lc : Nat) (ia : Option Addr) (ic : Nat) (xa : Option Addr) (xc : Nat) (d : Dc) : Prop where
  lt : c < w.heap.size
  c0 : w.cell? ⟨c, o, none⟩ = some (.slice la d.n lc)
  c1 : w.cell? ⟨c, o + 1, none⟩ = some (.slice ia d.m ic)
  c2 : w.cell? ⟨c, o + 2, none⟩ = some (.slice xa d.x xc)
  c3 : w.cell? ⟨c, o + 3, none⟩ = some (.int .i64 d.used)
  c4 : w.cell? ⟨c, o + 4, none⟩ = some (.int .i64 d.live)
  c5 : w.cell? ⟨c, o + 5, none⟩ = some (.int .i64 d.turns)
  rows : DAt w la ia xa d
theorem DPtr.below {w w' : World} {c o : Nat} {la ia xa : Option Addr} {lc ic xc : Nat} {d : Dc} (h : DPtr w c o la lc ia ic xa xc d) (hb : Below w.heap.size w w') : DPtr w' c o la lc ia ic xa xc d :=
  ⟨Nat.lt_of_lt_of_le h.lt hb.size, (hb.cell (p := ⟨c, o, none⟩) h.lt).trans h.c0, (hb.cell (p := ⟨c, o + 1, none⟩) h.lt).trans h.c1, (hb.cell (p := ⟨c, o + 2, none⟩) h.lt).trans h.c2, (hb.cell (p := ⟨c, o + 3, none⟩) h.lt).trans h.c3, (hb.cell (p := ⟨c, o + 4, none⟩) h.lt).trans h.c4, (hb.cell (p := ⟨c, o + 5, none⟩) h.lt).trans h.c5, h.rows.below hb⟩

/-! What is asked. -/
open Classical in
/-- A proposition as a bool. -/
noncomputable def tells (p : Prop) : Bool := if p then true else false
theorem tells_yes {p : Prop} (h : p) : tells p = true := if_pos h
theorem tells_no {p : Prop} (h : ¬ p) : tells p = false := if_neg h
theorem tells_iff {p : Prop} : tells p = true ↔ p := by
  by_cases h : p
  · exact ⟨fun _ => h, fun _ => tells_yes h⟩
  · exact ⟨fun e => absurd ((tells_no h).symm.trans e) (by decide), fun e => absurd e h⟩

def noneB (v : Vl) : Bool := v.kind == 0 && v.ok
def keyB (v : Vl) : Bool := v.ok && v.kind != 0 && !(v.kind == 3 && (fnan v.flt || wholeB v.flt))
def pairB (turns last : Int) (p : Pr) : Bool := decide (last < p.turn) && decide (p.turn ≤ turns) && keyB p.key && p.val.ok && p.val.kind != 0
/-- The log gone through: how many live, and the last turn. -/
def logTo (d : Dc) : Nat → Option (Int × Int)
  | 0 => some (0, 0)
  | k + 1 => match logTo d k with
    | none => none
    | some (live, last) => if (d.L k).turn = 0 then (if noneB (d.L k).key && noneB (d.L k).val then some (live, last) else none) else if pairB d.turns last (d.L k) then some (live + 1, (d.L k).turn) else none

theorem logTo_none {d : Dc} {k : Nat} (h : logTo d k = none) : ∀ j, logTo d (k + j) = none := by
  intro j
  induction j with
  | zero => exact h
  | succ j ih => show (match logTo d (k + j) with | none => none | some (live, last) => _) = none; rw [ih]
theorem logTo_none' {d : Dc} {k n : Nat} (h : logTo d k = none) (hk : k ≤ n) : logTo d n = none := by
  have := logTo_none h (n - k)
  rwa [show k + (n - k) = n by omega] at this

def D1 (d : Dc) : Prop := 0 ≤ d.live ∧ d.live ≤ 500 ∧ 0 ≤ d.turns ∧ d.turns ≤ 1000000000000 ∧ ((d.n : Int) ≤ 8 ∨ (d.n : Int) ≤ 2 * d.live)
def D2 (d : Dc) : Prop := ∃ last, logTo d d.n = some (d.live, last)
/-- The pair that an entry names. -/
abbrev Dc.at (d : Dc) (p : Int) : Pr := d.L (p - 1).toNat
def okInt (d : Dc) (i : Nat) : Prop := d.I i = 0 ∨ (0 < d.I i ∧ d.I i ≤ d.n ∧ (d.at (d.I i)).turn ≠ 0 ∧ (d.at (d.I i)).key.kind = 2 ∧ (d.at (d.I i)).key.num = i + 1)
def D3 (d : Dc) : Prop := (∀ i, i < d.m → okInt d i) ∧ (d.m = 0 ∨ 0 < d.I (d.m - 1))
def smallK (m : Nat) (k : Vl) : Prop := k.kind = 2 ∧ 1 ≤ k.num ∧ k.num ≤ m
def okSlot (d : Dc) (j : Nat) : Prop := d.X j = 0 ∨ d.X j = -1 ∨ (0 < d.X j ∧ d.X j ≤ d.n ∧ (d.at (d.X j)).turn ≠ 0 ∧ ¬ smallK d.m (d.at (d.X j)).key)
def usedTo (d : Dc) : Nat → Nat
  | 0 => 0
  | k + 1 => if d.X k = 0 then usedTo d k else usedTo d k + 1
def Pow2 (x : Nat) : Prop := ∃ k, x = 2 ^ k
def D4 (d : Dc) : Prop := (d.x = 0 ∨ (8 ≤ d.x ∧ d.x ≤ 4000 ∧ Pow2 d.x)) ∧ (∀ j, j < d.x → okSlot d j) ∧ (usedTo d d.x : Int) = d.used ∧ 2 * usedTo d d.x ≤ d.x
/-- How many of the first k entries of a row name pair i. -/
def cnt (f : Nat → Int) (i : Nat) : Nat → Nat
  | 0 => 0
  | k + 1 => if f k = (i : Int) + 1 then cnt f i k + 1 else cnt f i k
end Go.Proofs.YtfceeijdmilieaaGreatDoor
namespace Go.Proofs.YtfceeijdmilieaaGreatDoor
open Go.RowKit
set_option linter.unusedVariables false
attribute [local go_sem] run_store_float run_equalIn_float

/-- The cells of n pairs. -/
def pL (f : Nat → Pr) : Nat → List Value
  | 0 => []
  | k + 1 => pL f k ++ prL (f k)
theorem pL_length (f : Nat → Pr) (n : Nat) : (pL f n).length = n * 11 := by
  induction n with
  | zero => rfl
  | succ n ih => simp [pL, ih, prL]; omega
theorem pL_get {f : Nat → Pr} {n i j : Nat} (hi : i < n) (hj : j < 11) : (pL f n)[i * 11 + j]? = (prL (f i))[j]? := by
  induction n with
  | zero => omega
  | succ n ih =>
    show (pL f n ++ prL (f n))[i * 11 + j]? = _
    by_cases h : i < n
    · rw [List.getElem?_append_left (by rw [pL_length]; omega), ih h]
    · have : i = n := by omega
      subst this
      rw [List.getElem?_append_right (by rw [pL_length]; omega), pL_length, show i * 11 + j - i * 11 = j by omega]
/-- The cells of n ints. -/
def iL (f : Nat → Int) : Nat → List Value
  | 0 => []
  | k + 1 => iL f k ++ [.int .i64 (f k)]
theorem iL_length (f : Nat → Int) (n : Nat) : (iL f n).length = n := by
  induction n with
  | zero => rfl
  | succ n ih => simp [iL, ih]
theorem iL_get {f : Nat → Int} {n i : Nat} (hi : i < n) : (iL f n)[i]? = some (.int .i64 (f i)) := by
  induction n with
  | zero => omega
  | succ n ih =>
    show (iL f n ++ [.int .i64 (f n)])[i]? = _
    by_cases h : i < n
    · rw [List.getElem?_append_left (by rw [iL_length]; omega), ih h]
    · have : i = n := by omega
      subst this
      rw [List.getElem?_append_right (by rw [iL_length]; omega), iL_length]
      simp

abbrev POwn (w : World) (base : Nat) (v : Value) (n : Nat) (f : Nat → Pr) : Prop := w.ownsRow base 127 11 v n (pL f n)
abbrev IOwn (w : World) (base : Nat) (v : Value) (n : Nat) (f : Nat → Int) : Prop := w.ownsRow base 3 1 v n (iL f n)

theorem POwn.at {w : World} {base : Nat} {v : Value} {n : Nat} {f : Nat → Pr} (h : POwn w base v n f) : ∃ a cp, v = .slice a n cp ∧ PAt w a n f := by
  have h' := h
  obtain ⟨hl, ⟨hv, h0⟩ | ⟨g, cap, cur, hv, hb, hblk, h1, h2, h3, h4⟩⟩ := h'
  · subst hv h0
    exact ⟨none, 0, rfl, .inl rfl⟩
  · subst hv
    refine ⟨_, _, rfl, .inr ⟨g, 0, rfl, (h.lt g rfl).2, fun i hi => PCell.of fun j u hu => ?_⟩⟩
    have hj : j < 11 := by
      have := (List.getElem?_eq_some_iff.1 hu).1
      simpa [prL] using this
    rw [Nat.zero_add, World.ownsRow.cellAt h _ (by omega), pL_get hi hj, hu]
theorem IOwn.at {w : World} {base : Nat} {v : Value} {n : Nat} {f : Nat → Int} (h : IOwn w base v n f) : ∃ a cp, v = .slice a n cp ∧ IAt w a n f := by
  have h' := h
  obtain ⟨hl, ⟨hv, h0⟩ | ⟨g, cap, cur, hv, hb, hblk, h1, h2, h3, h4⟩⟩ := h'
  · subst hv h0
    exact ⟨none, 0, rfl, .inl rfl⟩
  · subst hv
    refine ⟨_, _, rfl, .inr ⟨g, 0, rfl, (h.lt g rfl).2, fun i hi => ?_⟩⟩
    rw [Nat.zero_add, World.ownsRow.cellAt h _ (by omega), iL_get hi]

abbrev PZ : Value := .agg #[.int .i64 0, .int .i64 0, .float .f64 0, .string ⟨#[]⟩, .int .i64 0, .int .i64 0, .int .i64 0, .float .f64 0, .string ⟨#[]⟩, .int .i64 0, .int .i64 0]
theorem infoPair : (Tryz.prog.info? 127).map (fun i => (i.zero, i.size, i.bytes)) = some (some PZ, 11, 104) := by kernel_rfl
theorem infoInt : (Tryz.prog.info? 3).map (fun i => (i.zero, i.size, i.bytes)) = some (some (.int .i64 0), 1, 8) := by kernel_rfl
theorem prL_one (p : Pr) : ∀ u ∈ prL p, u.oneCell' = true := by
  intro u hu
  simp only [prL, List.mem_cons, List.not_mem_nil, or_false] at hu
  rcases hu with rfl | rfl | rfl | rfl | rfl | rfl | rfl | rfl | rfl | rfl | rfl <;> rfl

/-- Between two rounds of the copying. -/
structure Cp (w wr : World) (ia : Option Addr) (ic : Nat) (xa : Option Addr) (xc : Nat) (d : Dc) (v0 v1 v2 : Value) : Prop where
  below : Below w.heap.size w wr
  sz : w.heap.size + 2 ≤ wr.heap.size
  a1 : wr.cell? ⟨w.heap.size, 1, none⟩ = some (.slice ia d.m ic)
  a2 : wr.cell? ⟨w.heap.size, 2, none⟩ = some (.slice xa d.x xc)
  b0 : wr.cell? ⟨w.heap.size + 1, 0, none⟩ = some v0
  b1 : wr.cell? ⟨w.heap.size + 1, 1, none⟩ = some v1
  b2 : wr.cell? ⟨w.heap.size + 1, 2, none⟩ = some v2
  b3 : wr.cell? ⟨w.heap.size + 1, 3, none⟩ = some (.int .i64 d.used)
  b4 : wr.cell? ⟨w.heap.size + 1, 4, none⟩ = some (.int .i64 d.live)
  b5 : wr.cell? ⟨w.heap.size + 1, 5, none⟩ = some (.int .i64 d.turns)
  fz : ∀ q, wr.frozen? ⟨w.heap.size + 1, q, none⟩ = false

theorem Cp.same {w wr w1 : World} {ia xa : Option Addr} {ic xc : Nat} {d : Dc} {v0 v1 v2 : Value} (h : Cp w wr ia ic xa xc d v0 v1 v2) (hb : Below (w.heap.size + 2) wr w1) : Cp w w1 ia ic xa xc d v0 v1 v2 := by
  have e : ∀ q o, q < w.heap.size + 2 → w1.cell? ⟨q, o, none⟩ = wr.cell? ⟨q, o, none⟩ := fun q o hq => hb.cell (p := ⟨q, o, none⟩) hq
  have e' : ∀ q o, q < w.heap.size + 2 → w1.frozen? ⟨q, o, none⟩ = wr.frozen? ⟨q, o, none⟩ := fun q o hq => hb.frozen (p := ⟨q, o, none⟩) hq
  exact ⟨h.below.trans (hb.mono (by omega)), Nat.le_trans h.sz hb.size, (e _ _ (by omega)).trans h.a1, (e _ _ (by omega)).trans h.a2, (e _ _ (by omega)).trans h.b0, (e _ _ (by omega)).trans h.b1, (e _ _ (by omega)).trans h.b2, (e _ _ (by omega)).trans h.b3, (e _ _ (by omega)).trans h.b4, (e _ _ (by omega)).trans h.b5, fun q => (e' _ _ (by omega)).trans (h.fz q)⟩

theorem cell_set_other {w : World} {b o o' : Nat} {v : Value} (h : o ≠ o') : (w.setCell ⟨b, o, none⟩ v).cell? ⟨b, o', none⟩ = w.cell? ⟨b, o', none⟩ := by
  apply World.cell?_setCell_other
  intro e
  cases e
  exact h rfl
theorem cell_set_block {w : World} {b b' o o' : Nat} {v : Value} (h : b ≠ b') : (w.setCell ⟨b, o, none⟩ v).cell? ⟨b', o', none⟩ = w.cell? ⟨b', o', none⟩ := by
  apply World.cell?_setCell_other
  intro e
  cases e
  exact h rfl

theorem Cp.set0 {w wr : World} {ia xa : Option Addr} {ic xc : Nat} {d : Dc} {v0 v1 v2 : Value} (h : Cp w wr ia ic xa xc d v0 v1 v2) (u : Value) : Cp w (wr.setCell ⟨w.heap.size + 1, 0, none⟩ u) ia ic xa xc d u v1 v2 :=
  ⟨h.below.setCell (by show _ ≤ w.heap.size + 1; omega) _, by simpa using h.sz, (cell_set_block (by omega)).trans h.a1, (cell_set_block (by omega)).trans h.a2, World.cell?_setCell_same' _ _ _ (by rw [h.b0]; rfl), (cell_set_other (by omega)).trans h.b1, (cell_set_other (by omega)).trans h.b2, (cell_set_other (by omega)).trans h.b3, (cell_set_other (by omega)).trans h.b4, (cell_set_other (by omega)).trans h.b5, fun q => by rw [World.frozen?_setCell]; exact h.fz q⟩
theorem Cp.set1 {w wr : World} {ia xa : Option Addr} {ic xc : Nat} {d : Dc} {v0 v1 v2 : Value} (h : Cp w wr ia ic xa xc d v0 v1 v2) (u : Value) : Cp w (wr.setCell ⟨w.heap.size + 1, 1, none⟩ u) ia ic xa xc d v0 u v2 :=
  ⟨h.below.setCell (by show _ ≤ w.heap.size + 1; omega) _, by simpa using h.sz, (cell_set_block (by omega)).trans h.a1, (cell_set_block (by omega)).trans h.a2, (cell_set_other (by omega)).trans h.b0, World.cell?_setCell_same' _ _ _ (by rw [h.b1]; rfl), (cell_set_other (by omega)).trans h.b2, (cell_set_other (by omega)).trans h.b3, (cell_set_other (by omega)).trans h.b4, (cell_set_other (by omega)).trans h.b5, fun q => by rw [World.frozen?_setCell]; exact h.fz q⟩
theorem Cp.set2 {w wr : World} {ia xa : Option Addr} {ic xc : Nat} {d : Dc} {v0 v1 v2 : Value} (h : Cp w wr ia ic xa xc d v0 v1 v2) (u : Value) : Cp w (wr.setCell ⟨w.heap.size + 1, 2, none⟩ u) ia ic xa xc d v0 v1 u :=
  ⟨h.below.setCell (by show _ ≤ w.heap.size + 1; omega) _, by simpa using h.sz, (cell_set_block (by omega)).trans h.a1, (cell_set_block (by omega)).trans h.a2, (cell_set_other (by omega)).trans h.b0, (cell_set_other (by omega)).trans h.b1, World.cell?_setCell_same' _ _ _ (by rw [h.b2]; rfl), (cell_set_other (by omega)).trans h.b3, (cell_set_other (by omega)).trans h.b4, (cell_set_other (by omega)).trans h.b5, fun q => by rw [World.frozen?_setCell]; exact h.fz q⟩

theorem grown_setCell (w : World) (a : Addr) (v : Value) : w.grownBy (w.setCell a v) (some a.block) := ⟨rfl, rfl, rfl, by simp, fun k _ hne => Deep.blk_setCell_other _ _ _ _ (fun e => hne (by rw [e]))⟩
theorem grown_below {w w' : World} {v : Value} {B : Nat} (hgr : w.grownBy w' v.ownBlock) (hlt : ∀ q, v.ownBlock = some q → B ≤ q) (hB : B ≤ w.heap.size) : Below B w w' :=
  ⟨hgr.os, hgr.tape, hgr.output, hgr.size, fun k hk => hgr.block k (by omega) (fun e => by have := hlt k e.symm; omega)⟩

theorem own_mono {w : World} {base base' e size : Nat} {v : Value} {n : Nat} {xs : List Value} (h : w.ownsRow base e size v n xs) (hb : base' ≤ base) : w.ownsRow base' e size v n xs := by
  obtain ⟨hl, h | ⟨g, cap, cur, h1, h2, h3⟩⟩ := h
  · exact ⟨hl, .inl h⟩
  · exact ⟨hl, .inr ⟨g, cap, cur, h1, Nat.le_trans hb h2, h3⟩⟩
theorem own_block {w w' : World} {base e size : Nat} {v : Value} {n : Nat} {xs : List Value} (h : w.ownsRow base e size v n xs) (hs : w.heap.size ≤ w'.heap.size) (hq : ∀ q, base ≤ q → q < w.heap.size → w'.heap[q]? = w.heap[q]?) : w'.ownsRow base e size v n xs := by
  obtain ⟨hl, h | ⟨g, cap, cur, h1, h2, h3, h4⟩⟩ := h
  · exact ⟨hl, .inl h⟩
  · exact ⟨hl, .inr ⟨g, cap, cur, h1, h2, (hq g h2 (Array.getElem?_eq_some_iff.1 h3).1).trans h3, h4⟩⟩

/-- A pointer to a dict whose rows are its own: they lie behind it. -/
structure DOwn (w : World) (c : Nat) (v0 v1 v2 : Value) (d : Dc) : Prop where
  sz : c + 1 ≤ w.heap.size
  c0 : w.cell? ⟨c, 0, none⟩ = some v0
  c1 : w.cell? ⟨c, 1, none⟩ = some v1
  c2 : w.cell? ⟨c, 2, none⟩ = some v2
  c3 : w.cell? ⟨c, 3, none⟩ = some (.int .i64 d.used)
  c4 : w.cell? ⟨c, 4, none⟩ = some (.int .i64 d.live)
  c5 : w.cell? ⟨c, 5, none⟩ = some (.int .i64 d.turns)
  fz : ∀ q, w.frozen? ⟨c, q, none⟩ = false
  log : POwn w (c + 1) v0 d.n d.L
  ints : IOwn w (c + 1) v1 d.m d.I
  index : IOwn w (c + 1) v2 d.x d.X
  ap : ∀ q, v1.ownBlock = some q → v2.ownBlock ≠ some q
theorem DOwn.ptr {w : World} {c : Nat} {v0 v1 v2 : Value} {d : Dc} (h : DOwn w c v0 v1 v2 d) : ∃ la lc ia ic xa xc, v0 = .slice la d.n lc ∧ v1 = .slice ia d.m ic ∧ v2 = .slice xa d.x xc ∧ DPtr w c 0 la lc ia ic xa xc d := by
  obtain ⟨la, lc, e0, hL⟩ := h.log.at
  obtain ⟨ia, ic, e1, hI⟩ := h.ints.at
  obtain ⟨xa, xc, e2, hX⟩ := h.index.at
  subst e0 e1 e2
  exact ⟨la, lc, ia, ic, xa, xc, rfl, rfl, rfl, h.sz, h.c0, h.c1, h.c2, h.c3, h.c4, h.c5, hL, hI, hX⟩

set_option maxRecDepth 100000 in
set_option maxHeartbeats 2000000 in
theorem l1copy_any (la : Option Addr) (lc : Nat) (ia : Option Addr) (ic : Nat) (xa : Option Addr) (xc : Nat) (d : Dc) (w : World) (hD : DAt w la ia xa d) (hS : Small d) :
    Calls Tryz.prog 102 #[Dv la lc ia ic xa xc d] w fun e w' => (∃ c v v' v'', e = .returned (.pointer (some ⟨c, 0, none⟩)) ∧ c = w.heap.size + 1 ∧ DOwn w' c v v' v'' d) ∧ Below w.heap.size w w' := by
  obtain ⟨i0, hi, hz0, hz1, hz2⟩ := info_parts infoPair
  obtain ⟨j0, ji, jz0, jz1, jz2⟩ := info_parts infoInt
  obtain ⟨hn, hm, hx⟩ := hS
  obtain ⟨hL, hI, hX⟩ := hD
  have HL := hide hL
  have HI := hide hI
  have HX := hide hX
  clear hL hI hX
  have hb0 : Below w.heap.size w ((w.alloc (.cells #[.slice la d.n lc, .slice ia d.m ic, .slice xa d.x xc, .int .i64 d.used, .int .i64 d.live, .int .i64 d.turns] 91)).alloc (.cells #[.slice none 0 0, .slice none 0 0, .slice none 0 0, .int .i64 d.used, .int .i64 d.live, .int .i64 d.turns] 91)) := ((Below.refl _ _).alloc (Nat.le_refl _) _).alloc (by simp) _
  have HC0 : Hid (Cp w ((w.alloc (.cells #[.slice la d.n lc, .slice ia d.m ic, .slice xa d.x xc, .int .i64 d.used, .int .i64 d.live, .int .i64 d.turns] 91)).alloc (.cells #[.slice none 0 0, .slice none 0 0, .slice none 0 0, .int .i64 d.used, .int .i64 d.live, .int .i64 d.turns] 91)) ia ic xa xc d (.slice none 0 0) (.slice none 0 0) (.slice none 0 0)) :=
    hide ⟨hb0, by simp, by simp [go_sem], by simp [go_sem], by simp [go_sem], by simp [go_sem], by simp [go_sem], by simp [go_sem], by simp [go_sem], by simp [go_sem], fun q => by simp [go_sem]⟩
  clear hb0
  go_enter Tryz.func102, Tryz.ntmps102
  go_wp2
  go_loopw [21] (fun i wr => ∃ (k : Nat) (v : Value), k ≤ d.n ∧ i = .int .i64 k ∧ Cp w wr ia ic xa xc d v (.slice none 0 0) (.slice none 0 0) ∧ POwn wr (w.heap.size + 2) v k d.L) (fun i _ => d.n - (intOf i).toNat)
  case atStart => exact ⟨0, .slice none 0 0, by omega, rfl, unhide HC0, World.ownsRow_nil _ _ _ _⟩
  case round =>
    clear HC0
    obtain ⟨k, v, hk, rfl, hc, ho⟩ := hrel
    by_cases hkn : k < d.n
    · obtain ⟨b, off, rfl, hlt, hcs⟩ := (unhide HL).resolve_left (by omega)
      obtain ⟨e0, e1, e2, e3, e4, e5, e6, e7, e8, e9, e10⟩ := (hcs k hkn).keep (fun q => hc.below.cell (p := ⟨b, q, none⟩) hlt)
      have HC := hide hc
      have HO := hide ho
      clear hcs hc ho
      go_wp2_with fail
      obtain ⟨W, hW⟩ : ∃ W, W = wr.alloc (.cells #[.int .i64 (d.L k).key.kind, .int .i64 (d.L k).key.num, .float .f64 (d.L k).key.flt, .string (d.L k).key.str, .int .i64 (d.L k).key.ref, .int .i64 (d.L k).val.kind, .int .i64 (d.L k).val.num, .float .f64 (d.L k).val.flt, .string (d.L k).val.str, .int .i64 (d.L k).val.ref, .int .i64 (d.L k).turn] 127) := ⟨_, rfl⟩
      rw [← hW]
      have x0 : W.cell? ⟨w.heap.size + 1, 0, none⟩ = some v := by rw [hW]; exact (World.cell?_alloc_lt _ _ _ (by have := (unhide HC).sz; show w.heap.size + 1 < _; omega)).trans (unhide HC).b0
      have hsz := (unhide HC).sz
      have hzW : W.heap.size = wr.heap.size + 1 := by rw [hW]; simp
      have hlt2 := (unhide HO).lt
      have HOW : Hid (POwn W.drew (w.heap.size + 2) v k d.L) := hide (by rw [hW]; exact ((unhide HO).alloc _).drew)
      have HCW : Hid (Cp w W ia ic xa xc d v (.slice none 0 0) (.slice none 0 0)) := hide (by rw [hW]; exact (unhide HC).same ((Below.refl _ _).alloc (by omega) _))
      have y0 : W.cell? ⟨wr.heap.size, 0, none⟩ = some (.int .i64 (d.L k).key.kind) := by rw [hW]; simp [go_sem]
      have y1 : W.cell? ⟨wr.heap.size, 1, none⟩ = some (.int .i64 (d.L k).key.num) := by rw [hW]; simp [go_sem]
      have y2 : W.cell? ⟨wr.heap.size, 2, none⟩ = some (.float .f64 (d.L k).key.flt) := by rw [hW]; simp [go_sem]
      have y3 : W.cell? ⟨wr.heap.size, 3, none⟩ = some (.string (d.L k).key.str) := by rw [hW]; simp [go_sem]
      have y4 : W.cell? ⟨wr.heap.size, 4, none⟩ = some (.int .i64 (d.L k).key.ref) := by rw [hW]; simp [go_sem]
      have y5 : W.cell? ⟨wr.heap.size, 5, none⟩ = some (.int .i64 (d.L k).val.kind) := by rw [hW]; simp [go_sem]
      have y6 : W.cell? ⟨wr.heap.size, 6, none⟩ = some (.int .i64 (d.L k).val.num) := by rw [hW]; simp [go_sem]
      have y7 : W.cell? ⟨wr.heap.size, 7, none⟩ = some (.float .f64 (d.L k).val.flt) := by rw [hW]; simp [go_sem]
      have y8 : W.cell? ⟨wr.heap.size, 8, none⟩ = some (.string (d.L k).val.str) := by rw [hW]; simp [go_sem]
      have y9 : W.cell? ⟨wr.heap.size, 9, none⟩ = some (.int .i64 (d.L k).val.ref) := by rw [hW]; simp [go_sem]
      have y10 : W.cell? ⟨wr.heap.size, 10, none⟩ = some (.int .i64 (d.L k).turn) := by rw [hW]; simp [go_sem]
      clear hW HC HO e0 e1 e2 e3 e4 e5 e6 e7 e8 e9 e10
      have hws : w.heap.size + 2 ≤ W.heap.size := by omega
      have hw1 : w.heap.size + 1 < W.heap.size := by omega
      have HZW := hide hzW
      have HSZ := hide hsz
      have HLT := hide hlt2
      clear hzW hsz hlt2
      go_region_law (refine step_append_lies _ rfl (.tmp 29) (.tmp 31) 55 rfl (w.heap.size + 2) 127 i0 PZ 11 104 Tryz.underlying55 hi hz0 hz1 hz2 rfl (by decide) v k (pL d.L k) (by simp [Act.eval]) ((unhide HOW).alloc _) ⟨W.heap.size, 0, none⟩ 1 1 (prL (d.L k)) (by simp [Act.eval]) rfl (World.news_of_block (Deep.blk_alloc_new _ _)) (prL_one _) (by decide) (by unfold maxLen; omega) (by omega) (by simp; omega) _ rfl ?_; intro g3 cp3 w3 hown3 hgr3 hloc3 hlt3; have HC3 := hide ((unhide HCW).same (((Below.refl (w.heap.size + 2) W).drew.alloc (by simp; omega) _).trans (grown_below hgr3 (fun q e => (unhide HLT q e).1) (by simp; omega)))); have x3 := (unhide HC3).b0; have f3 := (unhide HC3).fz 0; have HO3 := hide hown3; clear hown3 hgr3)
      all_goals
        have hg3 := ((unhide HO3).lt g3 rfl).1
        have hown : POwn (w3.setCell ⟨w.heap.size + 1, 0, none⟩ (.slice (some ⟨g3, 0, none⟩) (k + 1) cp3)) (w.heap.size + 2) (.slice (some ⟨g3, 0, none⟩) (k + 1) cp3) (k + 1) d.L := World.ownsRow.kept (unhide HO3) (grown_setCell w3 _ _) (.inr (by simp [Value.ownBlock]; omega))
        have HOn := hide hown
        clear hown
        go_wp2
        go_roundw
        case rel => exact ⟨k + 1, .slice (some ⟨g3, 0, none⟩) (k + 1) cp3, by omega, by go_num, (unhide HC3).set0 _, unhide HOn⟩
        case measure => simp [intOf]; omega
    have hkn' : k = d.n := by omega
    subst hkn'
    have HC := hide hc
    have HP := hide ho
    have q1 := hc.a1
    have hu1 := hc.sz
    obtain ⟨u1, hu⟩ : ∃ u, u = wr := ⟨_, rfl⟩
    rw [← hu] at HC HP q1 hu1 ⊢
    clear hc ho hk hkn hu
    go_wp2
    go_loopw [39] (fun i wr => ∃ (k : Nat) (v' : Value), k ≤ d.m ∧ i = .int .i64 k ∧ Cp w wr ia ic xa xc d v v' (.slice none 0 0) ∧ IOwn wr u1.heap.size v' k d.I ∧ u1.heap.size ≤ wr.heap.size ∧ ∀ q, w.heap.size + 2 ≤ q → q < u1.heap.size → wr.heap[q]? = u1.heap[q]?) (fun i _ => d.m - (intOf i).toNat)
    case atStart => exact ⟨0, .slice none 0 0, by omega, rfl, unhide HC, World.ownsRow_nil _ _ _ _, Nat.le_refl _, fun _ _ _ => rfl⟩
    case round =>
      clear HC q1
      obtain ⟨k, v', hk, rfl, hc, ho, hsz, hkeep⟩ := hrel
      by_cases hkn : k < d.m
      · obtain ⟨b, off, rfl, hlt, hcs⟩ := (unhide HI).resolve_left (by omega)
        have e0 := (hc.below.cell (p := ⟨b, off + k, none⟩) hlt).trans (hcs k hkn)
        have x0 := hc.b1
        have hws := hc.sz
        have hw1 : w.heap.size + 1 < wr.heap.size := by omega
        have HLT := hide ho.lt
        have HC := hide hc
        have HO := hide ho
        have HK := hide hkeep
        clear hcs hc ho hkeep
        go_wp2_with (first | (at_builtin; refine wpList_append_lies _ rfl _ _ 89 rfl u1.heap.size 3 j0 (.int .i64 0) 1 8 Tryz.underlying89 ji jz0 jz1 jz2 rfl (by decide) v' k (iL d.I k) rfl ((unhide HO).alloc _) ⟨wr.heap.size, 0, none⟩ 1 1 [.int .i64 (d.I k)] rfl rfl (World.news_of_block (Deep.blk_alloc_new _ _)) (by simp [Value.oneCell']) (by decide) (by unfold maxLen; omega) (by omega) (by simp; omega) _ rfl ?_; intro g3 cp3 w3 hown3 hgr3 hloc3 hlt3; have HG3 := hide (((Below.refl u1.heap.size wr).alloc hsz _).trans (grown_below hgr3 (fun q e => (unhide HLT q e).1) (by simp; omega))); have HC3 := hide ((unhide HC).same ((unhide HG3).mono hu1)); have x3 := (unhide HC3).b1; have f3 := (unhide HC3).fz 1; have HO3 := hide hown3; clear hown3 hgr3) | go_in)
        have hg3 := ((unhide HO3).lt g3 rfl).1
        have hown : IOwn (w3.setCell ⟨w.heap.size + 1, 1, none⟩ (.slice (some ⟨g3, 0, none⟩) (k + 1) cp3)) u1.heap.size (.slice (some ⟨g3, 0, none⟩) (k + 1) cp3) (k + 1) d.I := World.ownsRow.kept (unhide HO3) (grown_setCell w3 _ _) (.inr (by simp [Value.ownBlock]; omega))
        have HOn := hide hown
        clear hown
        go_roundw
        case rel => exact ⟨k + 1, .slice (some ⟨g3, 0, none⟩) (k + 1) cp3, by omega, by go_num, (unhide HC3).set1 _, unhide HOn, by have := (unhide HG3).size; simp; omega, fun q h1 h2 => (Deep.blk_setCell_other _ _ _ _ (by show q ≠ w.heap.size + 1; omega)).trans (((unhide HG3).block q h2).trans (unhide HK q h1 h2))⟩
        case measure => simp [intOf]; omega
      have hkn' : k = d.m := by omega
      subst hkn'
      have HP2 := hide (own_block (unhide HP) hsz hkeep)
      have HQ := hide (own_mono ho hu1)
      have HC := hide hc
      have q1 := hc.a2
      have hu2 := hc.sz
      obtain ⟨u2, hu⟩ : ∃ u, u = wr := ⟨_, rfl⟩
      rw [← hu] at HC HP2 HQ q1 hu2 ⊢
      clear hc ho hk hkn hu hsz hkeep HP hu1 
      go_wp2
      go_loopw [57] (fun i wr => ∃ (k : Nat) (v'' : Value), k ≤ d.x ∧ i = .int .i64 k ∧ Cp w wr ia ic xa xc d v v' v'' ∧ IOwn wr u2.heap.size v'' k d.X ∧ u2.heap.size ≤ wr.heap.size ∧ ∀ q, w.heap.size + 2 ≤ q → q < u2.heap.size → wr.heap[q]? = u2.heap[q]?) (fun i _ => d.x - (intOf i).toNat)
      case atStart => exact ⟨0, .slice none 0 0, by omega, rfl, unhide HC, World.ownsRow_nil _ _ _ _, Nat.le_refl _, fun _ _ _ => rfl⟩
      case round =>
        clear HC q1
        obtain ⟨k, v'', hk, rfl, hc, ho, hsz, hkeep⟩ := hrel
        by_cases hkn : k < d.x
        · obtain ⟨b, off, rfl, hlt, hcs⟩ := (unhide HX).resolve_left (by omega)
          have e0 := (hc.below.cell (p := ⟨b, off + k, none⟩) hlt).trans (hcs k hkn)
          have x0 := hc.b2
          have hws := hc.sz
          have hw1 : w.heap.size + 1 < wr.heap.size := by omega
          have HLT := hide ho.lt
          have HC := hide hc
          have HO := hide ho
          have HK := hide hkeep
          clear hcs hc ho hkeep
          go_wp2_with (first | (at_builtin; refine wpList_append_lies _ rfl _ _ 89 rfl u2.heap.size 3 j0 (.int .i64 0) 1 8 Tryz.underlying89 ji jz0 jz1 jz2 rfl (by decide) v'' k (iL d.X k) rfl ((unhide HO).alloc _) ⟨wr.heap.size, 0, none⟩ 1 1 [.int .i64 (d.X k)] rfl rfl (World.news_of_block (Deep.blk_alloc_new _ _)) (by simp [Value.oneCell']) (by decide) (by unfold maxLen; omega) (by omega) (by simp; omega) _ rfl ?_; intro g3 cp3 w3 hown3 hgr3 hloc3 hlt3; have HG3 := hide (((Below.refl u2.heap.size wr).alloc hsz _).trans (grown_below hgr3 (fun q e => (unhide HLT q e).1) (by simp; omega))); have HC3 := hide ((unhide HC).same ((unhide HG3).mono hu2)); have x3 := (unhide HC3).b2; have f3 := (unhide HC3).fz 2; have HO3 := hide hown3; clear hown3 hgr3) | go_in)
          have hg3 := ((unhide HO3).lt g3 rfl).1
          have hown : IOwn (w3.setCell ⟨w.heap.size + 1, 2, none⟩ (.slice (some ⟨g3, 0, none⟩) (k + 1) cp3)) u2.heap.size (.slice (some ⟨g3, 0, none⟩) (k + 1) cp3) (k + 1) d.X := World.ownsRow.kept (unhide HO3) (grown_setCell w3 _ _) (.inr (by simp [Value.ownBlock]; omega))
          have HOn := hide hown
          clear hown
          go_roundw
          case rel => exact ⟨k + 1, .slice (some ⟨g3, 0, none⟩) (k + 1) cp3, by omega, by go_num, (unhide HC3).set2 _, unhide HOn, by have := (unhide HG3).size; simp; omega, fun q h1 h2 => (Deep.blk_setCell_other _ _ _ _ (by show q ≠ w.heap.size + 1; omega)).trans (((unhide HG3).block q h2).trans (unhide HK q h1 h2))⟩
          case measure => simp [intOf]; omega
        have hkn' : k = d.x := by omega
        subst hkn'
        have hP3 := own_block (unhide HP2) hsz hkeep
        have hQ3 := own_block (unhide HQ) hsz hkeep
        have hX3 := own_mono ho hu2
        have HAP : Hid (∀ q, v'.ownBlock = some q → v''.ownBlock ≠ some q) := hide (fun q e e' => by have h1 := ((unhide HQ).lt q e).2; have h2 := (ho.lt q e').1; omega)
        have HALL := hide (⟨hc, hP3, hQ3, hX3⟩ : Cp w wr ia ic xa xc d v v' v'' ∧ POwn wr (w.heap.size + 2) v d.n d.L ∧ IOwn wr (w.heap.size + 2) v' d.m d.I ∧ IOwn wr (w.heap.size + 2) v'' d.x d.X)
        clear hc ho hk hkn hsz hkeep HP2 HQ hu2 hP3 hQ3 hX3
        go_wp2
        go_ret
        obtain ⟨hc, hP, hQ, hX⟩ := unhide HALL
        exact ⟨⟨_, v, v', v'', rfl, rfl, hc.sz, hc.b0, hc.b1, hc.b2, hc.b3, hc.b4, hc.b5, hc.fz, hP, hQ, hX, unhide HAP⟩, hc.below⟩
end Go.Proofs.YtfceeijdmilieaaGreatDoor
namespace Go.Proofs.YtfceeijdmilieaaGreatDoor
open Go.RowKit
set_option linter.unusedVariables false
attribute [local go_sem] run_store_float run_equalIn_float

abbrev Pc (c o : Nat) : Value := .pointer (some ⟨c, o, none⟩)

set_option maxHeartbeats 1000000 in
theorem l1sizes_any (c o : Nat) (la : Option Addr) (lc : Nat) (ia : Option Addr) (ic : Nat) (xa : Option Addr) (xc : Nat) (d : Dc) (w : World) (hD : DPtr w c o la lc ia ic xa xc d) (hS : Small d) :
    Calls Tryz.prog 144 #[Pc c o] w fun e w' => e = .returned (.bool (tells (D1 d))) ∧ Below w.heap.size w w' := by
  have hn := hS.n
  have c0 := hD.c0
  have c4 := hD.c4
  have c5 := hD.c5
  have hlt := hD.lt
  clear hD hS
  by_cases h1 : d.live < 0
  · have HT := hide (tells_no (p := D1 d) (fun h => by unfold D1 at h; omega))
    go_enter Tryz.func144, Tryz.ntmps144
    go_wp2
    go_ret
    exact ⟨by rw [unhide HT]; rfl, Below.refl _ _⟩
  by_cases h2 : 500 < d.live
  · have HT := hide (tells_no (p := D1 d) (fun h => by unfold D1 at h; omega))
    go_enter Tryz.func144, Tryz.ntmps144
    go_wp2
    go_ret
    exact ⟨by rw [unhide HT]; rfl, Below.refl _ _⟩
  by_cases h3 : d.turns < 0
  · have HT := hide (tells_no (p := D1 d) (fun h => by unfold D1 at h; omega))
    go_enter Tryz.func144, Tryz.ntmps144
    go_wp2
    go_ret
    exact ⟨by rw [unhide HT]; rfl, Below.refl _ _⟩
  by_cases h4 : 1000000000000 < d.turns
  · have HT := hide (tells_no (p := D1 d) (fun h => by unfold D1 at h; omega))
    go_enter Tryz.func144, Tryz.ntmps144
    go_wp2
    go_ret
    exact ⟨by rw [unhide HT]; rfl, Below.refl _ _⟩
  by_cases h5 : (d.n : Int) ≤ 8
  · have HT := hide (tells_yes (p := D1 d) ⟨by omega, by omega, by omega, by omega, .inl h5⟩)
    have hd : decide ((d.n : Int) ≤ 8) = true := by simp [h5]
    go_enter Tryz.func144, Tryz.ntmps144
    go_wp2
    go_quiet (fail)
    go_wp2
    go_ret
    exact ⟨by rw [unhide HT]; rfl, below_drewN' (Below.refl _ _) _⟩
  have hd : decide ((d.n : Int) ≤ 8) = false := by simp [h5]
  have hw : IntKind.i64.wrap (2 * d.live) = 2 * d.live := by rw [IntKind.wrap_i64]; omega
  by_cases h6 : (d.n : Int) ≤ 2 * d.live
  · have HT := hide (tells_yes (p := D1 d) ⟨by omega, by omega, by omega, by omega, .inr h6⟩)
    have hd' : decide ((d.n : Int) ≤ 2 * d.live) = true := by simp [h6]
    go_enter Tryz.func144, Tryz.ntmps144
    go_wp2
    go_quiet (fail)
    go_wp2
    go_ret
    exact ⟨by rw [unhide HT]; rfl, below_drewN' (Below.refl _ _) _⟩
  · have HT := hide (tells_no (p := D1 d) (fun h => by unfold D1 at h; omega))
    have hd' : decide ((d.n : Int) ≤ 2 * d.live) = false := by simp [h6]
    go_enter Tryz.func144, Tryz.ntmps144
    go_wp2
    go_quiet (fail)
    go_wp2
    go_ret
    exact ⟨by rw [unhide HT]; rfl, below_drewN' (Below.refl _ _) _⟩

set_option maxHeartbeats 1000000 in
theorem l1none_any (v : Vl) (w : World) :
    Calls Tryz.prog 97 #[V v.kind v.num v.flt v.str v.ref] w fun e w' => e = .returned (.bool (noneB v)) ∧ Below w.heap.size w w' := by
  by_cases h : v.kind = 0
  · have hk : (v.kind == 0) = true := by simp [h]
    have HT : Hid (noneB v = v.ok) := hide (by unfold noneB; rw [hk]; rfl)
    clear h
    go_enter Tryz.func97, Tryz.ntmps97
    go_wp2_with (go_at_call 40; refine (valueOk_any v.kind v.num v.flt v.str v.ref _).mono ?_; rintro e w1 ⟨rfl, hb⟩)
    go_ret
    exact ⟨by rw [unhide HT]; rfl, ((Below.refl _ _).alloc (Nat.le_refl _) _).trans (hb.mono (by simp))⟩
  · have hk : (v.kind == 0) = false := by simp [h]
    have HT : Hid (noneB v = false) := hide (by unfold noneB; rw [hk]; rfl)
    clear h
    go_enter Tryz.func97, Tryz.ntmps97
    go_wp2
    go_ret
    exact ⟨by rw [unhide HT]; rfl, (Below.refl _ _).alloc (Nat.le_refl _) _⟩

/-- What KeyOf gives, told by keyB. -/
theorem keyV_cases (v : Vl) : (keyB v = true ∧ keyV v.kind v.num v.flt v.str v.ref = KV 0 v.kind v.num v.flt v.str v.ref) ∨ (keyB v = false ∧ ∃ c k n f t r, keyV v.kind v.num v.flt v.str v.ref = KV c k n f t r ∧ (c ≠ 0 ∨ (v.kind = 3 ∧ k = 2))) := by
  unfold keyV keyB Vl.ok
  by_cases hv : validB v.kind v.num v.flt v.str v.ref = true
  · rw [if_pos hv, hv]
    by_cases h0 : v.kind = 0
    · rw [if_pos h0]; right; exact ⟨by simp [h0], 1, 0, 0, 0, ⟨#[]⟩, 0, rfl, .inl (by decide)⟩
    · rw [if_neg h0]
      by_cases h3 : v.kind = 3
      · rw [if_pos h3]
        by_cases hn : fnan v.flt = true
        · rw [if_pos hn]; right; exact ⟨by simp [h3, hn], 1, 0, 0, 0, ⟨#[]⟩, 0, rfl, .inl (by decide)⟩
        · rw [if_neg hn]
          by_cases hw : wholeB v.flt = true
          · rw [if_pos hw]; right; exact ⟨by simp [h3, hw], 0, 2, fint v.flt, 0, ⟨#[]⟩, 0, rfl, .inr ⟨h3, rfl⟩⟩
          · rw [if_neg hw]; left; exact ⟨by simp [h3, hn, hw], rfl⟩
      · rw [if_neg h3]; left; exact ⟨by simp [h0, h3], rfl⟩
  · rw [if_neg hv]
    right
    have : validB v.kind v.num v.flt v.str v.ref = false := by simpa using hv
    exact ⟨by rw [this]; rfl, 2, 0, 0, 0, ⟨#[]⟩, 0, rfl, .inl (by decide)⟩

set_option maxHeartbeats 1000000 in
theorem l1key_any (v : Vl) (w : World) :
    Calls Tryz.prog 189 #[V v.kind v.num v.flt v.str v.ref] w fun e w' => e = .returned (.bool (keyB v)) ∧ Below w.heap.size w w' := by
  rcases keyV_cases v with ⟨hk, he⟩ | ⟨hk, c, k, n, f, t, r, he, hc⟩
  · have HE := hide he
    have HK := hide hk
    clear hk he
    go_enter Tryz.func189, Tryz.ntmps189
    go_wp2_with (go_at_call 104; refine (skey_any v.kind v.num v.flt v.str v.ref _).mono ?_; rintro e w1 ⟨rfl, hb⟩; rw [unhide HE]; obtain ⟨hc, hf⟩ := bcell hb; have hz := hb.size; simp at hz; have hz' : w.heap.size < w1.heap.size := by omega)
    go_ret
    exact ⟨by rw [unhide HK]; simp, (((Below.refl _ _).alloc (Nat.le_refl _) _).trans (hb.mono (by simp))).alloc (by omega) _⟩
  · have HE := hide he
    have HK := hide hk
    clear hk he
    rcases hc with hc | ⟨h3, rfl⟩
    · have hc' : (c == 0) = false := by simp [hc]
      clear hc
      go_enter Tryz.func189, Tryz.ntmps189
      go_wp2_with (go_at_call 104; refine (skey_any v.kind v.num v.flt v.str v.ref _).mono ?_; rintro e w1 ⟨rfl, hb⟩; rw [unhide HE]; obtain ⟨hc, hf⟩ := bcell hb; have hz := hb.size; simp at hz; have hz' : w.heap.size < w1.heap.size := by omega)
      go_ret
      exact ⟨by rw [unhide HK]; rfl, (((Below.refl _ _).alloc (Nat.le_refl _) _).trans (hb.mono (by simp))).alloc (by omega) _⟩
    · have h3' : ((2 : Int) == v.kind) = false := by rw [h3]; rfl
      clear h3
      by_cases hc0 : c = 0
      · subst hc0
        go_enter Tryz.func189, Tryz.ntmps189
        go_wp2_with (go_at_call 104; refine (skey_any v.kind v.num v.flt v.str v.ref _).mono ?_; rintro e w1 ⟨rfl, hb⟩; rw [unhide HE]; obtain ⟨hc, hf⟩ := bcell hb; have hz := hb.size; simp at hz; have hz' : w.heap.size < w1.heap.size := by omega)
        go_ret
        exact ⟨by rw [unhide HK]; simp, (((Below.refl _ _).alloc (Nat.le_refl _) _).trans (hb.mono (by simp))).alloc (by omega) _⟩
      · have hc' : (c == 0) = false := by simp [hc0]
        clear hc0
        go_enter Tryz.func189, Tryz.ntmps189
        go_wp2_with (go_at_call 104; refine (skey_any v.kind v.num v.flt v.str v.ref _).mono ?_; rintro e w1 ⟨rfl, hb⟩; rw [unhide HE]; obtain ⟨hc, hf⟩ := bcell hb; have hz := hb.size; simp at hz; have hz' : w.heap.size < w1.heap.size := by omega)
        go_ret
        exact ⟨by rw [unhide HK]; rfl, (((Below.refl _ _).alloc (Nat.le_refl _) _).trans (hb.mono (by simp))).alloc (by omega) _⟩
end Go.Proofs.YtfceeijdmilieaaGreatDoor
