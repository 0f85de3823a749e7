/-
  DcA.
-/
import Derived.Test.YtnjgebncghdajaaGreatDoorBi0
import Derived.Below
import Derived.Deep.OwnRows
import Derived.Deep.AppendLies
namespace Go.Proofs.YtnjgebncghdajaaGreatDoor
open Go.RowKit
set_option linter.unusedVariables false

structure Pr where
  key : Vl
  val : Vl
  turn : Int
instance : Inhabited Pr := ⟨⟨default, default, 0⟩⟩

/-- The eleven cells of a pair. -/
def prL (p : Pr) : List Value := [.int .i64 p.key.kind, .int .i64 p.key.num, .float .f64 p.key.flt, .string p.key.str, .int .i64 p.key.ref, .int .i64 p.val.kind, .int .i64 p.val.num, .float .f64 p.val.flt, .string p.val.str, .int .i64 p.val.ref, .int .i64 p.turn]
abbrev PV (p : Pr) : Value := .agg #[.int .i64 p.key.kind, .int .i64 p.key.num, .float .f64 p.key.flt, .string p.key.str, .int .i64 p.key.ref, .int .i64 p.val.kind, .int .i64 p.val.num, .float .f64 p.val.flt, .string p.val.str, .int .i64 p.val.ref, .int .i64 p.turn]

structure PCell (w : World) (b o : Nat) (p : Pr) : Prop where
  k0 : w.cell? ⟨b, o, none⟩ = some (.int .i64 p.key.kind)
  k1 : w.cell? ⟨b, o + 1, none⟩ = some (.int .i64 p.key.num)
  k2 : w.cell? ⟨b, o + 2, none⟩ = some (.float .f64 p.key.flt)
  k3 : w.cell? ⟨b, o + 3, none⟩ = some (.string p.key.str)
  k4 : w.cell? ⟨b, o + 4, none⟩ = some (.int .i64 p.key.ref)
  v0 : w.cell? ⟨b, o + 5, none⟩ = some (.int .i64 p.val.kind)
  v1 : w.cell? ⟨b, o + 6, none⟩ = some (.int .i64 p.val.num)
  v2 : w.cell? ⟨b, o + 7, none⟩ = some (.float .f64 p.val.flt)
  v3 : w.cell? ⟨b, o + 8, none⟩ = some (.string p.val.str)
  v4 : w.cell? ⟨b, o + 9, none⟩ = some (.int .i64 p.val.ref)
  tn : w.cell? ⟨b, o + 10, none⟩ = some (.int .i64 p.turn)

theorem PCell.of {w : World} {b o : Nat} {p : Pr} (h : ∀ j u, (prL p)[j]? = some u → w.cell? ⟨b, o + j, none⟩ = some u) : PCell w b o p :=
  ⟨h 0 _ rfl, h 1 _ rfl, h 2 _ rfl, h 3 _ rfl, h 4 _ rfl, h 5 _ rfl, h 6 _ rfl, h 7 _ rfl, h 8 _ rfl, h 9 _ rfl, h 10 _ rfl⟩
theorem PCell.keep {w w' : World} {b o : Nat} {p : Pr} (h : PCell w b o p) (e : ∀ q, w'.cell? ⟨b, q, none⟩ = w.cell? ⟨b, q, none⟩) : PCell w' b o p :=
  ⟨(e _).trans h.k0, (e _).trans h.k1, (e _).trans h.k2, (e _).trans h.k3, (e _).trans h.k4, (e _).trans h.v0, (e _).trans h.v1, (e _).trans h.v2, (e _).trans h.v3, (e _).trans h.v4, (e _).trans h.tn⟩

/-- A row of n pairs at an address. -/
def PAt (w : World) (a : Option Addr) (n : Nat) (f : Nat → Pr) : Prop :=
  n = 0 ∨ ∃ b off, a = some ⟨b, off, none⟩ ∧ b < w.heap.size ∧ ∀ i, i < n → PCell w b (off + i * 11) (f i)
/-- A row of n ints at an address. -/
def IAt (w : World) (a : Option Addr) (n : Nat) (f : Nat → Int) : Prop :=
  n = 0 ∨ ∃ b off, a = some ⟨b, off, none⟩ ∧ b < w.heap.size ∧ ∀ i, i < n → w.cell? ⟨b, off + i, none⟩ = some (.int .i64 (f i))

theorem PAt.below {w w' : World} {B : Nat} {a : Option Addr} {n : Nat} {f : Nat → Pr} (h : PAt w a n f) (hb : Below B w w') (hB : B = w.heap.size) : PAt w' a n f := by
  subst hB
  rcases h with h | ⟨b, off, e, hlt, hc⟩
  · exact .inl h
  · exact .inr ⟨b, off, e, Nat.lt_of_lt_of_le hlt hb.size, fun i hi => (hc i hi).keep (fun q => hb.cell (p := ⟨b, q, none⟩) hlt)⟩
theorem IAt.below {w w' : World} {B : Nat} {a : Option Addr} {n : Nat} {f : Nat → Int} (h : IAt w a n f) (hb : Below B w w') (hB : B = w.heap.size) : IAt w' a n f := by
  subst hB
  rcases h with h | ⟨b, off, e, hlt, hc⟩
  · exact .inl h
  · exact .inr ⟨b, off, e, Nat.lt_of_lt_of_le hlt hb.size, fun i hi => (hb.cell (p := ⟨b, off + i, none⟩) hlt).trans (hc i hi)⟩

/-- A dict. -/
structure Dc where
  n : Nat
  L : Nat → Pr
  m : Nat
  I : Nat → Int
  x : Nat
  X : Nat → Int
  used : Int
  live : Int
  turns : Int

abbrev Dv (la : Option Addr) (lc : Nat) (ia : Option Addr) (ic : Nat) (xa : Option Addr) (xc : Nat) (d : Dc) : Value := .agg #[.slice la d.n lc, .slice ia d.m ic, .slice xa d.x xc, .int .i64 d.used, .int .i64 d.live, .int .i64 d.turns]

/-- The rows of a dict. -/
structure DAt (w : World) (la ia xa : Option Addr) (d : Dc) : Prop where
  log : PAt w la d.n d.L
  ints : IAt w ia d.m d.I
  index : IAt w xa d.x d.X
theorem DAt.below {w w' : World} {la ia xa : Option Addr} {d : Dc} (h : DAt w la ia xa d) (hb : Below w.heap.size w w') : DAt w' la ia xa d := ⟨h.log.below hb rfl, h.ints.below hb rfl, h.index.below hb rfl⟩
theorem DAt.belowOf {w0 w w' : World} {la ia xa : Option Addr} {d : Dc} (h : DAt w la ia xa d) (hb : Below w.heap.size w w') : DAt w' la ia xa d := h.below hb

/-- Lengths in bounds. -/
structure Small (d : Dc) : Prop where
  n : d.n ≤ 4194304
  m : d.m ≤ 4194304
  x : d.x ≤ 4194304

/-- A pointer to a dict. -/
structure DPtr (w : World) (c o : Nat) (la : Option Addr) (lc : Nat) (ia : Option Addr) (ic : Nat) (xa : Option Addr) (xc : Nat) (d : Dc) : Prop where
  lt : c < w.heap.size
  c0 : w.cell? ⟨c, o, none⟩ = some (.slice la d.n lc)
  c1 : w.cell? ⟨c, o + 1, none⟩ = some (.slice ia d.m ic)
  c2 : w.cell? ⟨c, o + 2, none⟩ = some (.slice xa d.x xc)
  c3 : w.cell? ⟨c, o + 3, none⟩ = some (.int .i64 d.used)
  c4 : w.cell? ⟨c, o + 4, none⟩ = some (.int .i64 d.live)
  c5 : w.cell? ⟨c, o + 5, none⟩ = some (.int .i64 d.turns)
  rows : DAt w la ia xa d
theorem DPtr.below {w w' : World} {c o : Nat} {la ia xa : Option Addr} {lc ic xc : Nat} {d : Dc} (h : DPtr w c o la lc ia ic xa xc d) (hb : Below w.heap.size w w') : DPtr w' c o la lc ia ic xa xc d :=
  ⟨Nat.lt_of_lt_of_le h.lt hb.size, (hb.cell (p := ⟨c, o, none⟩) h.lt).trans h.c0, (hb.cell (p := ⟨c, o + 1, none⟩) h.lt).trans h.c1, (hb.cell (p := ⟨c, o + 2, none⟩) h.lt).trans h.c2, (hb.cell (p := ⟨c, o + 3, none⟩) h.lt).trans h.c3, (hb.cell (p := ⟨c, o + 4, none⟩) h.lt).trans h.c4, (hb.cell (p := ⟨c, o + 5, none⟩) h.lt).trans h.c5, h.rows.below hb⟩

/-! What is asked. -/
open Classical in
/-- A proposition as a bool. -/
noncomputable def tells (p : Prop) : Bool := if p then true else false
theorem tells_yes {p : Prop} (h : p) : tells p = true := if_pos h
theorem tells_no {p : Prop} (h : ¬ p) : tells p = false := if_neg h
theorem tells_iff {p : Prop} : tells p = true ↔ p := by
  by_cases h : p
  · exact ⟨fun _ => h, fun _ => tells_yes h⟩
  · exact ⟨fun e => absurd ((tells_no h).symm.trans e) (by decide), fun e => absurd e h⟩

def noneB (v : Vl) : Bool := v.kind == 0 && v.ok
def keyB (v : Vl) : Bool := v.ok && v.kind != 0 && !(v.kind == 3 && (fnan v.flt || wholeB v.flt))
def pairB (turns last : Int) (p : Pr) : Bool := decide (last < p.turn) && decide (p.turn ≤ turns) && keyB p.key && p.val.ok && p.val.kind != 0
/-- The log gone through: how many live, and the last turn. -/
def logTo (d : Dc) : Nat → Option (Int × Int)
  | 0 => some (0, 0)
  | k + 1 => match logTo d k with
    | none => none
    | some (live, last) => if (d.L k).turn = 0 then (if noneB (d.L k).key && noneB (d.L k).val then some (live, last) else none) else if pairB d.turns last (d.L k) then some (live + 1, (d.L k).turn) else none

theorem logTo_none {d : Dc} {k : Nat} (h : logTo d k = none) : ∀ j, logTo d (k + j) = none := by
  intro j
  induction j with
  | zero => exact h
  | succ j ih => show (match logTo d (k + j) with | none => none | some (live, last) => _) = none; rw [ih]
theorem logTo_none' {d : Dc} {k n : Nat} (h : logTo d k = none) (hk : k ≤ n) : logTo d n = none := by
  have := logTo_none h (n - k)
  rwa [show k + (n - k) = n by omega] at this

def D1 (d : Dc) : Prop := 0 ≤ d.live ∧ d.live ≤ 500 ∧ 0 ≤ d.turns ∧ d.turns ≤ 1000000000000 ∧ ((d.n : Int) ≤ 8 ∨ (d.n : Int) ≤ 2 * d.live)
def D2 (d : Dc) : Prop := ∃ last, logTo d d.n = some (d.live, last)
/-- The pair that an entry names. -/
abbrev Dc.at (d : Dc) (p : Int) : Pr := d.L (p - 1).toNat
def okInt (d : Dc) (i : Nat) : Prop := d.I i = 0 ∨ (0 < d.I i ∧ d.I i ≤ d.n ∧ (d.at (d.I i)).turn ≠ 0 ∧ (d.at (d.I i)).key.kind = 2 ∧ (d.at (d.I i)).key.num = i + 1)
def D3 (d : Dc) : Prop := (∀ i, i < d.m → okInt d i) ∧ (d.m = 0 ∨ 0 < d.I (d.m - 1))
def smallK (m : Nat) (k : Vl) : Prop := k.kind = 2 ∧ 1 ≤ k.num ∧ k.num ≤ m
def okSlot (d : Dc) (j : Nat) : Prop := d.X j = 0 ∨ d.X j = -1 ∨ (0 < d.X j ∧ d.X j ≤ d.n ∧ (d.at (d.X j)).turn ≠ 0 ∧ ¬ smallK d.m (d.at (d.X j)).key)
def usedTo (d : Dc) : Nat → Nat
  | 0 => 0
  | k + 1 => if d.X k = 0 then usedTo d k else usedTo d k + 1
def Pow2 (x : Nat) : Prop := ∃ k, x = 2 ^ k
def D4 (d : Dc) : Prop := (d.x = 0 ∨ (8 ≤ d.x ∧ d.x ≤ 4000 ∧ Pow2 d.x)) ∧ (∀ j, j < d.x → okSlot d j) ∧ (usedTo d d.x : Int) = d.used ∧ 2 * usedTo d d.x ≤ d.x
/-- How many of the first k entries of a row name pair i. -/
def cnt (f : Nat → Int) (i : Nat) : Nat → Nat
  | 0 => 0
  | k + 1 => if f k = (i : Int) + 1 then cnt f i k + 1 else cnt f i k
end Go.Proofs.YtnjgebncghdajaaGreatDoor
