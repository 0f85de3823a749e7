/-
  IdA.
-/
import Derived.Test.YtnjgebncghdajaaGreatDoorBi11
import Derived.Test.YtnjgebncghdajaaGreatDoorDcAP
namespace Go.Proofs.YtnjgebncghdajaaGreatDoor
open Go.RowKit
set_option linter.unusedVariables false

/-- Two values are the same key. -/
def fqB (a b : Nat) : Bool := FloatKind.f64.format.order a b == some .eq
def lkB (a b : Vl) : Bool := a.kind == b.kind && (a.num == b.num && (fqB a.flt b.flt && (a.str.toList == b.str.toList && a.ref == b.ref)))
def up1 {α : Type} (f : Nat → α) (i : Nat) (a : α) : Nat → α := fun j => if j = i then a else f j
theorem up1_self {α : Type} (f : Nat → α) (i : Nat) (a : α) : up1 f i a i = a := by simp [up1]
theorem up1_other {α : Type} (f : Nat → α) {i j : Nat} (a : α) (h : j ≠ i) : up1 f i a j = f j := by simp [up1, h]

/-- The first place from i on, of k places, where p holds; -1 where none. -/
def atF (p : Nat → Bool) : Nat → Nat → Int
  | 0, _ => -1
  | k + 1, i => if p i then (i : Int) else atF p k (i + 1)
abbrev at1 (p : Nat → Bool) (n : Nat) : Int := atF p n 0
theorem atF_hit {p : Nat → Bool} {n i : Nat} (h : i < n) (hp : p i = true) : atF p (n - i) i = i := by
  obtain ⟨k, hk⟩ : ∃ k, n - i = k + 1 := ⟨n - i - 1, by omega⟩
  rw [hk, atF, if_pos hp]
theorem atF_miss {p : Nat → Bool} {n i : Nat} (h : i < n) (hp : p i = false) : atF p (n - i) i = atF p (n - (i + 1)) (i + 1) := by
  obtain ⟨k, hk⟩ : ∃ k, n - i = k + 1 := ⟨n - i - 1, by omega⟩
  rw [hk, atF, if_neg (by rw [hp]; simp), show n - (i + 1) = k by omega]
theorem atF_end {p : Nat → Bool} {n i : Nat} (h : ¬ i < n) : atF p (n - i) i = -1 := by
  rw [show n - i = 0 by omega, atF]
theorem atF_rng (p : Nat → Bool) : ∀ k i, atF p k i = -1 ∨ ∃ j : Nat, atF p k i = (j : Int) ∧ i ≤ j ∧ j < i + k ∧ p j = true ∧ ∀ q, i ≤ q → q < j → p q = false
  | 0, i => .inl rfl
  | k + 1, i => by
    rw [atF]
    cases hp : p i
    · rw [if_neg (by simp)]
      rcases atF_rng p k (i + 1) with h | ⟨j, h1, h2, h3, h4, h5⟩
      · exact .inl h
      · refine .inr ⟨j, h1, by omega, by omega, h4, fun q h6 h7 => ?_⟩
        rcases (by omega : q = i ∨ i + 1 ≤ q) with rfl | h
        · exact hp
        · exact h5 q h h7
    · rw [if_pos rfl]
      exact .inr ⟨i, rfl, Nat.le_refl _, by omega, hp, fun q h1 h2 => by omega⟩
theorem at1_rng (p : Nat → Bool) (n : Nat) : at1 p n = -1 ∨ ∃ j : Nat, at1 p n = (j : Int) ∧ j < n ∧ p j = true := by
  rcases atF_rng p n 0 with h | ⟨j, h1, h2, h3, h4, h5⟩
  · exact .inl h
  · exact .inr ⟨j, h1, by omega, h4⟩
theorem atF_none {p : Nat → Bool} : ∀ {k i}, atF p k i = -1 → ∀ j, i ≤ j → j < i + k → p j = false
  | 0, i, h, j, h1, h2 => by omega
  | k + 1, i, h, j, h1, h2 => by
    rw [atF] at h
    cases hp : p i
    · rw [if_neg (by rw [hp]; simp)] at h
      rcases (by omega : j = i ∨ i + 1 ≤ j) with rfl | h3
      · exact hp
      · exact atF_none h j h3 (by omega)
    · rw [if_pos hp] at h; omega

/-- A plain table; a desk; an answer. -/
structure Pl where
  n : Nat
  P : Nat → Pr
  turns : Int
instance : Inhabited Pl := ⟨⟨0, fun _ => default, 0⟩⟩
structure Ds where
  nt : Nat
  T : Nat → Pl
  ns : Nat
  S : Nat → ByteArray
structure An where
  code : Int
  num : Int
  key : Vl
  val : Vl
instance : Inhabited An := ⟨⟨0, 0, default, default⟩⟩
abbrev nov : Vl := ⟨0, 0, 0, ⟨#[]⟩, 0⟩
abbrev AnV (a : An) : Value := .agg #[.int .i64 a.code, .int .i64 a.num, .int .i64 a.key.kind, .int .i64 a.key.num, .float .f64 a.key.flt, .string a.key.str, .int .i64 a.key.ref, .int .i64 a.val.kind, .int .i64 a.val.num, .float .f64 a.val.flt, .string a.val.str, .int .i64 a.val.ref]
def anL (a : An) : List Value := [.int .i64 a.code, .int .i64 a.num, .int .i64 a.key.kind, .int .i64 a.key.num, .float .f64 a.key.flt, .string a.key.str, .int .i64 a.key.ref, .int .i64 a.val.kind, .int .i64 a.val.num, .float .f64 a.val.flt, .string a.val.str, .int .i64 a.val.ref]
def ansC (c : Int) : An := ⟨c, 0, nov, nov⟩
def ansN (n : Int) : An := ⟨0, n, nov, nov⟩
def ansV (v : Vl) : An := ⟨0, 0, nov, v⟩

/-- What KeyOf gives, in parts. -/
def kcode (v : Vl) : Int := if v.ok = true then (if v.kind = 0 then 1 else if v.kind = 3 then (if fnan v.flt = true then 1 else 0) else 0) else 2
def kval (v : Vl) : Vl := if v.ok = true then (if v.kind = 0 then nov else if v.kind = 3 then (if fnan v.flt = true then nov else if wholeB v.flt = true then ⟨2, fint v.flt, 0, ⟨#[]⟩, 0⟩ else v) else v) else nov
theorem keyV_parts (v : Vl) : keyV v.kind v.num v.flt v.str v.ref = KV (kcode v) (kval v).kind (kval v).num (kval v).flt (kval v).str (kval v).ref := by
  unfold keyV kcode kval
  show (if v.ok = true then _ else _) = _
  split
  · split
    · rfl
    · split
      · split
        · rfl
        · split <;> rfl
      · rfl
  · rfl
def strV (s : ByteArray) : Vl := ⟨4, 0, 0, s, 0⟩
def intV (n : Int) : Vl := ⟨2, n, 0, ⟨#[]⟩, 0⟩

def Pl.at (t : Pl) (k : Vl) : Int := at1 (fun j => lkB (t.P j).key k) t.n
def Pl.get (t : Pl) (k : Vl) : Vl := if t.at k < 0 then nov else (t.P (t.at k).toNat).val
def Pl.setV (t : Pl) (i : Nat) (v : Vl) : Pl := { t with P := up1 t.P i ⟨(t.P i).key, v, (t.P i).turn⟩ }
def Pl.del (t : Pl) (i : Nat) : Pl := { t with n := t.n - 1, P := fun j => if j < i then t.P j else t.P (j + 1) }
def Pl.add (t : Pl) (k v : Vl) : Pl := ⟨t.n + 1, up1 t.P t.n ⟨k, v, t.turns + 1⟩, t.turns + 1⟩
def Pl.full (t : Pl) : Bool := t.n == 500 || t.turns == 1000000000000
def Pl.put (t : Pl) (k v : Vl) : Pl :=
  if 0 ≤ t.at k then (if v.kind = 0 then t.del (t.at k).toNat else t.setV (t.at k).toNat v)
  else if v.kind = 0 then t else if t.full then t else t.add k v
def Pl.code (t : Pl) (k v : Vl) : Int := if 0 ≤ t.at k then 0 else if v.kind = 0 then 0 else if t.full then 5 else 0
def Pl.nextI (t : Pl) (n : Int) : Int := at1 (fun j => decide (n < (t.P j).turn)) t.n
def Pl.next (t : Pl) (n : Int) : Pr := if t.nextI n < 0 then ⟨nov, nov, 0⟩ else t.P (t.nextI n).toNat
def Pl.has (t : Pl) (m : Int) : Bool := decide (0 ≤ at1 (fun j => (t.P j).key.kind == 2 && (t.P j).key.num == m) t.n)
def lenF (t : Pl) : Nat → Nat → Nat
  | 0, m => m
  | k + 1, m => if t.has ((m : Int) + 1) then lenF t k (m + 1) else m
def Pl.len (t : Pl) : Nat := lenF t (t.n + 1) 0

/-- Every key is right, all is in bounds. -/
structure Pl.Good (t : Pl) : Prop where
  n : t.n ≤ 500
  lo : 0 ≤ t.turns
  hi : t.turns ≤ 1000000000000
  keys : ∀ i, i < t.n → (t.P i).key.ok = true
structure Ds.Good (D : Ds) : Prop where
  nt : D.nt ≤ 100
  ns : D.ns ≤ 50
  t : ∀ i, i < D.nt → (D.T i).Good
  s : ∀ i, i < D.ns → (D.S i).size ≤ 4000

def tabB (op : Int) : Bool := op != 1 && op != 7
def sitB (op : Int) : Bool := op == 8 || op == 9
def chk (a : Ac) (nt ns : Nat) : Int :=
  if actB a = false then 1 else if tabB a.op = true ∧ (nt : Int) ≤ a.t then 2 else if sitB a.op = true ∧ (ns : Int) ≤ a.site then 3
  else if (a.op = 2 ∨ a.op = 3) ∧ kcode a.k ≠ 0 then 4 else 0
def Ds.putT (D : Ds) (t : Nat) (k v : Vl) : Ds := { D with T := up1 D.T t ((D.T t).put k v) }
/-- The desk behind an act that may be done. -/
def Ds.nextC (D : Ds) (a : Ac) : Ds :=
  if a.op = 1 then (if D.nt = 100 then D else { D with nt := D.nt + 1, T := up1 D.T D.nt ⟨0, fun _ => default, 0⟩ })
  else if a.op = 7 then (if D.ns = 50 then D else { D with ns := D.ns + 1, S := up1 D.S D.ns a.k.str })
  else if a.op = 2 then D.putT a.t.toNat (kval a.k) a.v
  else if a.op = 9 then D.putT a.t.toNat (strV (D.S a.site.toNat)) a.v
  else D
/-- What it answers. -/
def Ds.ansOf (D : Ds) (a : Ac) : An :=
  if a.op = 1 then (if D.nt = 100 then ansC 5 else ansN D.nt)
  else if a.op = 7 then (if D.ns = 50 then ansC 5 else ansN D.ns)
  else if a.op = 2 then ansC ((D.T a.t.toNat).code (kval a.k) a.v)
  else if a.op = 9 then ansC ((D.T a.t.toNat).code (strV (D.S a.site.toNat)) a.v)
  else if a.op = 3 then ansV ((D.T a.t.toNat).get (kval a.k))
  else if a.op = 8 then ansV ((D.T a.t.toNat).get (strV (D.S a.site.toNat)))
  else if a.op = 4 then ⟨0, ((D.T a.t.toNat).next a.n).turn, ((D.T a.t.toNat).next a.n).key, ((D.T a.t.toNat).next a.n).val⟩
  else if a.op = 6 then ansN (D.T a.t.toNat).n
  else ansN (D.T a.t.toNat).len
def Ds.step (D : Ds) (a : Ac) : Ds := if chk a D.nt D.ns = 0 then D.nextC a else D
def Ds.ans (D : Ds) (a : Ac) : An := if chk a D.nt D.ns = 0 then D.ansOf a else ansC (chk a D.nt D.ns)

theorem Pl.at_rng (t : Pl) (k : Vl) : t.at k = -1 ∨ ∃ j : Nat, t.at k = (j : Int) ∧ j < t.n := by
  rcases at1_rng (fun j => lkB (t.P j).key k) t.n with h | ⟨j, h1, h2, _⟩
  · exact .inl h
  · exact .inr ⟨j, h1, h2⟩
theorem Pl.Good.put {t : Pl} (h : t.Good) {k v : Vl} (hk : k.ok = true) : (t.put k v).Good := by
  unfold Pl.put
  split
  · rename_i h0
    rcases t.at_rng k with e | ⟨j, e, hj⟩
    · omega
    rw [e]
    split
    · refine ⟨by show t.n - 1 ≤ _; have := h.n; omega, h.lo, h.hi, fun i hi => ?_⟩
      have hi : i < t.n - 1 := hi
      show (if i < _ then t.P i else t.P (i + 1)).key.ok = true
      split
      · exact h.keys i (by omega)
      · exact h.keys (i + 1) (by omega)
    · refine ⟨h.n, h.lo, h.hi, fun i hi => ?_⟩
      have hi : i < t.n := hi
      show (up1 t.P _ _ i).key.ok = true
      unfold up1
      split
      · exact h.keys _ (by omega)
      · exact h.keys i hi
  · split
    · exact h
    · split
      · exact h
      · rename_i hf
        have hf : t.full = false := by simpa using hf
        have h1 := h.n
        have h2 := h.hi
        have h3 := h.lo
        have hf : t.n ≠ 500 ∧ t.turns ≠ 1000000000000 := by simpa [Pl.full] using hf
        refine ⟨by show t.n + 1 ≤ _; omega, by show 0 ≤ t.turns + 1; omega, by show t.turns + 1 ≤ _; omega, fun i hi => ?_⟩
        have hi : i < t.n + 1 := hi
        show (up1 t.P t.n _ i).key.ok = true
        unfold up1
        split
        · exact hk
        · exact h.keys i (by omega)
theorem Ds.Good.putT {D : Ds} (h : D.Good) {t : Nat} {k v : Vl} (ht : t < D.nt) (hk : k.ok = true) : (D.putT t k v).Good := by
  refine ⟨h.nt, h.ns, fun i hi => ?_, h.s⟩
  show (up1 D.T t _ i).Good
  unfold up1
  split
  · exact (h.t t ht).put hk
  · exact h.t i hi
theorem actB_rng {a : Ac} (h : actB a = true) : 0 ≤ a.t ∧ 0 ≤ a.site ∧ a.k.ok = true ∧ a.v.ok = true ∧ 0 ≤ a.n ∧ 1 ≤ a.op ∧ a.op ≤ 9 := by
  have h1 : rngB a = true ∧ 1 ≤ a.op ∧ a.op ≤ 9 := by
    unfold actB at h
    cases hr : rngB a
    · simp [hr] at h
    · refine ⟨rfl, ?_⟩
      simp only [hr] at h
      by_cases e1 : a.op = 1; · omega
      by_cases e2 : a.op = 2; · omega
      by_cases e3 : a.op = 3; · omega
      by_cases e4 : a.op = 4; · omega
      by_cases e5 : a.op = 5; · omega
      by_cases e6 : a.op = 6; · omega
      by_cases e7 : a.op = 7; · omega
      by_cases e8 : a.op = 8; · omega
      by_cases e9 : a.op = 9; · omega
      simp [e1, e2, e3, e4, e5, e6, e7, e8, e9] at h
  obtain ⟨h0, h1, h2⟩ := h1
  unfold rngB at h0
  simp only [Bool.and_eq_true, Bool.not_eq_true', decide_eq_false_iff_not] at h0
  obtain ⟨⟨⟨⟨⟨⟨⟨g1, g2⟩, g3⟩, g4⟩, g5⟩, g6⟩, g7⟩, g8⟩ := h0
  exact ⟨by omega, by omega, g7, g8, by omega, h1, h2⟩

theorem strV_ok {s : ByteArray} (h : s.size ≤ 4000) : (strV s).ok = true := by
  have h0 : fz 0 = true := by decide
  unfold Vl.ok strV validB
  simp [h0]; omega
theorem kval_ok {v : Vl} (h : kcode v = 0) : (kval v).ok = true := by
  have h0 : fz 0 = true := by decide
  unfold kcode at h
  unfold kval
  split at h
  · rename_i hv
    rw [if_pos hv]
    split at h
    · cases h
    · rename_i h1
      rw [if_neg h1]
      split at h
      · rename_i h2
        rw [if_pos h2]
        split at h
        · cases h
        · rename_i h3
          rw [if_neg h3]
          split
          · unfold Vl.ok validB; simp [h0]
          · exact hv
      · rename_i h2
        rw [if_neg h2]
        exact hv
  · cases h
theorem str_le {v : Vl} (h : v.ok = true) (hk : v.kind = 4) : v.str.size ≤ 4000 := by
  unfold Vl.ok validB at h
  simp [hk] at h
  omega
theorem actB_site {a : Ac} (h : actB a = true) (h7 : a.op = 7) : a.k.kind = 4 := by
  unfold actB at h
  simp [h7] at h
  exact h.2.2
theorem chk_ok {a : Ac} {nt ns : Nat} (h : chk a nt ns = 0) : actB a = true ∧ (tabB a.op = true → a.t < nt) ∧ (sitB a.op = true → a.site < ns) ∧ ((a.op = 2 ∨ a.op = 3) → kcode a.k = 0) := by
  unfold chk at h
  split at h
  · cases h
  · rename_i h1
    split at h
    · cases h
    · rename_i h2
      split at h
      · cases h
      · rename_i h3
        split at h
        · cases h
        · rename_i h4
          refine ⟨by simpa using h1, fun e => ?_, fun e => ?_, fun e => ?_⟩
          · rcases Int.lt_or_le a.t nt with h | h
            · exact h
            · exact absurd ⟨e, h⟩ h2
          · rcases Int.lt_or_le a.site ns with h | h
            · exact h
            · exact absurd ⟨e, h⟩ h3
          · rcases Decidable.em (kcode a.k = 0) with h | h
            · exact h
            · exact absurd ⟨e, h⟩ h4
theorem Ds.Good.nextC {D : Ds} (h : D.Good) {a : Ac} (hc : chk a D.nt D.ns = 0) : (D.nextC a).Good := by
  obtain ⟨c1, c2, c3, c4⟩ := chk_ok hc
  obtain ⟨r1, r2, r3, r4, r5, r6, r7⟩ := actB_rng c1
  have hn := h.nt
  have hs := h.ns
  unfold Ds.nextC
  split
  · split
    · exact h
    · refine ⟨by show D.nt + 1 ≤ _; omega, hs, fun i hi => ?_, h.s⟩
      have hi : i < D.nt + 1 := hi
      show (up1 D.T D.nt _ i).Good
      unfold up1
      split
      · exact ⟨by show (0 : Nat) ≤ 500; omega, Int.le_refl _, by show (0 : Int) ≤ _; omega, fun i hi => absurd hi (Nat.not_lt_zero i)⟩
      · exact h.t i (by omega)
  · split
    · rename_i h7
      split
      · exact h
      · refine ⟨hn, by show D.ns + 1 ≤ _; omega, h.t, fun i hi => ?_⟩
        have hi : i < D.ns + 1 := hi
        show (up1 D.S D.ns _ i).size ≤ 4000
        unfold up1
        split
        · exact str_le r3 (actB_site c1 h7)
        · exact h.s i (by omega)
    · rename_i n1 n7
      have hT : a.t.toNat < D.nt := by have := c2 (by simp [tabB, n1, n7]); omega
      split
      · rename_i h2
        exact h.putT hT (kval_ok (c4 (.inl h2)))
      · split
        · rename_i h9
          have hS : a.site.toNat < D.ns := by have := c3 (by simp [sitB, h9]); omega
          exact h.putT hT (strV_ok (h.s _ hS))
        · exact h
theorem Ds.Good.step {D : Ds} (h : D.Good) (a : Ac) : (D.step a).Good := by
  unfold Ds.step
  split
  · rename_i hc; exact h.nextC hc
  · exact h

/-- How far the numbers from 1 go. -/
theorem php : ∀ (n m : Nat) (g : Nat → Nat), (∀ j, j < m → g j < n) → (∀ i j, i < m → j < m → g i = g j → i = j) → m ≤ n
  | 0, m, g, h1, h2 => by
    rcases Nat.eq_zero_or_pos m with h | h
    · omega
    · have := h1 0 h; omega
  | n + 1, 0, g, h1, h2 => by omega
  | n + 1, m + 1, g, h1, h2 => by
    have hx := h1 m (by omega)
    have := php n m (fun j => if g j = n then g m else g j) (fun j hj => by
      show (if g j = n then g m else g j) < n
      have hj1 := h1 j (by omega)
      split
      · rename_i e
        have : g m ≠ n := fun e2 => by have := h2 j m (by omega) (by omega) (by omega); omega
        omega
      · omega) (fun i j hi hj e => by
      have e : (if g i = n then g m else g i) = (if g j = n then g m else g j) := e
      split at e <;> split at e
      · exact h2 i j (by omega) (by omega) (by omega)
      · have := h2 m j (by omega) (by omega) (by omega); omega
      · have := h2 i m (by omega) (by omega) (by omega); omega
      · exact h2 i j (by omega) (by omega) (by omega))
    omega
theorem Pl.has_le {t : Pl} {m : Nat} (h : ∀ j, j < m → t.has ((j : Int) + 1) = true) : m ≤ t.n := by
  have h' : ∀ j, ∃ i, j < m → i < t.n ∧ (t.P i).key.num = (j : Int) + 1 := fun j => by
    rcases Nat.lt_or_ge j m with hj | hj
    · have hh := h j hj
      unfold Pl.has at hh
      have hh := of_decide_eq_true hh
      rcases at1_rng (fun q => (t.P q).key.kind == 2 && (t.P q).key.num == (j : Int) + 1) t.n with e | ⟨i, e, h1, h2⟩
      · omega
      · have h2 : (t.P i).key.kind = 2 ∧ (t.P i).key.num = (j : Int) + 1 := by simpa using h2
        exact ⟨i, fun _ => ⟨h1, h2.2⟩⟩
    · exact ⟨0, fun h => by omega⟩
  refine php t.n m (fun j => Classical.choose (h' j)) (fun j hj => (Classical.choose_spec (h' j) hj).1) (fun i j hi hj e => ?_)
  have e1 := (Classical.choose_spec (h' i) hi).2
  have e2 := (Classical.choose_spec (h' j) hj).2
  have e : Classical.choose (h' i) = Classical.choose (h' j) := e
  rw [e] at e1
  omega
theorem lenF_eq {t : Pl} : ∀ k m : Nat, (∃ q : Nat, m ≤ q ∧ q < m + k ∧ t.has ((q : Int) + 1) = false) → ∃ q : Nat, lenF t k m = q ∧ m ≤ q ∧ t.has ((q : Int) + 1) = false ∧ ∀ j : Nat, m ≤ j → j < q → t.has ((j : Int) + 1) = true
  | 0, m, ⟨q, h1, h2, _⟩ => by omega
  | k + 1, m, ⟨q, h1, h2, h3⟩ => by
    rw [lenF]
    cases hm : t.has ((m : Int) + 1)
    · rw [if_neg (by simp)]; exact ⟨m, rfl, Nat.le_refl _, hm, fun j h1 h2 => by omega⟩
    · rw [if_pos rfl]
      have : q ≠ m := fun e => by rw [e, hm] at h3; cases h3
      obtain ⟨r, g1, g2, g3, g4⟩ := lenF_eq (t := t) k (m + 1) ⟨q, by omega, by omega, h3⟩
      refine ⟨r, g1, by omega, g3, fun j h5 h6 => ?_⟩
      rcases (by omega : j = m ∨ m + 1 ≤ j) with rfl | h
      · exact hm
      · exact g4 j h h6
theorem Pl.len_eq (t : Pl) : t.has ((t.len : Int) + 1) = false ∧ ∀ j, j < t.len → t.has ((j : Int) + 1) = true := by
  have hex : ∃ q : Nat, 0 ≤ q ∧ q < 0 + (t.n + 1) ∧ t.has ((q : Int) + 1) = false := by
    rcases Classical.em (∃ q : Nat, q < t.n + 1 ∧ t.has ((q : Int) + 1) = false) with ⟨q, h1, h2⟩ | h
    · exact ⟨q, by omega, by omega, h2⟩
    · have := Pl.has_le (t := t) (m := t.n + 1) fun j hj => by
        cases e : t.has ((j : Int) + 1)
        · exact absurd ⟨j, hj, e⟩ h
        · rfl
      omega
  obtain ⟨q, h1, h2, h3, h4⟩ := lenF_eq (t := t) (t.n + 1) 0 hex
  have : t.len = q := h1
  rw [this]
  exact ⟨h3, fun j hj => h4 j (by omega) hj⟩
theorem Pl.len_is {t : Pl} {m : Nat} (h1 : ∀ j, j < m → t.has ((j : Int) + 1) = true) (h2 : t.has ((m : Int) + 1) = false) : t.len = m := by
  obtain ⟨g1, g2⟩ := t.len_eq
  rcases Nat.lt_trichotomy t.len m with h | h | h
  · rw [h1 _ h] at g1; cases g1
  · exact h
  · rw [g2 _ h] at h2; cases h2
theorem lk_int {k : Vl} (h : k.ok = true) (m : Int) : lkB k (intV m) = (k.kind == 2 && k.num == m) := by
  unfold lkB intV
  by_cases h2 : k.kind = 2
  · unfold Vl.ok validB at h
    simp [h2] at h
    obtain ⟨⟨e1, e2⟩, e3⟩ := h
    simp [h2, fqB, e2, e3]
    have : FloatKind.f64.format.order k.flt 0 = some .eq := by simpa [fz] using e1
    simp [this]
  · rw [show (k.kind == 2) = false from beq_eq_false_iff_ne.2 h2]; rfl
theorem atF_congr {p q : Nat → Bool} : ∀ k i, (∀ j, i ≤ j → j < i + k → p j = q j) → atF p k i = atF q k i
  | 0, i, h => rfl
  | k + 1, i, h => by
    rw [atF, atF, h i (Nat.le_refl _) (by omega), atF_congr k (i + 1) (fun j h1 h2 => h j (by omega) (by omega))]
theorem Pl.Good.at_int {t : Pl} (h : t.Good) (m : Int) : decide (0 ≤ t.at (intV m)) = t.has m := by
  unfold Pl.at Pl.has
  rw [show at1 (fun j => lkB (t.P j).key (intV m)) t.n = at1 (fun j => (t.P j).key.kind == 2 && (t.P j).key.num == m) t.n from atF_congr _ _ fun j _ h2 => lk_int (h.keys j (by omega)) m]
end Go.Proofs.YtnjgebncghdajaaGreatDoor
