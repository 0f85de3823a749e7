/-
  DsA, DsB, DsC, DsD, KeyG, DkM, Mark, DmA, DmB, DmC, DmD, DmE, DtW, DsK, DtX, WbA, DzC, DzD in one text.
-/
import Derived.Test.YtglcaejddckleaaDoorBk0
import Derived.Laws.OwnMore
import Derived.Test.YtglcaejddckleaaDoorKeyF
import Derived.Test.YtglcaejddckleaaDoorDcI
import Derived.Test.YtglcaejddckleaaDoorConv
import Derived.Test.YtglcaejddckleaaDoorDiE
import Derived.Test.YtglcaejddckleaaDoorDigits
import Derived.Test.YtglcaejddckleaaDoorBk3
import Derived.Test.YtglcaejddckleaaDoorBk1
namespace Go.Proofs.YtglcaejddckleaaDoor
open Go.RowKit
set_option linter.unusedVariables false

/-- The blocks of three rows. -/
def Own3 (v0 v1 v2 : Value) (b : Nat) : Prop := v0.ownBlock = some b ∨ v1.ownBlock = some b ∨ v2.ownBlock = some b

/-- A dict whose rows are its own, behind a pointer. -/
structure DMut (w : World) (c o B : Nat) (v0 v1 v2 : Value) (d : Dc) : Prop where
  lt : c < w.heap.size
  c0 : w.cell? ⟨c, o, none⟩ = some v0
  c1 : w.cell? ⟨c, o + 1, none⟩ = some v1
  c2 : w.cell? ⟨c, o + 2, none⟩ = some v2
  c3 : w.cell? ⟨c, o + 3, none⟩ = some (.int .i64 d.used)
  c4 : w.cell? ⟨c, o + 4, none⟩ = some (.int .i64 d.live)
  c5 : w.cell? ⟨c, o + 5, none⟩ = some (.int .i64 d.turns)
  fz : ∀ q, w.frozen? ⟨c, q, none⟩ = false
  log : POwn w B v0 d.n d.L
  ints : IOwn w B v1 d.m d.I
  index : IOwn w B v2 d.x d.X
  ap : ∀ q, v1.ownBlock = some q → v2.ownBlock ≠ some q
  nc : ¬ Own3 v0 v1 v2 c
  base : B ≤ w.heap.size

/-- What a writing through the pointer leaves as it is. -/
structure Stp (c o : Nat) (v0 v1 v2 : Value) (w : World) (u0 u1 u2 : Value) (w' : World) : Prop where
  os : w'.os = w.os
  tape : w'.tape = w.tape
  output : w'.output = w.output
  size : w.heap.size ≤ w'.heap.size
  block : ∀ b, b < w.heap.size → b ≠ c → ¬ Own3 v0 v1 v2 b → w'.heap[b]? = w.heap[b]?
  cell : ∀ q, (q < o ∨ o + 6 ≤ q) → w'.cell? ⟨c, q, none⟩ = w.cell? ⟨c, q, none⟩
  sub : ∀ b, Own3 u0 u1 u2 b → Own3 v0 v1 v2 b ∨ w.heap.size ≤ b
theorem Stp.refl (c o : Nat) (v0 v1 v2 : Value) (w : World) : Stp c o v0 v1 v2 w v0 v1 v2 w := ⟨rfl, rfl, rfl, Nat.le_refl _, fun _ _ _ _ => rfl, fun _ _ => rfl, fun _ h => .inl h⟩
theorem Stp.trans {c o : Nat} {v0 v1 v2 u0 u1 u2 t0 t1 t2 : Value} {w w' w'' : World} (h : Stp c o v0 v1 v2 w u0 u1 u2 w') (k : Stp c o u0 u1 u2 w' t0 t1 t2 w'') : Stp c o v0 v1 v2 w t0 t1 t2 w'' :=
  ⟨k.os.trans h.os, k.tape.trans h.tape, k.output.trans h.output, Nat.le_trans h.size k.size, fun b hb hc ho => (k.block b (Nat.lt_of_lt_of_le hb h.size) hc (fun e => (h.sub b e).elim ho (fun e' => absurd hb (by omega)))).trans (h.block b hb hc ho), fun q hq => (k.cell q hq).trans (h.cell q hq), fun b hb => (k.sub b hb).elim (h.sub b) (fun e => .inr (Nat.le_trans h.size e))⟩
theorem Stp.of_below {c o : Nat} {v0 v1 v2 : Value} {w w' : World} (h : Below w.heap.size w w') (hc : c < w.heap.size) : Stp c o v0 v1 v2 w v0 v1 v2 w' :=
  ⟨h.os, h.tape, h.output, h.size, fun b hb _ _ => h.block b hb, fun q _ => h.cell (p := ⟨c, q, none⟩) hc, fun _ e => .inl e⟩
theorem Stp.below {c o : Nat} {v0 v1 v2 u0 u1 u2 : Value} {w w' : World} (h : Stp c o v0 v1 v2 w u0 u1 u2 w') {B : Nat} (hc : B ≤ c) (hb : B ≤ w.heap.size) (ho : ∀ b, Own3 v0 v1 v2 b → B ≤ b) : Below B w w' :=
  ⟨h.os, h.tape, h.output, h.size, fun k hk => h.block k (by omega) (by omega) (fun e => by have := ho k e; omega)⟩
theorem DMut.own3 {w : World} {c o B : Nat} {v0 v1 v2 : Value} {d : Dc} (h : DMut w c o B v0 v1 v2 d) {b : Nat} (e : Own3 v0 v1 v2 b) : B ≤ b ∧ b < w.heap.size := by
  rcases e with e | e | e
  · exact h.log.lt b e
  · exact h.ints.lt b e
  · exact h.index.lt b e
theorem DMut.below {w w' : World} {c o B : Nat} {v0 v1 v2 : Value} {d : Dc} (h : DMut w c o B v0 v1 v2 d) (hb : Below w.heap.size w w') : DMut w' c o B v0 v1 v2 d := by
  have e : ∀ q, w'.cell? ⟨c, q, none⟩ = w.cell? ⟨c, q, none⟩ := fun q => hb.cell (p := ⟨c, q, none⟩) h.lt
  exact ⟨Nat.lt_of_lt_of_le h.lt hb.size, (e _).trans h.c0, (e _).trans h.c1, (e _).trans h.c2, (e _).trans h.c3, (e _).trans h.c4, (e _).trans h.c5, fun q => (hb.frozen (p := ⟨c, q, none⟩) h.lt).trans (h.fz q), own_block h.log hb.size (fun q _ hq => hb.block q hq), own_block h.ints hb.size (fun q _ hq => hb.block q hq), own_block h.index hb.size (fun q _ hq => hb.block q hq), h.ap, h.nc, Nat.le_trans h.base hb.size⟩
theorem DMut.ptr {w : World} {c o B : Nat} {v0 v1 v2 : Value} {d : Dc} (h : DMut w c o B v0 v1 v2 d) : ∃ la lc ia ic xa xc, v0 = .slice la d.n lc ∧ v1 = .slice ia d.m ic ∧ v2 = .slice xa d.x xc ∧ DPtr w c o la lc ia ic xa xc d := by
  obtain ⟨la, lc, e0, hL⟩ := h.log.at
  obtain ⟨ia, ic, e1, hI⟩ := h.ints.at
  obtain ⟨xa, xc, e2, hX⟩ := h.index.at
  subst e0 e1 e2
  exact ⟨la, lc, ia, ic, xa, xc, rfl, rfl, rfl, h.lt, h.c0, h.c1, h.c2, h.c3, h.c4, h.c5, hL, hI, hX⟩
theorem DMut.of_same {w : World} {c o B : Nat} {v0 v1 v2 : Value} {d e : Dc} (h : DMut w c o B v0 v1 v2 d) (n : e.n = d.n) (L : ∀ i, i < d.n → e.L i = d.L i) (m : e.m = d.m) (I : ∀ i, i < d.m → e.I i = d.I i) (x : e.x = d.x) (X : ∀ i, i < d.x → e.X i = d.X i) (hu : e.used = d.used) (hl : e.live = d.live) (ht : e.turns = d.turns) : DMut w c o B v0 v1 v2 e := by
  have hp : ∀ (f g : Nat → Pr) (n : Nat), (∀ i, i < n → f i = g i) → pL f n = pL g n := by
    intro f g n hh
    induction n with
    | zero => rfl
    | succ n ih => show pL f n ++ prL (f n) = pL g n ++ prL (g n); rw [ih (fun j hj => hh j (by omega)), hh n (by omega)]
  have hi : ∀ (f g : Nat → Int) (n : Nat), (∀ i, i < n → f i = g i) → iL f n = iL g n := by
    intro f g n hh
    induction n with
    | zero => rfl
    | succ n ih => show iL f n ++ [_] = iL g n ++ [_]; rw [ih (fun j hj => hh j (by omega)), hh n (by omega)]
  refine ⟨h.lt, h.c0, h.c1, h.c2, by rw [hu]; exact h.c3, by rw [hl]; exact h.c4, by rw [ht]; exact h.c5, h.fz, ?_, ?_, ?_, h.ap, h.nc, h.base⟩
  · show w.ownsRow _ _ _ _ e.n (pL e.L e.n); rw [n, hp e.L d.L d.n L]; exact h.log
  · show w.ownsRow _ _ _ _ e.m (iL e.I e.m); rw [m, hi e.I d.I d.m I]; exact h.ints
  · show w.ownsRow _ _ _ _ e.x (iL e.X e.x); rw [x, hi e.X d.X d.x X]; exact h.index

theorem IOwn.form {w : World} {B n : Nat} {v : Value} {f : Nat → Int} (h : IOwn w B v n f) (hn : 0 < n) : ∃ g cp, v = .slice (some ⟨g, 0, none⟩) n cp ∧ B ≤ g ∧ g < w.heap.size ∧ n ≤ cp ∧ (∀ i, i < n → w.cell? ⟨g, i, none⟩ = some (.int .i64 (f i))) ∧ ∀ q, w.frozen? ⟨g, q, none⟩ = false := by
  have h' := h
  obtain ⟨hl, ⟨hv, h0⟩ | ⟨g, cap, cur, hv, hb, hblk, h1, h2, h3, h4⟩⟩ := h'
  · omega
  · subst hv
    exact ⟨g, cap, rfl, hb, (h.lt g rfl).2, h1, fun i hi => by rw [World.ownsRow.cellAt h _ (by omega), iL_get hi], fun q => World.ownsRow.frozenAt h q⟩
theorem POwn.form {w : World} {B n : Nat} {v : Value} {f : Nat → Pr} (h : POwn w B v n f) (hn : 0 < n) : ∃ g cp, v = .slice (some ⟨g, 0, none⟩) n cp ∧ B ≤ g ∧ g < w.heap.size ∧ n ≤ cp ∧ (∀ i, i < n → PCell w g (i * 11) (f i)) ∧ ∀ q, w.frozen? ⟨g, q, none⟩ = false := by
  have h' := h
  obtain ⟨hl, ⟨hv, h0⟩ | ⟨g, cap, cur, hv, hb, hblk, h1, h2, h3, h4⟩⟩ := h'
  · omega
  · subst hv
    refine ⟨g, cap, rfl, hb, (h.lt g rfl).2, h1, fun i hi => PCell.of fun j u hu => ?_, fun q => World.ownsRow.frozenAt h q⟩
    have hj : j < 11 := by
      have := (List.getElem?_eq_some_iff.1 hu).1
      simpa [prL] using this
    rw [World.ownsRow.cellAt h _ (by omega), pL_get hi hj, hu]
theorem iL_set (f : Nat → Int) (n i : Nat) (x : Int) (hi : i < n) : (iL f n).set i (.int .i64 x) = iL (upd f i x) n := by
  apply List.ext_getElem?
  intro q
  rw [List.getElem?_set]
  by_cases hq : q < n
  · by_cases e : i = q
    · subst e; rw [if_pos rfl, if_pos (by rw [iL_length]; omega), iL_get hq, upd_same]
    · rw [if_neg e, iL_get hq, iL_get hq, upd_other _ _ (fun e' => e e'.symm)]
  · rw [if_neg (by omega), List.getElem?_eq_none (by rw [iL_length]; omega), List.getElem?_eq_none (by rw [iL_length]; omega)]
theorem IOwn.set {w : World} {B g n cp : Nat} {f : Nat → Int} (h : IOwn w B (.slice (some ⟨g, 0, none⟩) n cp) n f) {i : Nat} (hi : i < n) (x : Int) : IOwn (w.setCell ⟨g, i, none⟩ (.int .i64 x)) B (.slice (some ⟨g, 0, none⟩) n cp) n (upd f i x) := by
  have h1 := (World.ownsRow.stored h i (.int .i64 x)).1
  rw [iL_set f n i x hi] at h1
  exact h1
theorem own_setOther {w : World} {B e size n : Nat} {v : Value} {xs : List Value} (h : w.ownsRow B e size v n xs) {a : Addr} (u : Value) (hne : v.ownBlock ≠ some a.block) : (w.setCell a u).ownsRow B e size v n xs :=
  World.ownsRow.kept h (grown_setCell w a u) (.inr hne)
/-- A row of pairs is none of ints. -/
theorem own_apart {w : World} {B B' n n' : Nat} {v v' : Value} {f : Nat → Pr} {f' : Nat → Int} (h : POwn w B v n f) (h' : IOwn w B' v' n' f') {q : Nat} (e : v.ownBlock = some q) : v'.ownBlock ≠ some q := by
  intro e'
  obtain ⟨_, ⟨rfl, _⟩ | ⟨g, cap, cur, rfl, hb, hblk, _⟩⟩ := h
  · cases e
  · obtain ⟨_, ⟨rfl, _⟩ | ⟨g', cap', cur', rfl, hb', hblk', _⟩⟩ := h'
    · cases e'
    · simp [Value.ownBlock] at e e'
      subst e e'
      rw [hblk] at hblk'
      cases hblk'

/-- A field of the dict is written. -/
theorem cell_set_same {w : World} {b o : Nat} {v u : Value} (h : w.cell? ⟨b, o, none⟩ = some u) : (w.setCell ⟨b, o, none⟩ v).cell? ⟨b, o, none⟩ = some v := World.cell?_setCell_same' _ _ _ (by rw [h]; rfl)
theorem stp_field {c o : Nat} {v0 v1 v2 u0 u1 u2 : Value} {w : World} {q : Nat} (u : Value) (hq : o ≤ q ∧ q < o + 6) (hs : ∀ b, Own3 u0 u1 u2 b → Own3 v0 v1 v2 b ∨ w.heap.size ≤ b) : Stp c o v0 v1 v2 w u0 u1 u2 (w.setCell ⟨c, q, none⟩ u) :=
  ⟨rfl, rfl, rfl, by simp, fun b _ hc _ => Deep.blk_setCell_other _ _ _ _ (by exact hc), fun p hp => cell_set_other (by omega), hs⟩
theorem stp_row {c o : Nat} {v0 v1 v2 : Value} {w : World} {g q : Nat} (u : Value) (hg : Own3 v0 v1 v2 g) (hc : g ≠ c) : Stp c o v0 v1 v2 w v0 v1 v2 (w.setCell ⟨g, q, none⟩ u) :=
  ⟨rfl, rfl, rfl, by simp, fun b _ _ ho => Deep.blk_setCell_other _ _ _ _ (fun e => ho (by have e : b = g := e; rw [e]; exact hg)), fun p _ => cell_set_block hc, fun b e => .inl e⟩
section
variable {w : World} {c o B : Nat} {v0 v1 v2 : Value} {d : Dc}
theorem DMut.fld (h : DMut w c o B v0 v1 v2 d) {q : Nat} {u : Value} {u0 u1 u2 : Value} {e : Dc}
    (g0 : (w.setCell ⟨c, q, none⟩ u).cell? ⟨c, o, none⟩ = some u0) (g1 : (w.setCell ⟨c, q, none⟩ u).cell? ⟨c, o + 1, none⟩ = some u1) (g2 : (w.setCell ⟨c, q, none⟩ u).cell? ⟨c, o + 2, none⟩ = some u2)
    (g3 : (w.setCell ⟨c, q, none⟩ u).cell? ⟨c, o + 3, none⟩ = some (.int .i64 e.used)) (g4 : (w.setCell ⟨c, q, none⟩ u).cell? ⟨c, o + 4, none⟩ = some (.int .i64 e.live)) (g5 : (w.setCell ⟨c, q, none⟩ u).cell? ⟨c, o + 5, none⟩ = some (.int .i64 e.turns))
    (l : POwn w B u0 e.n e.L) (i : IOwn w B u1 e.m e.I) (x : IOwn w B u2 e.x e.X) (ap : ∀ q, u1.ownBlock = some q → u2.ownBlock ≠ some q) (nc : ¬ Own3 u0 u1 u2 c) : DMut (w.setCell ⟨c, q, none⟩ u) c o B u0 u1 u2 e :=
  ⟨by simpa using h.lt, g0, g1, g2, g3, g4, g5, fun p => by rw [World.frozen?_setCell]; exact h.fz p, own_setOther l _ (fun e => nc (.inl e)), own_setOther i _ (fun e => nc (.inr (.inl e))), own_setOther x _ (fun e => nc (.inr (.inr e))), ap, nc, by simpa using h.base⟩
theorem DMut.setLog (h : DMut w c o B v0 v1 v2 d) {u : Value} {n : Nat} {L : Nat → Pr} (l : POwn w B u n L) (nc : u.ownBlock ≠ some c) : DMut (w.setCell ⟨c, o, none⟩ u) c o B u v1 v2 { d with n := n, L := L } :=
  h.fld (cell_set_same h.c0) ((cell_set_other (by omega)).trans h.c1) ((cell_set_other (by omega)).trans h.c2) ((cell_set_other (by omega)).trans h.c3) ((cell_set_other (by omega)).trans h.c4) ((cell_set_other (by omega)).trans h.c5) l h.ints h.index h.ap (fun e => e.elim nc (fun e => h.nc (.inr e)))
theorem DMut.setInts (h : DMut w c o B v0 v1 v2 d) {u : Value} {m : Nat} {I : Nat → Int} (l : IOwn w B u m I) (nc : u.ownBlock ≠ some c) (ap : ∀ q, u.ownBlock = some q → v2.ownBlock ≠ some q) : DMut (w.setCell ⟨c, o + 1, none⟩ u) c o B v0 u v2 { d with m := m, I := I } :=
  h.fld ((cell_set_other (by omega)).trans h.c0) (cell_set_same h.c1) ((cell_set_other (by omega)).trans h.c2) ((cell_set_other (by omega)).trans h.c3) ((cell_set_other (by omega)).trans h.c4) ((cell_set_other (by omega)).trans h.c5) h.log l h.index ap (fun e => e.elim (fun e => h.nc (.inl e)) (fun e => e.elim nc (fun e => h.nc (.inr (.inr e)))))
theorem DMut.setIndex (h : DMut w c o B v0 v1 v2 d) {u : Value} {x : Nat} {X : Nat → Int} (l : IOwn w B u x X) (nc : u.ownBlock ≠ some c) (ap : ∀ q, v1.ownBlock = some q → u.ownBlock ≠ some q) : DMut (w.setCell ⟨c, o + 2, none⟩ u) c o B v0 v1 u { d with x := x, X := X } :=
  h.fld ((cell_set_other (by omega)).trans h.c0) ((cell_set_other (by omega)).trans h.c1) (cell_set_same h.c2) ((cell_set_other (by omega)).trans h.c3) ((cell_set_other (by omega)).trans h.c4) ((cell_set_other (by omega)).trans h.c5) h.log h.ints l ap (fun e => e.elim (fun e => h.nc (.inl e)) (fun e => e.elim (fun e => h.nc (.inr (.inl e))) nc))
theorem DMut.setUsed (h : DMut w c o B v0 v1 v2 d) (u : Int) : DMut (w.setCell ⟨c, o + 3, none⟩ (.int .i64 u)) c o B v0 v1 v2 { d with used := u } :=
  h.fld ((cell_set_other (by omega)).trans h.c0) ((cell_set_other (by omega)).trans h.c1) ((cell_set_other (by omega)).trans h.c2) (cell_set_same h.c3) ((cell_set_other (by omega)).trans h.c4) ((cell_set_other (by omega)).trans h.c5) h.log h.ints h.index h.ap h.nc
theorem DMut.setLive (h : DMut w c o B v0 v1 v2 d) (u : Int) : DMut (w.setCell ⟨c, o + 4, none⟩ (.int .i64 u)) c o B v0 v1 v2 { d with live := u } :=
  h.fld ((cell_set_other (by omega)).trans h.c0) ((cell_set_other (by omega)).trans h.c1) ((cell_set_other (by omega)).trans h.c2) ((cell_set_other (by omega)).trans h.c3) (cell_set_same h.c4) ((cell_set_other (by omega)).trans h.c5) h.log h.ints h.index h.ap h.nc
theorem DMut.setTurns (h : DMut w c o B v0 v1 v2 d) (u : Int) : DMut (w.setCell ⟨c, o + 5, none⟩ (.int .i64 u)) c o B v0 v1 v2 { d with turns := u } :=
  h.fld ((cell_set_other (by omega)).trans h.c0) ((cell_set_other (by omega)).trans h.c1) ((cell_set_other (by omega)).trans h.c2) ((cell_set_other (by omega)).trans h.c3) ((cell_set_other (by omega)).trans h.c4) (cell_set_same h.c5) h.log h.ints h.index h.ap h.nc
theorem DMut.rowc (h : DMut w c o B v0 v1 v2 d) {g q : Nat} {u : Value} (hg : Own3 v0 v1 v2 g) {e : Dc} (hu : e.used = d.used) (hl : e.live = d.live) (ht : e.turns = d.turns)
    (l : POwn (w.setCell ⟨g, q, none⟩ u) B v0 e.n e.L) (i : IOwn (w.setCell ⟨g, q, none⟩ u) B v1 e.m e.I) (x : IOwn (w.setCell ⟨g, q, none⟩ u) B v2 e.x e.X) : DMut (w.setCell ⟨g, q, none⟩ u) c o B v0 v1 v2 e := by
  have hc : g ≠ c := fun e => h.nc (e ▸ hg)
  exact ⟨by simpa using h.lt, (cell_set_block hc).trans h.c0, (cell_set_block hc).trans h.c1, (cell_set_block hc).trans h.c2, by rw [hu]; exact (cell_set_block hc).trans h.c3, by rw [hl]; exact (cell_set_block hc).trans h.c4, by rw [ht]; exact (cell_set_block hc).trans h.c5, fun p => by rw [World.frozen?_setCell]; exact h.fz p, l, i, x, h.ap, h.nc, by simpa using h.base⟩
end
/-- A slot of the index is written. -/
theorem DMut.putX {w : World} {c o B g cp : Nat} {v0 v1 : Value} {d : Dc} (h : DMut w c o B v0 v1 (.slice (some ⟨g, 0, none⟩) d.x cp) d) {i : Nat} (hi : i < d.x) (x : Int) : DMut (w.setCell ⟨g, i, none⟩ (.int .i64 x)) c o B v0 v1 (.slice (some ⟨g, 0, none⟩) d.x cp) { d with X := upd d.X i x } :=
  h.rowc (.inr (.inr rfl)) rfl rfl rfl (own_setOther h.log _ (fun e => own_apart h.log h.index e rfl)) (own_setOther h.ints _ (fun e => h.ap _ e rfl)) (h.index.set hi x)
/-- An int's place is written. -/
theorem DMut.putI {w : World} {c o B g cp : Nat} {v0 v2 : Value} {d : Dc} (h : DMut w c o B v0 (.slice (some ⟨g, 0, none⟩) d.m cp) v2 d) {i : Nat} (hi : i < d.m) (x : Int) : DMut (w.setCell ⟨g, i, none⟩ (.int .i64 x)) c o B v0 (.slice (some ⟨g, 0, none⟩) d.m cp) v2 { d with I := upd d.I i x } :=
  h.rowc (.inr (.inl rfl)) rfl rfl rfl (own_setOther h.log _ (fun e => own_apart h.log h.ints e rfl)) (h.ints.set hi x) (own_setOther h.index _ (fun e => h.ap _ rfl e))
theorem stp_new {c o : Nat} {v0 v1 v2 u0 u1 u2 : Value} {w : World} {q : Nat} (ob : Obj) (u : Value) (hc : c < w.heap.size) (hq : o ≤ q ∧ q < o + 6) (hs : ∀ b, Own3 u0 u1 u2 b → Own3 v0 v1 v2 b ∨ w.heap.size ≤ b) : Stp c o v0 v1 v2 w u0 u1 u2 ((w.alloc ob).setCell ⟨c, q, none⟩ u) :=
  ⟨rfl, rfl, rfl, by simp, fun b hb hc _ => (Deep.blk_setCell_other _ _ _ _ (by exact hc)).trans (Deep.blk_alloc_lt _ _ _ hb), fun p hp => (cell_set_other (by omega)).trans (World.cell?_alloc_lt _ _ _ (by exact hc)), hs⟩
/-- Behind an append to one of the rows. -/
theorem stp_grown {c o : Nat} {v0 v1 v2 u0 u1 u2 : Value} {w w3 : World} {q : Nat} {row : Option Nat} (u : Value) (hg : w.grownBy w3 row) (hr : ∀ b, row = some b → Own3 v0 v1 v2 b ∨ w.heap.size ≤ b) (hc : c < w.heap.size) (hn : row ≠ some c) (hq : o ≤ q ∧ q < o + 6) (hs : ∀ b, Own3 u0 u1 u2 b → Own3 v0 v1 v2 b ∨ w.heap.size ≤ b) : Stp c o v0 v1 v2 w u0 u1 u2 (w3.setCell ⟨c, q, none⟩ u) :=
  ⟨hg.os, hg.tape, hg.output, by simpa using hg.size, fun b hb hc ho => (Deep.blk_setCell_other _ _ _ _ (by exact hc)).trans (hg.block b hb (fun e => (hr b e.symm).elim ho (fun e' => by omega))), fun p hp => (cell_set_other (by omega)).trans (World.cell?_of_block (hg.block c hc (fun e => hn e.symm))), hs⟩
theorem iL_zero (n : Nat) : (madeCells #[Value.int .i64 0] n).toList = iL (fun _ => 0) n := by
  rw [toList_madeCells_one]
  induction n with
  | zero => rfl
  | succ n ih => rw [List.replicate_succ']; show _ = iL (fun _ => 0) n ++ [.int .i64 0]; rw [← ih]
theorem IOwn.made (w : World) (B n : Nat) (hb : B ≤ w.heap.size) (hn : n ≤ 4194304) : IOwn (w.alloc (.cells (madeCells #[Value.int .i64 0] n) 3)) B (.slice (some ⟨w.heap.size, 0, none⟩) n n) n (fun _ => 0) := by
  have h := World.ownsRow_lit (base := B) (e := 3) (size := 1) w (madeCells #[Value.int .i64 0] n) n hb (by unfold maxLen; omega) (by rw [size_madeCells]; omega)
  rw [iL_zero] at h
  exact h
theorem IOwn.cut {w : World} {B g m cp : Nat} {I : Nat → Int} (h : IOwn w B (.slice (some ⟨g, 0, none⟩) m cp) m I) {n : Nat} (hn : n ≤ m) : IOwn w B (.slice (some ⟨g, 0, none⟩) n cp) n I := by
  obtain ⟨hl, ⟨hv, h0⟩ | ⟨g', cap, cur, hv, hb, hblk, h1, h2, h3, h4⟩⟩ := h
  · cases hv
  · cases hv
    refine ⟨by rw [iL_length]; omega, .inr ⟨g, cp, cur, rfl, hb, hblk, by omega, h2, h3, ?_⟩⟩
    have e : ∀ j, iL I (n + j) = iL I n ++ (iL I (n + j)).drop n := by
      intro j
      have hp : iL I n <+: iL I (n + j) := by
        induction j with
        | zero => exact List.prefix_refl _
        | succ j ih => exact ih.trans (List.prefix_append _ _)
      obtain ⟨t, ht⟩ := hp
      rw [← ht]
      congr 1
      rw [List.drop_append_of_le_length (by rw [iL_length]; omega), List.drop_of_length_le (by rw [iL_length]; omega)]
      rfl
    have e' := e (m - n)
    rw [show n + (m - n) = m by omega] at e'
    have : cur.toList.take (n * 1) = (cur.toList.take (m * 1)).take n := by rw [List.take_take]; congr 1; omega
    rw [this, h4, e', List.take_append_of_le_length (by rw [iL_length]; omega), List.take_of_length_le (by rw [iL_length]; omega)]
end Go.Proofs.YtglcaejddckleaaDoor
namespace Go.Proofs.YtglcaejddckleaaDoor
open Go.RowKit
set_option linter.unusedVariables false
attribute [local go_sem] run_store_float run_equalIn_float

theorem back_mod {x a t : Nat} (ha : a < x) (ht : t < x) : ((a + t) % x + x - a) % x = t := by
  by_cases h : a + t < x
  · rw [Nat.mod_eq_of_lt h, show a + t + x - a = t + x by omega, Nat.add_mod_right, Nat.mod_eq_of_lt ht]
  · have e : (a + t) % x = a + t - x := by rw [Nat.mod_eq_sub_mod (by omega), Nat.mod_eq_of_lt (by omega)]
    rw [e, show a + t - x + x - a = t by omega, Nat.mod_eq_of_lt ht]
theorem next_mod {x a t : Nat} (hx : 0 < x) : ((a + t) % x + 1) % x = (a + (t + 1)) % x := by
  rw [Nat.mod_add_mod]; rfl

end Go.Proofs.YtglcaejddckleaaDoor
namespace Go.Proofs.YtglcaejddckleaaDoor
open Go.RowKit
set_option linter.unusedVariables false
attribute [local go_sem] run_store_float run_equalIn_float

theorem make_intsO (n : Nat) (hn : n ≤ 4194304) (w : World) :
    (Instr.makeSlice 26 (.int .i64 (n : Int)) (.int .i64 (n : Int))).run Tryd.prog w = .ok (.slice (some ⟨w.heap.size, 0, none⟩) n n) (w.alloc (.cells (madeCells #[Value.int .i64 0] n) 3)) := by
  have := make_ints n hn w
  simpa [Value.cells] using this

theorem ownB {g n cp b : Nat} (h : (Value.slice (some ⟨g, 0, none⟩) n cp).ownBlock = some b) : g = b := by simpa [Value.ownBlock] using h
theorem Dc.eq_of {a b : Dc} (n : a.n = b.n) (L : a.L = b.L) (m : a.m = b.m) (I : a.I = b.I) (x : a.x = b.x) (X : a.X = b.X) (u : a.used = b.used) (l : a.live = b.live) (t : a.turns = b.turns) : a = b := by
  obtain ⟨⟩ := a
  obtain ⟨⟩ := b
  dsimp only at n L m I x X u l t
  subst n L m I x X u l t
  rfl
theorem refill_eq {hf : Vl → Nat} {d : Dc} {x k : Nat} (h : idxN d k < x) : { d with x := x, X := (refill hf d x k).X, used := (refill hf d x k).used } = refill hf d x k := by
  obtain ⟨f1, f2, f3, f4, f5, f6, f7, f8, f9, f10⟩ := refill_says (hf := hf) (d := d) (x := x) k h
  exact Dc.eq_of f5.symm f6.symm f7.symm f8.symm f4.symm rfl rfl f9.symm f10.symm

end Go.Proofs.YtglcaejddckleaaDoor
namespace Go.Proofs.YtglcaejddckleaaDoor
open Go.RowKit
set_option linter.unusedVariables false
attribute [local go_sem] run_store_float run_equalIn_float

/-- Where the living went. -/
def Whr (w : World) (b : Nat) (d : Dc) (k : Nat) : Prop := ∃ g, w.rowIs b 3 d.n g ∧ ∀ j, j < k → (d.L j).turn ≠ 0 → g j = .int .i64 ((rank d j : Int) + 1)
theorem Whr.keep {w w' : World} {b : Nat} {d : Dc} {k : Nat} (h : Whr w b d k) (e : w'.heap[b]? = w.heap[b]?) : Whr w' b d k := by
  obtain ⟨g, h1, h2⟩ := h
  exact ⟨g, h1.of_block e, h2⟩
theorem Whr.lt {w : World} {b : Nat} {d : Dc} {k : Nat} (h : Whr w b d k) : b < w.heap.size := by
  obtain ⟨g, h1, h2⟩ := h
  exact h1.lt
theorem Whr.cell {w : World} {b : Nat} {d : Dc} {k : Nat} (h : Whr w b d k) {j : Nat} (hj : j < k) (hn : j < d.n) (ht : (d.L j).turn ≠ 0) : w.cell? ⟨b, j, none⟩ = some (.int .i64 ((rank d j : Int) + 1)) := by
  obtain ⟨g, h1, h2⟩ := h
  rw [h1.cell hn, h2 j hj ht]
theorem Whr.any {w : World} {b : Nat} {d : Dc} {k : Nat} (h : Whr w b d k) {j : Nat} (hn : j < d.n) : ∃ u, w.cell? ⟨b, j, none⟩ = some u := by
  obtain ⟨g, h1, h2⟩ := h
  exact ⟨_, h1.cell hn⟩
theorem Whr.frozen {w : World} {b : Nat} {d : Dc} {k : Nat} (h : Whr w b d k) (j : Nat) : w.frozen? ⟨b, j, none⟩ = false := by
  obtain ⟨g, h1, h2⟩ := h
  exact h1.frozen j
theorem Whr.put {w : World} {b : Nat} {d : Dc} {k : Nat} (h : Whr w b d k) : Whr (w.setCell ⟨b, k, none⟩ (.int .i64 ((rank d k : Int) + 1))) b d (k + 1) := by
  obtain ⟨g, h1, h2⟩ := h
  refine ⟨_, h1.set k _, fun j hj ht => ?_⟩
  by_cases e : j = k
  · subst e; simp
  · simp only [e, if_false]; exact h2 j (by omega) ht
theorem Whr.skip {w : World} {b : Nat} {d : Dc} {k : Nat} (h : Whr w b d k) (ht : (d.L k).turn = 0) : Whr w b d (k + 1) := by
  obtain ⟨g, h1, h2⟩ := h
  refine ⟨g, h1, fun j hj ht' => ?_⟩
  by_cases e : j = k
  · subst e; exact absurd ht ht'
  · exact h2 j (by omega) ht'

/-- The ints' places, the first k of them made anew. -/
def packI (d : Dc) (k : Nat) : Nat → Int := fun j => if j < k then (packD d).I j else d.I j
theorem packI_zero (d : Dc) (j : Nat) : packI d 0 j = d.I j := if_neg (by omega)
theorem packI_at (d : Dc) (k : Nat) : packI d k k = d.I k := if_neg (by omega)
theorem packI_all {d : Dc} {k j : Nat} (h : j < k) : packI d k j = (packD d).I j := if_pos h
theorem packI_dead {d : Dc} {k : Nat} (h : ¬ 0 < d.I k) (j : Nat) : packI d (k + 1) j = packI d k j := by
  unfold packI
  by_cases e : j = k
  · subst e
    rw [if_pos (by omega), if_neg (by omega)]
    show (if 0 < d.I j then _ else d.I j) = _
    rw [if_neg h]
  · by_cases e2 : j < k
    · rw [if_pos (by omega), if_pos e2]
    · rw [if_neg (by omega), if_neg e2]
theorem packI_live {d : Dc} {k q : Nat} (h : d.I k = (q : Int) + 1) (j : Nat) : packI d (k + 1) j = upd (packI d k) k ((rank d q : Int) + 1) j := by
  unfold packI
  by_cases e : j = k
  · subst e
    rw [if_pos (by omega), upd_same]
    show (if 0 < d.I j then (rank d (d.I j - 1).toNat : Int) + 1 else d.I j) = _
    rw [if_pos (by omega), h, show ((q : Int) + 1 - 1).toNat = q by omega]
  · rw [upd_other _ _ e]
    by_cases e2 : j < k
    · rw [if_pos (by omega), if_pos e2]
    · rw [if_neg (by omega), if_neg e2]

theorem compactD_not {hf : Vl → Nat} {d : Dc} (h : (d.n : Int) < 8 ∨ (d.n : Int) ≤ 2 * d.live) : compactD hf d = d := if_pos h
theorem compactD_yes {hf : Vl → Nat} {d : Dc} (h : ¬ ((d.n : Int) < 8 ∨ (d.n : Int) ≤ 2 * d.live)) : compactD hf d = reindexD hf (packD d) 0 := if_neg h

end Go.Proofs.YtglcaejddckleaaDoor
namespace Go.Proofs.YtglcaejddckleaaDoor
open Go.RowKit
attribute [local go_sem] run_store_float run_equalIn_float

theorem zero_num {x : Nat} (h : fz x = true) : ∃ s i, Ieee.double.read x = .number s 0 i := by
  have h' : (Ieee.double.order x 0 == some .eq) = true := h
  rcases Fl.read_cases x with ⟨s, m, i, hr, hi, hi2, hm, _⟩ | ⟨s, hr⟩ | ⟨s, t, hr⟩
  · rw [Fl.ord_of hr Fl.read_nil hi (by omega), Fl.cmp_eq, Fl.sc_zero] at h'
    have h0 : Fl.sc s m i = 0 := by simpa using h'
    unfold Fl.sc at h0
    rw [Fl.signed_eq] at h0
    have hp := Fl.pow_pos' (i + 1074).toNat
    have : m = 0 := by
      generalize (2 : Int) ^ (i + 1074).toNat = u at h0 hp
      have h1 : (m : Int) * u = 0 := by
        cases s
        · simpa using h0
        · simpa using h0
      rcases Int.mul_eq_zero.1 h1 with h | h <;> omega
    subst this
    exact ⟨s, i, hr⟩
  · exfalso
    unfold Ieee.Format.order at h'
    rw [hr, Fl.read_nil] at h'
    cases s <;> simp [Ieee.Datum.order] at h'
  · exfalso
    unfold Ieee.Format.order at h'
    rw [hr] at h'
    simp [Ieee.Datum.order] at h'

theorem quo_zero {x : Nat} (h : fz x = true) : ∃ r, floatBits .quo .f64 4607182418800017408 x = some r := by
  obtain ⟨s, i, hr⟩ := zero_num h
  refine ⟨Ieee.double.write (.infinity (false ^^ s)), ?_⟩
  show ((Ieee.double.read 4607182418800017408).quotient _ (Ieee.double.read x)).map Ieee.double.write = _
  rw [hr, Fl.read_one]
  simp [Ieee.Datum.quotient]

end Go.Proofs.YtglcaejddckleaaDoor
namespace Go.Proofs.YtglcaejddckleaaDoor
open Go.RowKit
set_option linter.unusedVariables false
attribute [local go_sem] run_store_float run_equalIn_float

/-- Strings in bounds. -/
def Strs (n : Nat) (f : Nat → Pr) : Prop := ∀ i, i < n → (f i).key.str.size ≤ maxLen ∧ (f i).val.str.size ≤ maxLen

/-- Lengths of what comes in. -/
structure Lens (d : Dc) : Prop where
  n : d.n ≤ maxLen
  m : d.m ≤ maxLen
  x : d.x ≤ maxLen
  s : Strs d.n d.L

end Go.Proofs.YtglcaejddckleaaDoor

namespace Go.Proofs.YtglcaejddckleaaDoor
open Go.RowKit
set_option linter.unusedVariables false
attribute [local go_sem] run_store_float run_equalIn_float

theorem set11_other {w : World} {b o q : Nat} (p : Pr) (h : q < o ∨ o + 11 ≤ q) : (((((((((((w.setCell ⟨b, o, none⟩ (.int .i64 p.key.kind)).setCell ⟨b, o + 1, none⟩ (.int .i64 p.key.num)).setCell ⟨b, o + 2, none⟩ (.float .f64 p.key.flt)).setCell ⟨b, o + 3, none⟩ (.string p.key.str)).setCell ⟨b, o + 4, none⟩ (.int .i64 p.key.ref)).setCell ⟨b, o + 5, none⟩ (.int .i64 p.val.kind)).setCell ⟨b, o + 6, none⟩ (.int .i64 p.val.num)).setCell ⟨b, o + 7, none⟩ (.float .f64 p.val.flt)).setCell ⟨b, o + 8, none⟩ (.string p.val.str)).setCell ⟨b, o + 9, none⟩ (.int .i64 p.val.ref)).setCell ⟨b, o + 10, none⟩ (.int .i64 p.turn)).cell? ⟨b, q, none⟩ = w.cell? ⟨b, q, none⟩ := by
  exact (cell_set_other (by omega)).trans ((cell_set_other (by omega)).trans ((cell_set_other (by omega)).trans ((cell_set_other (by omega)).trans ((cell_set_other (by omega)).trans ((cell_set_other (by omega)).trans ((cell_set_other (by omega)).trans ((cell_set_other (by omega)).trans ((cell_set_other (by omega)).trans ((cell_set_other (by omega)).trans (cell_set_other (by omega)))))))))))
theorem PCell.keepAt {w w' : World} {b o : Nat} {p : Pr} (h : PCell w b o p) (e : ∀ j, j < 11 → w'.cell? ⟨b, o + j, none⟩ = w.cell? ⟨b, o + j, none⟩) : PCell w' b o p :=
  ⟨(e 0 (by omega)).trans h.k0, (e 1 (by omega)).trans h.k1, (e 2 (by omega)).trans h.k2, (e 3 (by omega)).trans h.k3, (e 4 (by omega)).trans h.k4, (e 5 (by omega)).trans h.v0, (e 6 (by omega)).trans h.v1, (e 7 (by omega)).trans h.v2, (e 8 (by omega)).trans h.v3, (e 9 (by omega)).trans h.v4, (e 10 (by omega)).trans h.tn⟩
theorem set11_row {w : World} {b o N : Nat} {t : TypeId} {g : Nat → Value} (h : w.rowIs b t N g) (ho : o + 11 ≤ N) (p : Pr) : (∃ g', (((((((((((w.setCell ⟨b, o, none⟩ (.int .i64 p.key.kind)).setCell ⟨b, o + 1, none⟩ (.int .i64 p.key.num)).setCell ⟨b, o + 2, none⟩ (.float .f64 p.key.flt)).setCell ⟨b, o + 3, none⟩ (.string p.key.str)).setCell ⟨b, o + 4, none⟩ (.int .i64 p.key.ref)).setCell ⟨b, o + 5, none⟩ (.int .i64 p.val.kind)).setCell ⟨b, o + 6, none⟩ (.int .i64 p.val.num)).setCell ⟨b, o + 7, none⟩ (.float .f64 p.val.flt)).setCell ⟨b, o + 8, none⟩ (.string p.val.str)).setCell ⟨b, o + 9, none⟩ (.int .i64 p.val.ref)).setCell ⟨b, o + 10, none⟩ (.int .i64 p.turn)).rowIs b t N g') ∧ PCell (((((((((((w.setCell ⟨b, o, none⟩ (.int .i64 p.key.kind)).setCell ⟨b, o + 1, none⟩ (.int .i64 p.key.num)).setCell ⟨b, o + 2, none⟩ (.float .f64 p.key.flt)).setCell ⟨b, o + 3, none⟩ (.string p.key.str)).setCell ⟨b, o + 4, none⟩ (.int .i64 p.key.ref)).setCell ⟨b, o + 5, none⟩ (.int .i64 p.val.kind)).setCell ⟨b, o + 6, none⟩ (.int .i64 p.val.num)).setCell ⟨b, o + 7, none⟩ (.float .f64 p.val.flt)).setCell ⟨b, o + 8, none⟩ (.string p.val.str)).setCell ⟨b, o + 9, none⟩ (.int .i64 p.val.ref)).setCell ⟨b, o + 10, none⟩ (.int .i64 p.turn)) b o p := by
  have hr := ((((((((((h.set (o) (.int .i64 p.key.kind)).set (o + 1) (.int .i64 p.key.num)).set (o + 2) (.float .f64 p.key.flt)).set (o + 3) (.string p.key.str)).set (o + 4) (.int .i64 p.key.ref)).set (o + 5) (.int .i64 p.val.kind)).set (o + 6) (.int .i64 p.val.num)).set (o + 7) (.float .f64 p.val.flt)).set (o + 8) (.string p.val.str)).set (o + 9) (.int .i64 p.val.ref)).set (o + 10) (.int .i64 p.turn)
  refine ⟨⟨_, hr⟩, ?_⟩
  constructor
  all_goals (rw [hr.cell (by omega)]; simp)

theorem make_pairs (n : Nat) (hn : n ≤ 4194304) (w : World) :
    (Instr.makeSlice 25 (.int .i64 (n : Int)) (.int .i64 (n : Int))).run Tryd.prog w = .ok (.slice (some ⟨w.heap.size, 0, none⟩) n n) (w.alloc (.cells (madeCells PZ.cells (n * 11)) 55)) := by
  obtain ⟨i, hi, hz, hs, hb⟩ := info_parts infoPair
  have := run_make (P := Tryd.prog) w 25 55 i _ Tryd.underlying25 hi hz .i64 .i64 n n (by omega) (Int.le_refl _) (by rw [hb]; omega) (by omega)
  simp only [Int.toNat_natCast, hs] at this
  exact this
theorem made_pairs (w : World) (m : Nat) : ∃ g, (w.alloc (.cells (madeCells PZ.cells m) 55)).rowIs w.heap.size 55 m g := by
  have h := World.rowIs_alloc w (madeCells PZ.cells m) 55 (fun i => ((madeCells PZ.cells m)[i]?).getD undef) (fun i hi => by rw [Array.getElem?_eq_getElem hi]; rfl)
  rw [size_madeCells] at h
  exact ⟨_, h⟩

end Go.Proofs.YtglcaejddckleaaDoor

namespace Go.Proofs.YtglcaejddckleaaDoor
open Go.RowKit
set_option linter.unusedVariables false
attribute [local go_sem] run_store_float run_equalIn_float

theorem PAt.setOther {w : World} {s o n q : Nat} {f : Nat → Pr} {v : Value} (h : PAt w (some ⟨s, o, none⟩) n f) {b : Nat} (hb : s ≠ b) : PAt (w.setCell ⟨b, q, none⟩ v) (some ⟨s, o, none⟩) n f := by
  rcases h with h | ⟨b', off, e, hlt, hc⟩
  · exact .inl h
  · cases e
    exact .inr ⟨s, o, rfl, by simpa using hlt, fun i hi => (hc i hi).keep (fun q => cell_set_block (Ne.symm hb))⟩
theorem IAt.setOther {w : World} {s o n q : Nat} {f : Nat → Int} {v : Value} (h : IAt w (some ⟨s, o, none⟩) n f) {b : Nat} (hb : s ≠ b) : IAt (w.setCell ⟨b, q, none⟩ v) (some ⟨s, o, none⟩) n f := by
  rcases h with h | ⟨b', off, e, hlt, hc⟩
  · exact .inl h
  · cases e
    exact .inr ⟨s, o, rfl, by simpa using hlt, fun i hi => (cell_set_block (Ne.symm hb)).trans (hc i hi)⟩

end Go.Proofs.YtglcaejddckleaaDoor
namespace Go.Proofs.YtglcaejddckleaaDoor
open Go.RowKit
set_option linter.unusedVariables false

/-- The mark of k. -/
def mark (k : Nat) : ByteArray := ⟨(109 :: Lib.decDigits k).toArray⟩

def digs (u : Nat) : List UInt8 := if u = 0 then [] else Lib.decDigits u

theorem digs_step {u : Nat} (h : 0 < u) : digs u = digs (u / 10) ++ [dig u] := by
  unfold digs
  rw [if_neg (by omega)]
  by_cases h10 : u < 10
  · rw [digits_small h10, if_pos (by omega)]
    unfold dig
    rw [Nat.mod_eq_of_lt h10]; rfl
  · rw [digits_big h10, if_neg (by omega)]; rfl

end Go.Proofs.YtglcaejddckleaaDoor
namespace Go.Proofs.YtglcaejddckleaaDoor
open Go.RowKit
set_option linter.unusedVariables false
attribute [local go_sem] run_store_float run_equalIn_float

/-- All but one block lie as they lay. -/
structure Bt (b : Nat) (w w' : World) : Prop where
  os : w'.os = w.os
  tape : w'.tape = w.tape
  output : w'.output = w.output
  size : w.heap.size ≤ w'.heap.size
  block : ∀ k, k < w.heap.size → k ≠ b → w'.heap[k]? = w.heap[k]?
theorem Bt.refl (b : Nat) (w : World) : Bt b w w := ⟨rfl, rfl, rfl, Nat.le_refl _, fun _ _ _ => rfl⟩
theorem Bt.trans {b : Nat} {u v w : World} (h : Bt b u v) (k : Bt b v w) : Bt b u w :=
  ⟨k.os.trans h.os, k.tape.trans h.tape, k.output.trans h.output, Nat.le_trans h.size k.size, fun i hi hn => (k.block i (Nat.lt_of_lt_of_le hi h.size) hn).trans (h.block i hi hn)⟩
theorem Bt.of {b : Nat} {w w' : World} (h : Below w.heap.size w w') : Bt b w w' := ⟨h.os, h.tape, h.output, h.size, fun k hk _ => h.block k hk⟩
theorem Bt.set (b o : Nat) (w : World) (v : Value) : Bt b w (w.setCell ⟨b, o, none⟩ v) := ⟨rfl, rfl, rfl, by simp [World.setCell], fun k _ hn => Deep.blk_setCell_other _ _ _ _ (by exact hn)⟩
theorem Bt.below {b B : Nat} {w w' : World} (h : Bt b w w') (hb : B ≤ b) (hB : B ≤ w.heap.size) : Below B w w' := ⟨h.os, h.tape, h.output, h.size, fun k hk => h.block k (by omega) (by omega)⟩

end Go.Proofs.YtglcaejddckleaaDoor
namespace Go.Proofs.YtglcaejddckleaaDoor
open Go.RowKit
set_option linter.unusedVariables false
attribute [local go_sem] run_store_float run_equalIn_float

theorem fself (k : Int) (h0 : 0 ≤ k) (hk : k < 9007199254740992) : (FloatKind.f64.format.order (floatOfInt .f64 k) (floatOfInt .f64 k) != some .eq) = false := by
  obtain ⟨q, l, hr, hl, hv⟩ := Fl.nearest_whole (decide (k < 0)) k.natAbs (Fl.fits_small (by omega))
  have hx : Ieee.double.read (floatOfInt .f64 k) = .number (decide (k < 0)) q l := hr
  show (!(Ieee.double.order _ _ == some .eq)) = false
  rw [Fl.ord_of hx hx hl hl, Fl.cmp_eq]; simp

/-- What a marked pair is. -/
def mkP (s i : Nat) : Pr :=
  ⟨⟨(s : Int) + 11 * i, (s : Int) + 11 * i + 1, floatOfInt .f64 ((s : Int) + 11 * i + 1 + 1), mark (s + 11 * i + 3), (s : Int) + 11 * i + 1 + 1 + 1 + 1⟩,
   ⟨(s : Int) + 11 * i + 1 + 1 + 1 + 1 + 1, (s : Int) + 11 * i + 1 + 1 + 1 + 1 + 1 + 1, floatOfInt .f64 ((s : Int) + 11 * i + 1 + 1 + 1 + 1 + 1 + 1 + 1), mark (s + 11 * i + 8), (s : Int) + 11 * i + 1 + 1 + 1 + 1 + 1 + 1 + 1 + 1 + 1⟩, (s : Int) + 11 * i + 1 + 1 + 1 + 1 + 1 + 1 + 1 + 1 + 1 + 1⟩
/-- A cell of a row of pairs. -/
def pcell (f : Nat → Pr) (j : Nat) : Value := ((prL (f (j / 11)))[j % 11]?).getD undef
theorem pcell_at (f : Nat → Pr) (k i : Nat) (hi : i < 11) : pcell f (k * 11 + i) = ((prL (f k))[i]?).getD undef := by
  unfold pcell
  rw [show (k * 11 + i) / 11 = k by omega, show (k * 11 + i) % 11 = i by omega]
theorem pcells {w : World} {b N n : Nat} {g : Nat → Value} {f : Nat → Pr} (h : w.rowIs b 55 N g) (hN : n * 11 ≤ N) (hg : ∀ j, j < n * 11 → g j = pcell f j) {i : Nat} (hi : i < n) : PCell w b (i * 11) (f i) := by
  have e : ∀ j, j < 11 → w.cell? ⟨b, i * 11 + j, none⟩ = some (((prL (f i))[j]?).getD undef) := fun j hj => by
    rw [h.cell (i := i * 11 + j) (by omega), hg _ (by omega), pcell_at f i j hj]
  exact ⟨e 0 (by omega), e 1 (by omega), e 2 (by omega), e 3 (by omega), e 4 (by omega), e 5 (by omega), e 6 (by omega), e 7 (by omega), e 8 (by omega), e 9 (by omega), e 10 (by omega)⟩

end Go.Proofs.YtglcaejddckleaaDoor
namespace Go.Proofs.YtglcaejddckleaaDoor
open Go.RowKit
set_option linter.unusedVariables false
attribute [local go_sem] run_store_float run_equalIn_float

theorem row_set {w : World} {s N b q : Nat} {t : TypeId} {g : Nat → Value} {v : Value} (h : w.rowIs s t N g) (hb : s ≠ b) : (w.setCell ⟨b, q, none⟩ v).rowIs s t N g := World.rowIs.of_block h (Deep.blk_setCell_other _ _ _ _ (by exact hb))
/-- The rows of a dict that was made. -/
structure ToR (B : Nat) (w : World) (s0 s1 s2 : Nat) (d : Dc) : Prop where
  b0 : B ≤ s0
  b1 : B ≤ s1
  b2 : B ≤ s2
  n01 : s0 ≠ s1
  n02 : s0 ≠ s2
  n12 : s1 ≠ s2
  r0 : ∃ g, w.rowIs s0 55 (d.n * 11) g
  r1 : ∃ g, w.rowIs s1 3 d.m g
  r2 : ∃ g, w.rowIs s2 3 d.x g
theorem ToR.keep {B : Nat} {w w' : World} {s0 s1 s2 : Nat} {d : Dc} (h : ToR B w s0 s1 s2 d) (hk : ∀ q, q < w.heap.size → w'.heap[q]? = w.heap[q]?) : ToR B w' s0 s1 s2 d :=
  ⟨h.b0, h.b1, h.b2, h.n01, h.n02, h.n12, h.r0.imp fun g r => World.rowIs.of_block r (hk _ (World.rowIs.lt r)), h.r1.imp fun g r => World.rowIs.of_block r (hk _ (World.rowIs.lt r)), h.r2.imp fun g r => World.rowIs.of_block r (hk _ (World.rowIs.lt r))⟩
theorem ToR.lt {B : Nat} {w : World} {s0 s1 s2 : Nat} {d : Dc} (h : ToR B w s0 s1 s2 d) : s0 < w.heap.size ∧ s1 < w.heap.size ∧ s2 < w.heap.size := by
  obtain ⟨_, r0⟩ := h.r0
  obtain ⟨_, r1⟩ := h.r1
  obtain ⟨_, r2⟩ := h.r2
  exact ⟨World.rowIs.lt r0, World.rowIs.lt r1, World.rowIs.lt r2⟩

/-- All but three blocks lie as they lay. -/
structure Bt3 (a b c : Nat) (w w' : World) : Prop where
  os : w'.os = w.os
  tape : w'.tape = w.tape
  output : w'.output = w.output
  size : w.heap.size ≤ w'.heap.size
  block : ∀ k, k < w.heap.size → k ≠ a → k ≠ b → k ≠ c → w'.heap[k]? = w.heap[k]?
theorem Bt3.below {a b c B : Nat} {w w' : World} (h : Bt3 a b c w w') (ha : B ≤ a) (hb : B ≤ b) (hc : B ≤ c) (hB : B ≤ w.heap.size) : Below B w w' := ⟨h.os, h.tape, h.output, h.size, fun k hk => h.block k (by omega) (by omega) (by omega) (by omega)⟩

/-- The pairs of an answer. -/
def PrV (f : Nat → Pr) (n : Nat) (w : World) (v : Value) (lo hi : Nat) : Prop :=
  (n = 0 ∧ v = .slice none 0 0) ∨ ∃ b cp N g, v = .slice (some ⟨b, 0, none⟩) n cp ∧ lo ≤ b ∧ b < hi ∧ w.rowIs b 55 N g ∧ n * 11 ≤ N ∧ ∀ j, j < n * 11 → g j = pcell f j
theorem PrV.keep {f : Nat → Pr} {n : Nat} {w w' : World} {v : Value} {lo hi : Nat} (h : PrV f n w v lo hi) (hk : ∀ b, lo ≤ b → b < hi → w'.heap[b]? = w.heap[b]?) : PrV f n w' v lo hi := by
  rcases h with h | ⟨b, cp, N, g, h1, h2, h3, h4, h5, h6⟩
  · exact .inl h
  · exact .inr ⟨b, cp, N, g, h1, h2, h3, World.rowIs.of_block h4 (hk b h2 h3), h5, h6⟩
theorem PrV.below {f : Nat → Pr} {n : Nat} {w w' : World} {v : Value} {lo hi B : Nat} (h : PrV f n w v lo hi) (hb : Below B w w') (hB : hi ≤ B) : PrV f n w' v lo hi := h.keep fun b _ h2 => hb.block b (by omega)
theorem PrV.of {f : Nat → Pr} {n B : Nat} {w : World} {v : Value} (h : POwn w B v n f) : PrV f n w v B w.heap.size := by
  have hlt := h.lt
  obtain ⟨hl, ⟨hv, h0⟩ | ⟨g', cap, cur, hv, hb, hblk, h1, h2, h3, h4⟩⟩ := h
  · exact .inl ⟨h0, hv⟩
  · subst hv
    refine .inr ⟨g', cap, cap * 11, fun j => (cur[j]?).getD undef, rfl, hb, (hlt g' rfl).2, ⟨cur, hblk, h3, fun i hi => by simp [Array.getElem?_eq_getElem (show i < cur.size by omega)]⟩, by omega, fun j hj => ?_⟩
    have h5 := pL_get (f := f) (n := n) (i := j / 11) (j := j % 11) (by omega) (by omega)
    rw [show j / 11 * 11 + j % 11 = j by omega, ← h4, List.getElem?_take, if_pos hj, Array.getElem?_toList] at h5
    show (cur[j]?).getD undef = _
    rw [h5]
    rfl
theorem PrV.at {f : Nat → Pr} {n : Nat} {w : World} {v : Value} {lo hi : Nat} (h : PrV f n w v lo hi) : ∃ a cp, v = .slice a n cp ∧ PAt w a n f := by
  rcases h with ⟨h0, rfl⟩ | ⟨b, cp, N, g, h1, h2, h3, h4, h5, h6⟩
  · subst h0; exact ⟨_, _, rfl, .inl rfl⟩
  · exact ⟨_, _, h1, .inr ⟨b, 0, rfl, World.rowIs.lt h4, fun i hi => by rw [Nat.zero_add]; exact pcells h4 h5 h6 hi⟩⟩
end Go.Proofs.YtglcaejddckleaaDoor
namespace Go.Proofs.YtglcaejddckleaaDoor
open Go.RowKit
set_option linter.unusedVariables false
attribute [local go_sem] run_store_float run_equalIn_float

/-- The ints of an answer. -/
def InV (f : Nat → Int) (n : Nat) (w : World) (v : Value) (lo hi : Nat) : Prop :=
  (n = 0 ∧ v = .slice none 0 0) ∨ ∃ b cp N g, v = .slice (some ⟨b, 0, none⟩) n cp ∧ lo ≤ b ∧ b < hi ∧ w.rowIs b 3 N g ∧ n ≤ N ∧ ∀ j, j < n → g j = .int .i64 (f j)
theorem InV.keep {f : Nat → Int} {n : Nat} {w w' : World} {v : Value} {lo hi : Nat} (h : InV f n w v lo hi) (hk : ∀ b, v.ownBlock = some b → lo ≤ b → b < hi → w'.heap[b]? = w.heap[b]?) : InV f n w' v lo hi := by
  rcases h with h | ⟨b, cp, N, g, h1, h2, h3, h4, h5, h6⟩
  · exact .inl h
  · exact .inr ⟨b, cp, N, g, h1, h2, h3, World.rowIs.of_block h4 (hk b (by rw [h1]; rfl) h2 h3), h5, h6⟩
theorem InV.of {f : Nat → Int} {n B : Nat} {w : World} {v : Value} (h : IOwn w B v n f) : InV f n w v B w.heap.size := by
  have hlt := h.lt
  obtain ⟨hl, ⟨hv, h0⟩ | ⟨g', cap, cur, hv, hb, hblk, h1, h2, h3, h4⟩⟩ := h
  · exact .inl ⟨h0, hv⟩
  · subst hv
    refine .inr ⟨g', cap, cap, fun j => (cur[j]?).getD undef, rfl, hb, (hlt g' rfl).2, ⟨cur, hblk, by omega, fun i hi => by simp [Array.getElem?_eq_getElem (show i < cur.size by omega)]⟩, h1, fun j hj => ?_⟩
    have h5 := iL_get (f := f) (n := n) (i := j) hj
    rw [← h4, List.getElem?_take, if_pos (by omega), Array.getElem?_toList] at h5
    show (cur[j]?).getD undef = _
    rw [h5]
    rfl
theorem InV.at {f : Nat → Int} {n : Nat} {w : World} {v : Value} {lo hi : Nat} (h : InV f n w v lo hi) : ∃ a cp, v = .slice a n cp ∧ IAt w a n f := by
  rcases h with ⟨h0, rfl⟩ | ⟨b, cp, N, g, h1, h2, h3, h4, h5, h6⟩
  · subst h0; exact ⟨_, _, rfl, .inl rfl⟩
  · exact ⟨_, _, h1, .inr ⟨b, 0, rfl, World.rowIs.lt h4, fun i hi => by rw [Nat.zero_add, h4.cell (by omega), h6 i hi]⟩⟩
/-- All blocks but a row's own lie as they lay. -/
structure BtV (v : Value) (w w' : World) : Prop where
  os : w'.os = w.os
  tape : w'.tape = w.tape
  output : w'.output = w.output
  size : w.heap.size ≤ w'.heap.size
  block : ∀ k, k < w.heap.size → v.ownBlock ≠ some k → w'.heap[k]? = w.heap[k]?
end Go.Proofs.YtglcaejddckleaaDoor
namespace Go.Proofs.YtglcaejddckleaaDoor
open Go.RowKit
set_option linter.unusedVariables false
attribute [local go_sem] run_store_float run_equalIn_float

/-- What a marked dict is. -/
def mkD (d : Dc) : Dc := { d with L := mkP 1, I := fun j => ((1 + 11 * d.n + j : Nat) : Int), X := fun j => ((1 + 11 * d.n + d.m + j : Nat) : Int) }
/-- A dict in blocks from lo to below hi. -/
structure DV (d : Dc) (w : World) (v0 v1 v2 : Value) (lo hi : Nat) : Prop where
  log : PrV d.L d.n w v0 lo hi
  ints : InV d.I d.m w v1 lo hi
  index : InV d.X d.x w v2 lo hi
  a01 : ∀ q, v0.ownBlock = some q → v1.ownBlock ≠ some q
  a02 : ∀ q, v0.ownBlock = some q → v2.ownBlock ≠ some q
  a12 : ∀ q, v1.ownBlock = some q → v2.ownBlock ≠ some q
abbrev DvV (v0 v1 v2 : Value) (d : Dc) : Value := .agg #[v0, v1, v2, .int .i64 d.used, .int .i64 d.live, .int .i64 d.turns]
theorem DV.keep {d : Dc} {w w' : World} {v0 v1 v2 : Value} {lo hi : Nat} (h : DV d w v0 v1 v2 lo hi) (hk : ∀ b, lo ≤ b → b < hi → w'.heap[b]? = w.heap[b]?) : DV d w' v0 v1 v2 lo hi :=
  ⟨h.log.keep hk, h.ints.keep (fun b _ => hk b), h.index.keep (fun b _ => hk b), h.a01, h.a02, h.a12⟩
theorem DV.below {d : Dc} {w w' : World} {v0 v1 v2 : Value} {lo hi B : Nat} (h : DV d w v0 v1 v2 lo hi) (hb : Below B w w') (hB : hi ≤ B) : DV d w' v0 v1 v2 lo hi := h.keep fun b _ h2 => hb.block b (by omega)
theorem DV.at {d : Dc} {w : World} {v0 v1 v2 : Value} {lo hi : Nat} (h : DV d w v0 v1 v2 lo hi) : ∃ la lc ia ic xa xc, v0 = .slice la d.n lc ∧ v1 = .slice ia d.m ic ∧ v2 = .slice xa d.x xc ∧ DAt w la ia xa d := by
  obtain ⟨la, lc, rfl, h0⟩ := h.log.at
  obtain ⟨ia, ic, rfl, h1⟩ := h.ints.at
  obtain ⟨xa, xc, rfl, h2⟩ := h.index.at
  exact ⟨la, lc, ia, ic, xa, xc, rfl, rfl, rfl, h0, h1, h2⟩
theorem PrV.own {f : Nat → Pr} {n : Nat} {w : World} {v : Value} {lo hi : Nat} (h : PrV f n w v lo hi) {b : Nat} (e : v.ownBlock = some b) : lo ≤ b ∧ b < hi ∧ b < w.heap.size := by
  rcases h with ⟨h0, rfl⟩ | ⟨b', cp, N, g, rfl, h2, h3, h4, h5, h6⟩
  · cases e
  · have e' : b' = b := by simpa [Value.ownBlock] using e
    subst e'
    exact ⟨h2, h3, World.rowIs.lt h4⟩
theorem InV.own {f : Nat → Int} {n : Nat} {w : World} {v : Value} {lo hi : Nat} (h : InV f n w v lo hi) {b : Nat} (e : v.ownBlock = some b) : lo ≤ b ∧ b < hi ∧ b < w.heap.size := by
  rcases h with ⟨h0, rfl⟩ | ⟨b', cp, N, g, rfl, h2, h3, h4, h5, h6⟩
  · cases e
  · have e' : b' = b := by simpa [Value.ownBlock] using e
    subst e'
    exact ⟨h2, h3, World.rowIs.lt h4⟩
theorem InV.btv {f : Nat → Int} {n : Nat} {w w' : World} {v u : Value} {lo hi : Nat} (h : InV f n w v lo hi) (hb : BtV u w w') (ha : ∀ q, v.ownBlock = some q → u.ownBlock ≠ some q) : InV f n w' v lo hi := h.keep fun b e _ _ => hb.block b (h.own e).2.2 (ha b e)
theorem PrV.btv {f : Nat → Pr} {n : Nat} {w w' : World} {v u : Value} {lo hi : Nat} (h : PrV f n w v lo hi) (hb : BtV u w w') (ha : ∀ q, v.ownBlock = some q → u.ownBlock ≠ some q) : PrV f n w' v lo hi := by
  rcases h with h | ⟨b, cp, N, g, h1, h2, h3, h4, h5, h6⟩
  · exact .inl h
  · exact .inr ⟨b, cp, N, g, h1, h2, h3, World.rowIs.of_block h4 (hb.block b (World.rowIs.lt h4) (ha b (by rw [h1]; rfl))), h5, h6⟩
theorem BtV.below {u : Value} {w w' : World} {B : Nat} (h : BtV u w w') (hu : ∀ q, u.ownBlock = some q → B ≤ q) (hB : B ≤ w.heap.size) : Below B w w' := ⟨h.os, h.tape, h.output, h.size, fun k hk => h.block k (by omega) (fun e => by have := hu k e; omega)⟩

end Go.Proofs.YtglcaejddckleaaDoor
namespace Go.Proofs.YtglcaejddckleaaDoor
open Go.RowKit
set_option linter.unusedVariables false
attribute [local go_sem] run_store_float run_equalIn_float

/-- A dict on its way: its own box, the answer's. -/
structure DWay (w wr : World) (v0 v1 v2 : Value) (d : Dc) : Prop where
  b0 : wr.heap[w.heap.size]? = some (.cells #[.slice none 0 0, .slice none 0 0, .slice none 0 0, .int .i64 0, .int .i64 0, .int .i64 0] 28 (0, 0))
  b1 : wr.heap[w.heap.size + 1]? = some (.cells #[v0, v1, v2, .int .i64 d.used, .int .i64 d.live, .int .i64 d.turns] 28 (0, 0))
  bel : Below w.heap.size w wr
theorem DWay.size {w wr : World} {v0 v1 v2 : Value} {d : Dc} (h : DWay w wr v0 v1 v2 d) : w.heap.size + 1 < wr.heap.size := (Array.getElem?_eq_some_iff.1 h.b1).1
theorem DWay.cells {w wr : World} {v0 v1 v2 : Value} {d : Dc} (h : DWay w wr v0 v1 v2 d) : wr.cell? ⟨w.heap.size + 1, 0, none⟩ = some v0 ∧ wr.cell? ⟨w.heap.size + 1, 1, none⟩ = some v1 ∧ wr.cell? ⟨w.heap.size + 1, 2, none⟩ = some v2 ∧ wr.cell? ⟨w.heap.size + 1, 3, none⟩ = some (.int .i64 d.used) ∧ wr.cell? ⟨w.heap.size + 1, 4, none⟩ = some (.int .i64 d.live) ∧ wr.cell? ⟨w.heap.size + 1, 5, none⟩ = some (.int .i64 d.turns) ∧ ∀ q, wr.frozen? ⟨w.heap.size + 1, q, none⟩ = false :=
  ⟨by simp [World.cell?, h.b1], by simp [World.cell?, h.b1], by simp [World.cell?, h.b1], by simp [World.cell?, h.b1], by simp [World.cell?, h.b1], by simp [World.cell?, h.b1], fun q => by simp [World.frozen?, h.b1]⟩
theorem DWay.keep {w wr w' : World} {v0 v1 v2 : Value} {d : Dc} (h : DWay w wr v0 v1 v2 d) (h0 : w'.heap[w.heap.size]? = wr.heap[w.heap.size]?) (h1 : w'.heap[w.heap.size + 1]? = wr.heap[w.heap.size + 1]?) (hb : Below w.heap.size w w') : DWay w w' v0 v1 v2 d := ⟨h0.trans h.b0, h1.trans h.b1, hb⟩
theorem DWay.set0 {w wr : World} {v0 v1 v2 u : Value} {d : Dc} (h : DWay w wr v0 v1 v2 d) : DWay w (wr.setCell ⟨w.heap.size + 1, 0, none⟩ u) u v1 v2 d :=
  ⟨(Deep.blk_setCell_other _ _ _ _ (by show w.heap.size ≠ w.heap.size + 1; omega)).trans h.b0, (heap_setCell_same _ _ _ _ _ _ h.b1).trans (by simp), h.bel.setCell (by show w.heap.size ≤ w.heap.size + 1; omega) _⟩
theorem DWay.set1 {w wr : World} {v0 v1 v2 u : Value} {d : Dc} (h : DWay w wr v0 v1 v2 d) : DWay w (wr.setCell ⟨w.heap.size + 1, 1, none⟩ u) v0 u v2 d :=
  ⟨(Deep.blk_setCell_other _ _ _ _ (by show w.heap.size ≠ w.heap.size + 1; omega)).trans h.b0, (heap_setCell_same _ _ _ _ _ _ h.b1).trans (by simp), h.bel.setCell (by show w.heap.size ≤ w.heap.size + 1; omega) _⟩
theorem DWay.set2 {w wr : World} {v0 v1 v2 u : Value} {d : Dc} (h : DWay w wr v0 v1 v2 d) : DWay w (wr.setCell ⟨w.heap.size + 1, 2, none⟩ u) v0 v1 u d :=
  ⟨(Deep.blk_setCell_other _ _ _ _ (by show w.heap.size ≠ w.heap.size + 1; omega)).trans h.b0, (heap_setCell_same _ _ _ _ _ _ h.b1).trans (by simp), h.bel.setCell (by show w.heap.size ≤ w.heap.size + 1; omega) _⟩
/-- A row written up to k. -/
def upTo (f : Nat → Int) (k j : Nat) : Int := if j < k then f j else 0
theorem upTo_step (f : Nat → Int) (k : Nat) : upd (upTo f k) k (f k) = upTo f (k + 1) := by
  funext j
  unfold upTo
  by_cases e : j = k
  · subst e; rw [upd_same, if_pos (by omega)]
  · rw [upd_other _ _ e]
    by_cases h : j < k
    · rw [if_pos h, if_pos (by omega)]
    · rw [if_neg h, if_neg (by omega)]
theorem upTo_zero (f : Nat → Int) (k : Nat) (h : f k = 0) : upTo f k = upTo f (k + 1) := by
  rw [← upTo_step, h]
  funext j
  by_cases e : j = k
  · subst e; rw [upd_same]; exact if_neg (by omega)
  · rw [upd_other _ _ e]
theorem IOwn.congr {w : World} {B : Nat} {v : Value} {n : Nat} {f g : Nat → Int} (h : IOwn w B v n f) (e : ∀ i, i < n → g i = f i) : IOwn w B v n g := by
  have hl : iL g n = iL f n := by
    apply List.ext_getElem?
    intro q
    by_cases hq : q < n
    · rw [iL_get hq, iL_get hq, e q hq]
    · rw [List.getElem?_eq_none (by rw [iL_length]; omega), List.getElem?_eq_none (by rw [iL_length]; omega)]
  show w.ownsRow _ _ _ _ _ (iL g n)
  rw [hl]
  exact h
def HeldP (e : Nat) (p : Pr) (W : World) : Prop := W.cell? ⟨e, 0, none⟩ = some (.int .i64 p.key.kind) ∧ W.cell? ⟨e, 1, none⟩ = some (.int .i64 p.key.num) ∧ W.cell? ⟨e, 2, none⟩ = some (.float .f64 p.key.flt) ∧ W.cell? ⟨e, 3, none⟩ = some (.string p.key.str) ∧ W.cell? ⟨e, 4, none⟩ = some (.int .i64 p.key.ref) ∧ W.cell? ⟨e, 5, none⟩ = some (.int .i64 p.val.kind) ∧ W.cell? ⟨e, 6, none⟩ = some (.int .i64 p.val.num) ∧ W.cell? ⟨e, 7, none⟩ = some (.float .f64 p.val.flt) ∧ W.cell? ⟨e, 8, none⟩ = some (.string p.val.str) ∧ W.cell? ⟨e, 9, none⟩ = some (.int .i64 p.val.ref) ∧ W.cell? ⟨e, 10, none⟩ = some (.int .i64 p.turn)
theorem ECell.held {w : World} {b : Nat} {p : Pr} {i : Nat} (h : ECell w b p i) : HeldP b p w := ⟨h.k0, h.k1, h.k2, h.k3, h.k4, h.v0, h.v1, h.v2, h.v3, h.v4, h.tn⟩
def HeldB (bk : Nat) (a b c : Int) (W : World) : Prop := W.cell? ⟨bk, 4, none⟩ = some (.int .i64 a) ∧ W.cell? ⟨bk, 5, none⟩ = some (.int .i64 b) ∧ W.cell? ⟨bk, 6, none⟩ = some (.int .i64 c)
def HeldI (c g m e : Nat) (x : Int) (W : World) : Prop := W.cell? ⟨c, 1, none⟩ = some (.slice (some ⟨g, 0, none⟩) m m) ∧ W.cell? ⟨e, 11, none⟩ = some (.int .i64 x)
def HeldX (c g m s e : Nat) (x : Int) (W : World) : Prop := W.cell? ⟨c, 2, none⟩ = some (.slice (some ⟨g, 0, none⟩) m m) ∧ W.cell? ⟨s, 5, none⟩ = some (.pointer (some ⟨e, 0, none⟩)) ∧ W.cell? ⟨e, 11, none⟩ = some (.int .i64 x)

set_option maxRecDepth 100000 in
set_option maxHeartbeats 8000000 in
theorem dict_any (bk : Nat) (r0 r1 : Value) (R2 : Nat) (E S : Nat → Nat) (d : Dc) (w : World) (hM : BMut w bk r0 r1 R2 E S d) (hS : Small d) (hI : ∀ j, j < d.m → 0 ≤ d.I j ∧ d.I j ≤ d.n) (hX : ∀ j, j < d.x → d.X j = 0 ∨ d.X j = -1 ∨ (0 < d.X j ∧ d.X j ≤ d.n)) :
    Calls Tryd.prog 16 #[.pointer (some ⟨bk, 0, none⟩)] w fun e w' => (∃ v0 v1 v2, e = .returned (DvV v0 v1 v2 d) ∧ DV d w' v0 v1 v2 w.heap.size w'.heap.size) ∧ Below w.heap.size w w' := by
  obtain ⟨i0, hi0, hz0, hz1, hz2⟩ := info_parts infoPair
  have hn := hS.n
  have hm := hS.m
  have hx := hS.x
  obtain ⟨a0, l0, e0⟩ := hM.log.slice
  obtain ⟨Q1, l1, e1⟩ := hM.rf
  subst e0 e1
  have hlt := hM.lt
  have c0 := hM.c0
  have c4 := hM.c4
  have c5 := hM.c5
  have c6 := hM.c6
  have mk1 := make_intsO d.m hm
  have mk2 := make_intsO d.x hx
  have HM := hide hM
  have HI := hide hI
  have HX := hide hX
  clear hM hS hI hX
  go_enter Tryd.func16, Tryd.ntmps16
  go_wp2_with fail
  refine wpN_held (HeldB bk d.used d.live d.turns) (by kernel_rfl) ?_
  change wpAnyH _ _ _ _ _ _ _ _ (World.drew _)
  have hB0 : ∀ o, Below w.heap.size w (w.alloc o) := fun o => (Below.refl _ _).alloc (Nat.le_refl _) _
  have hB0' : ∀ o, Below w.heap.size w (w.alloc o).drew := fun o => (hB0 o).drew
  have hS0 : ∀ o, HeldB bk d.used d.live d.turns (w.alloc o).drew := fun o => ⟨((hB0' o).cell (p := ⟨bk, 4, none⟩) hlt).trans c4, ((hB0' o).cell (p := ⟨bk, 5, none⟩) hlt).trans c5, ((hB0' o).cell (p := ⟨bk, 6, none⟩) hlt).trans c6⟩
  have hS0' := hS0 (.cells #[.slice none 0 0, .slice none 0 0, .slice none 0 0, .int .i64 0, .int .i64 0, .int .i64 0] 28)
  refine tk 0 (v := ?_) rfl (by kernel_rfl) (by rfl) ?_ (by assumption) ?_
  rotate_left
  · intro w' ⟨s0, s1, s2⟩; go_simp; first | done | with_reducible rfl
  simp only [Act.put, List.setIfInBounds_toArray, List.set_cons_succ, List.set_cons_zero]
  refine tk 1 (v := ?_) rfl (by kernel_rfl) (by rfl) ?_ (by assumption) ?_
  rotate_left
  · intro w' ⟨s0, s1, s2⟩; go_simp; first | done | with_reducible rfl
  simp only [Act.put, List.setIfInBounds_toArray, List.set_cons_succ, List.set_cons_zero]
  refine tk 2 (v := ?_) rfl (by kernel_rfl) (by rfl) ?_ (by assumption) ?_
  rotate_left
  · intro w' ⟨s0, s1, s2⟩; go_simp; first | done | with_reducible rfl
  simp only [Act.put, List.setIfInBounds_toArray, List.set_cons_succ, List.set_cons_zero]
  refine tk 3 (v := ?_) rfl (by kernel_rfl) (by rfl) ?_ (by assumption) ?_
  rotate_left
  · intro w' ⟨s0, s1, s2⟩; go_simp; first | done | with_reducible rfl
  simp only [Act.put, List.setIfInBounds_toArray, List.set_cons_succ, List.set_cons_zero]
  refine tk 4 (v := ?_) rfl (by kernel_rfl) (by rfl) ?_ (by assumption) ?_
  rotate_left
  · intro w' ⟨s0, s1, s2⟩; go_simp; first | done | with_reducible rfl
  simp only [Act.put, List.setIfInBounds_toArray, List.set_cons_succ, List.set_cons_zero]
  refine tk 5 (v := ?_) rfl (by kernel_rfl) (by rfl) ?_ (by assumption) ?_
  rotate_left
  · intro w' ⟨s0, s1, s2⟩; go_simp; first | done | with_reducible rfl
  simp only [Act.put, List.setIfInBounds_toArray, List.set_cons_succ, List.set_cons_zero]
  refine tk 6 (v := ?_) rfl (by kernel_rfl) (by rfl) ?_ (by assumption) ?_
  rotate_left
  · intro w' ⟨s0, s1, s2⟩; go_simp; first | done | with_reducible rfl
  simp only [Act.put, List.setIfInBounds_toArray, List.set_cons_succ, List.set_cons_zero]
  refine tk 7 (v := ?_) rfl (by kernel_rfl) (by rfl) ?_ (by assumption) ?_
  rotate_left
  · intro w' ⟨s0, s1, s2⟩; go_simp; first | done | with_reducible rfl
  simp only [Act.put, List.setIfInBounds_toArray, List.set_cons_succ, List.set_cons_zero]
  refine tk 8 (v := ?_) rfl (by kernel_rfl) (by rfl) ?_ (by assumption) ?_
  rotate_left
  · intro w' ⟨s0, s1, s2⟩; go_simp; first | done | with_reducible rfl
  simp only [Act.put, List.setIfInBounds_toArray, List.set_cons_succ, List.set_cons_zero]
  refine tk 9 (v := ?_) rfl (by kernel_rfl) (by rfl) ?_ (by assumption) ?_
  rotate_left
  · intro w' ⟨s0, s1, s2⟩; go_simp; first | done | with_reducible rfl
  simp only [Act.put, List.setIfInBounds_toArray, List.set_cons_succ, List.set_cons_zero]
  refine tk 10 (v := ?_) rfl (by kernel_rfl) (by rfl) ?_ (by assumption) ?_
  rotate_left
  · intro w' ⟨s0, s1, s2⟩; go_simp; first | done | with_reducible rfl
  simp only [Act.put, List.setIfInBounds_toArray, List.set_cons_succ, List.set_cons_zero]
  refine tk 11 (v := ?_) rfl (by kernel_rfl) (by rfl) ?_ (by assumption) ?_
  rotate_left
  · intro w' ⟨s0, s1, s2⟩; go_simp; first | done | with_reducible rfl
  simp only [Act.put, List.setIfInBounds_toArray, List.set_cons_succ, List.set_cons_zero]
  refine tk 12 (v := ?_) rfl (by kernel_rfl) (by rfl) ?_ (by assumption) ?_
  rotate_left
  · intro w' ⟨s0, s1, s2⟩; go_simp; first | done | with_reducible rfl
  simp only [Act.put, List.setIfInBounds_toArray, List.set_cons_succ, List.set_cons_zero]
  refine tk 13 (v := ?_) rfl (by kernel_rfl) (by rfl) ?_ (by assumption) ?_
  rotate_left
  · intro w' ⟨s0, s1, s2⟩; go_simp; first | done | with_reducible rfl
  simp only [Act.put, List.setIfInBounds_toArray, List.set_cons_succ, List.set_cons_zero]
  refine wpAnyH_ready (rs := [14]) (by kernel_rfl) (by simp) ?_
  refine AllReadyH.cons rfl (fun K hK => ?_) AllReadyH.nil
  go_simp
  refine hK.out _ _ ⟨(((hB0 _).alloc (by simp) _).drew.cell (p := ⟨bk, 4, none⟩) hlt).trans c4, (((hB0 _).alloc (by simp) _).drew.cell (p := ⟨bk, 5, none⟩) hlt).trans c5, (((hB0 _).alloc (by simp) _).drew.cell (p := ⟨bk, 6, none⟩) hlt).trans c6⟩ (fun hS1 => ?_)
  clear hK K
  refine wpAnyH_ready (rs := [15]) (by kernel_rfl) (by simp) ?_
  refine AllReadyH.cons rfl (fun K hK => ?_) AllReadyH.nil
  go_simp
  refine hK.out _ _ ⟨(((hB0 _).alloc (by simp) _).drew.cell (p := ⟨bk, 4, none⟩) hlt).trans c4, (((hB0 _).alloc (by simp) _).drew.cell (p := ⟨bk, 5, none⟩) hlt).trans c5, (((hB0 _).alloc (by simp) _).drew.cell (p := ⟨bk, 6, none⟩) hlt).trans c6⟩ (fun _ => ?_)
  clear hK K hS1 hS0 hS0'
  refine wpAnyH_done (by kernel_rfl) ?_ _
  refine QN.normal ?_
  obtain ⟨W1, hW1⟩ : ∃ W1, W1 = ((w.alloc (.cells #[.slice none 0 0, .slice none 0 0, .slice none 0 0, .int .i64 0, .int .i64 0, .int .i64 0] 28)).alloc (.cells #[.slice none 0 0, .slice none 0 0, .slice none 0 0, .int .i64 d.used, .int .i64 d.live, .int .i64 d.turns] 28)).drew := ⟨_, rfl⟩
  rw [← hW1]
  have hD1 : DWay w W1 (.slice none 0 0) (.slice none 0 0) (.slice none 0 0) d := by
    rw [hW1]
    refine ⟨(Deep.blk_alloc_lt _ _ _ (by simp)).trans (Deep.blk_alloc_new _ _), ?_, ((hB0 _).alloc (by simp) _).drew⟩
    have h1 := Deep.blk_alloc_new (w.alloc (.cells #[.slice none 0 0, .slice none 0 0, .slice none 0 0, .int .i64 0, .int .i64 0, .int .i64 0] 28)) (.cells #[.slice none 0 0, .slice none 0 0, .slice none 0 0, .int .i64 d.used, .int .i64 d.live, .int .i64 d.turns] 28)
    rw [World.size_alloc] at h1
    exact h1
  have c0' := (hD1.bel.cell (p := ⟨bk, 0, none⟩) hlt).trans c0
  have lb1 := Nat.lt_of_lt_of_le hlt hD1.bel.size
  have HD1 := hide hD1
  clear hD1 hW1 hB0 hB0' c0 c4 c5 c6
  go_wp2_with fail
  clear c0'
  go_loopw [29] (fun i wr => ∃ (k : Nat) (v0 : Value), k ≤ d.n ∧ i = .int .i64 (k : Int) ∧ POwn wr (w.heap.size + 2) v0 k d.L ∧ DWay w wr v0 (.slice none 0 0) (.slice none 0 0) d) (fun i _ => d.n - (intOf i).toNat)
  case atStart => exact ⟨0, .slice none 0 0, by omega, rfl, World.ownsRow_nil _ _ _ _, unhide HD1⟩
  case round =>
    clear HD1
    obtain ⟨k, v0, hk, rfl, hown, hW⟩ := hrel
    have hMr := (unhide HM).below hW.bel
    have hzr := hW.size
    by_cases hkn : k < d.n
    · obtain ⟨g0, cp0, e0, _, g0l, _, hg0, _⟩ := hMr.log.form (by omega)
      cases e0
      have rk := hg0 k hkn
      have he := hMr.ent k hkn
      have hel := he.lt
      have heb := ((unhide HM).ent k hkn).lt
      obtain ⟨x0, _, _, _, _, _, hfz⟩ := hW.cells
      have fx := hfz 0
      have hS0 : HeldP (E k) (d.L k) wr.drew := he.drew.held
      have HOW : Hid (POwn wr.drew (w.heap.size + 2) v0 k d.L) := hide hown.drew
      have HAPP : Hid (∀ (o : Obj) (g3 cp3 : Nat) (w3 : World), w3.ownsRow (w.heap.size + 2) 55 11 (.slice (some ⟨g3, 0, none⟩) (k + 1) cp3) (k + 1) (pL d.L k ++ prL (d.L k)) → (wr.drew.alloc o).grownBy w3 v0.ownBlock → HeldP (E k) (d.L k) w3 ∧ w3.cell? ⟨w.heap.size + 1, 0, none⟩ = some v0 ∧ w3.frozen? ⟨w.heap.size + 1, 0, none⟩ = false ∧ w.heap.size + 1 < w3.heap.size ∧ HeldP (E k) (d.L k) (w3.setCell ⟨w.heap.size + 1, 0, none⟩ (.slice (some ⟨g3, 0, none⟩) (k + 1) cp3)) ∧
          (POwn (w3.setCell ⟨w.heap.size + 1, 0, none⟩ (.slice (some ⟨g3, 0, none⟩) (k + 1) cp3)) (w.heap.size + 2) (.slice (some ⟨g3, 0, none⟩) (k + 1) cp3) (k + 1) d.L ∧ DWay w (w3.setCell ⟨w.heap.size + 1, 0, none⟩ (.slice (some ⟨g3, 0, none⟩) (k + 1) cp3)) (.slice (some ⟨g3, 0, none⟩) (k + 1) cp3) (.slice none 0 0) (.slice none 0 0) d)) := hide (fun o g3 cp3 w3 h1 h2 => by
        have hB : ∀ b, b < w.heap.size + 2 → w3.heap[b]? = wr.heap[b]? := fun b hb => (h2.block b (by simp; omega) (fun e => by have := (hown.lt b e.symm).1; omega)).trans (Deep.blk_alloc_lt _ _ _ (by show b < wr.heap.size; omega))
        have hz3 : wr.heap.size ≤ w3.heap.size := by have := h2.size; simp at this; omega
        have hW3 : DWay w w3 v0 (.slice none 0 0) (.slice none 0 0) d := hW.keep (hB _ (by omega)) (hB _ (by omega)) (((hW.bel.drew).alloc (by show w.heap.size ≤ wr.heap.size; omega) o).grown h2 (by simp; omega) (fun q e => by have := (hown.lt q e).1; omega))
        have he3 := he.keep hz3 (hB _ (by omega))
        obtain ⟨y0, _, _, _, _, _, yf⟩ := hW3.cells
        have hg3 := (World.ownsRow.lt h1 g3 rfl).1
        refine ⟨he3.held, y0, yf 0, by omega, (he3.keep (by simp) (Deep.blk_setCell_other _ _ _ _ (by show E k ≠ w.heap.size + 1; omega))).held, own_at h1 (fun q e => Deep.blk_setCell_other _ _ _ _ (by
          have e' : g3 = q := by simpa [Value.ownBlock] using e
          show q ≠ w.heap.size + 1
          omega)), hW3.set0⟩)
      clear hown hMr hg0 he hW hfz
      go_wp2_with fail
      refine wpN_held (HeldP (E k) (d.L k)) (by kernel_rfl) ?_
      change wpAnyH _ _ _ _ _ _ _ _ (World.drew _)
      refine tk 0 (v := ?_) rfl (by kernel_rfl) (by rfl) ?_ (by assumption) ?_
      rotate_left
      · intro w' ⟨s0, s1, s2, s3, s4, s5, s6, s7, s8, s9, s10⟩; go_simp; first | done | with_reducible rfl
      simp only [Act.put, List.setIfInBounds_toArray, List.set_cons_succ, List.set_cons_zero]
      refine tk 2 (v := ?_) rfl (by kernel_rfl) (by rfl) ?_ (by assumption) ?_
      rotate_left
      · intro w' ⟨s0, s1, s2, s3, s4, s5, s6, s7, s8, s9, s10⟩; go_simp; first | done | with_reducible rfl
      simp only [Act.put, List.setIfInBounds_toArray, List.set_cons_succ, List.set_cons_zero]
      refine tk 3 (v := ?_) rfl (by kernel_rfl) (by rfl) ?_ (by assumption) ?_
      rotate_left
      · intro w' ⟨s0, s1, s2, s3, s4, s5, s6, s7, s8, s9, s10⟩; go_simp; first | done | with_reducible rfl
      simp only [Act.put, List.setIfInBounds_toArray, List.set_cons_succ, List.set_cons_zero]
      refine tk 4 (v := ?_) rfl (by kernel_rfl) (by rfl) ?_ (by assumption) ?_
      rotate_left
      · intro w' ⟨s0, s1, s2, s3, s4, s5, s6, s7, s8, s9, s10⟩; go_simp; first | done | with_reducible rfl
      simp only [Act.put, List.setIfInBounds_toArray, List.set_cons_succ, List.set_cons_zero]
      refine tk 5 (v := ?_) rfl (by kernel_rfl) (by rfl) ?_ (by assumption) ?_
      rotate_left
      · intro w' ⟨s0, s1, s2, s3, s4, s5, s6, s7, s8, s9, s10⟩; go_simp; first | done | with_reducible rfl
      simp only [Act.put, List.setIfInBounds_toArray, List.set_cons_succ, List.set_cons_zero]
      refine wpAnyH_ready (rs := [1, 6]) (by kernel_rfl) (by simp) ?_
      refine AllReadyH.cons rfl (fun K hK => ?_) (AllReadyH.cons rfl (fun K hK => ?_) AllReadyH.nil)
      · go_simp
        refine hK.out _ _ hS0 (fun _ => ?_)
        clear hK K
        refine wpAnyH_ready (rs := [6]) (by kernel_rfl) (by simp) ?_
        refine AllReadyH.cons rfl (fun K hK => ?_) AllReadyH.nil
        go_simp
        refine hK.out _ _ (by obtain ⟨s0, s1, s2, s3, s4, s5, s6, s7, s8, s9, s10⟩ := hS0; exact (fun (hb : Below wr.heap.size wr _) => (⟨(hb.cell (p := ⟨E k, 0, none⟩) hel).trans s0, (hb.cell (p := ⟨E k, 1, none⟩) hel).trans s1, (hb.cell (p := ⟨E k, 2, none⟩) hel).trans s2, (hb.cell (p := ⟨E k, 3, none⟩) hel).trans s3, (hb.cell (p := ⟨E k, 4, none⟩) hel).trans s4, (hb.cell (p := ⟨E k, 5, none⟩) hel).trans s5, (hb.cell (p := ⟨E k, 6, none⟩) hel).trans s6, (hb.cell (p := ⟨E k, 7, none⟩) hel).trans s7, (hb.cell (p := ⟨E k, 8, none⟩) hel).trans s8, (hb.cell (p := ⟨E k, 9, none⟩) hel).trans s9, (hb.cell (p := ⟨E k, 10, none⟩) hel).trans s10⟩ : HeldP (E k) (d.L k) _)) ((Below.refl wr.heap.size wr).drew.alloc (Nat.le_refl _) _)) (fun hS1 => ?_)
        clear hK K
        refine wpAnyH_ready (rs := [7]) (by kernel_rfl) (by simp) ?_
        refine AllReadyH.cons rfl (fun K hK => ?_) AllReadyH.nil
        refine step_append_lies _ rfl (.tmp 34) (.tmp 39) 25 rfl (w.heap.size + 2) 55 i0 PZ 11 104 Tryd.underlying25 hi0 hz0 hz1 hz2 rfl (by decide) v0 k (pL d.L k) (by simp [Act.eval]) (World.ownsRow.alloc (unhide HOW) _) ⟨wr.heap.size, 0, none⟩ 1 1 (prL (d.L k)) (by simp [Act.eval]) rfl (World.news_of_block (Deep.blk_alloc_new _ _)) (prL_one _) (by decide) (by unfold maxLen; omega) (by omega) (by simp; omega) _ rfl ?_
        intro g3 cp3 w3 hown3 hgr3 hloc3 hlt3
        obtain ⟨hS3, x3, f3, l3, hS4, HN3⟩ := unhide HAPP _ g3 cp3 w3 hown3 hgr3
        clear hown3 hgr3 hloc3
        refine hK.out _ _ hS3 (fun hS3' => ?_)
        clear hK K
        refine tk 8 (v := ?_) rfl (by kernel_rfl) (by rfl) ?_ (by assumption) ?_
        rotate_left
        · intro w' ⟨s0, s1, s2, s3, s4, s5, s6, s7, s8, s9, s10⟩; go_simp; first | done | with_reducible rfl
        (try simp only [Act.put]); (try simp only [List.setIfInBounds_toArray]); (try simp only [List.set_cons_succ]); try simp only [List.set_cons_zero]
        refine wpAnyH_ready (rs := [9]) (by kernel_rfl) (by simp) ?_
        refine AllReadyH.cons rfl (fun K hK => ?_) AllReadyH.nil
        go_simp
        refine hK.out _ _ hS4 (fun _ => ?_)
        clear hK K hS0 hS3 hS3' hS4
        refine wpAnyH_done (by kernel_rfl) ?_ _
        refine QN.normal ?_
        have HN := hide HN3
        clear HN3 x3 f3
        go_wp2
        go_roundw
        case rel => exact ⟨k + 1, _, by omega, by go_num, (unhide HN).1, (unhide HN).2⟩
        case measure => simp [intOf]; omega
      · go_simp
        refine hK.out _ _ (by obtain ⟨s0, s1, s2, s3, s4, s5, s6, s7, s8, s9, s10⟩ := hS0; exact (fun (hb : Below wr.heap.size wr _) => (⟨(hb.cell (p := ⟨E k, 0, none⟩) hel).trans s0, (hb.cell (p := ⟨E k, 1, none⟩) hel).trans s1, (hb.cell (p := ⟨E k, 2, none⟩) hel).trans s2, (hb.cell (p := ⟨E k, 3, none⟩) hel).trans s3, (hb.cell (p := ⟨E k, 4, none⟩) hel).trans s4, (hb.cell (p := ⟨E k, 5, none⟩) hel).trans s5, (hb.cell (p := ⟨E k, 6, none⟩) hel).trans s6, (hb.cell (p := ⟨E k, 7, none⟩) hel).trans s7, (hb.cell (p := ⟨E k, 8, none⟩) hel).trans s8, (hb.cell (p := ⟨E k, 9, none⟩) hel).trans s9, (hb.cell (p := ⟨E k, 10, none⟩) hel).trans s10⟩ : HeldP (E k) (d.L k) _)) ((Below.refl wr.heap.size wr).drew.alloc (Nat.le_refl _) _)) (fun hS1 => ?_)
        clear hK K
        refine wpAnyH_ready (rs := [1]) (by kernel_rfl) (by simp) ?_
        refine AllReadyH.cons rfl (fun K hK => ?_) AllReadyH.nil
        go_simp
        refine hK.out _ _ hS1 (fun _ => ?_)
        clear hK K
        refine wpAnyH_ready (rs := [7]) (by kernel_rfl) (by simp) ?_
        refine AllReadyH.cons rfl (fun K hK => ?_) AllReadyH.nil
        refine step_append_lies _ rfl (.tmp 34) (.tmp 39) 25 rfl (w.heap.size + 2) 55 i0 PZ 11 104 Tryd.underlying25 hi0 hz0 hz1 hz2 rfl (by decide) v0 k (pL d.L k) (by simp [Act.eval]) (World.ownsRow.alloc (unhide HOW) _) ⟨wr.heap.size, 0, none⟩ 1 1 (prL (d.L k)) (by simp [Act.eval]) rfl (World.news_of_block (Deep.blk_alloc_new _ _)) (prL_one _) (by decide) (by unfold maxLen; omega) (by omega) (by simp; omega) _ rfl ?_
        intro g3 cp3 w3 hown3 hgr3 hloc3 hlt3
        obtain ⟨hS3, x3, f3, l3, hS4, HN3⟩ := unhide HAPP _ g3 cp3 w3 hown3 hgr3
        clear hown3 hgr3 hloc3
        refine hK.out _ _ hS3 (fun hS3' => ?_)
        clear hK K
        refine tk 8 (v := ?_) rfl (by kernel_rfl) (by rfl) ?_ (by assumption) ?_
        rotate_left
        · intro w' ⟨s0, s1, s2, s3, s4, s5, s6, s7, s8, s9, s10⟩; go_simp; first | done | with_reducible rfl
        (try simp only [Act.put]); (try simp only [List.setIfInBounds_toArray]); (try simp only [List.set_cons_succ]); try simp only [List.set_cons_zero]
        refine wpAnyH_ready (rs := [9]) (by kernel_rfl) (by simp) ?_
        refine AllReadyH.cons rfl (fun K hK => ?_) AllReadyH.nil
        go_simp
        refine hK.out _ _ hS4 (fun _ => ?_)
        clear hK K hS0 hS3 hS3' hS4
        refine wpAnyH_done (by kernel_rfl) ?_ _
        refine QN.normal ?_
        have HN := hide HN3
        clear HN3 x3 f3
        go_wp2
        go_roundw
        case rel => exact ⟨k + 1, _, by omega, by go_num, (unhide HN).1, (unhide HN).2⟩
        case measure => simp [intOf]; omega
    · have hk' : k = d.n := by omega
      subst hk'
      have HMr := hide hMr
      have HOW := hide hown
      have c1 := hMr.c1
      have lb := hMr.lt
      obtain ⟨x0, x1, x2, x3, x4, x5, hfz⟩ := hW.cells
      have fx1 := hfz 1
      have HW := hide hW
      clear hMr hown hW hfz
      go_wp2_with fail
      obtain ⟨g1, hg1⟩ : ∃ g1, g1 = wr.heap.size := ⟨_, rfl⟩
      obtain ⟨W2, hW2⟩ : ∃ W2, W2 = (wr.setCell ⟨w.heap.size + 1, 1, none⟩ (.slice (some ⟨wr.heap.size, 0, none⟩) d.m d.m)).alloc (.cells (madeCells #[Value.int .i64 0] d.m) 3) := ⟨_, rfl⟩
      rw [← hW2]
      have hP2 : IOwn W2 (w.heap.size + 2) (.slice (some ⟨g1, 0, none⟩) d.m d.m) d.m (upTo d.I 0) := by
        have h1 := IOwn.made (wr.setCell ⟨w.heap.size + 1, 1, none⟩ (.slice (some ⟨wr.heap.size, 0, none⟩) d.m d.m)) (w.heap.size + 2) d.m (by simp; omega) hm
        rw [show (wr.setCell ⟨w.heap.size + 1, 1, none⟩ (.slice (some ⟨wr.heap.size, 0, none⟩) d.m d.m)).heap.size = g1 by rw [hg1]; simp] at h1
        rw [hW2]
        exact h1.congr (fun i _ => if_neg (by omega))
      have hkp : ∀ b, b < g1 → b ≠ w.heap.size + 1 → W2.heap[b]? = wr.heap[b]? := fun b hb hne => by
        rw [hW2]
        exact (Deep.blk_alloc_lt _ _ _ (by simp; omega)).trans (Deep.blk_setCell_other _ _ _ _ (by exact hne))
      have hv0 : ∀ q, v0.ownBlock = some q → w.heap.size + 2 ≤ q ∧ q < g1 := fun q e => by have := (unhide HOW).lt q e; omega
      have hO2 : POwn W2 (w.heap.size + 2) v0 d.n d.L := own_at (unhide HOW) (fun q e => hkp q (hv0 q e).2 (by have := (hv0 q e).1; omega))
      have hD2 : DWay w W2 v0 (.slice (some ⟨g1, 0, none⟩) d.m d.m) (.slice none 0 0) d := by
        have h1 := (unhide HW).set1 (u := .slice (some ⟨g1, 0, none⟩) d.m d.m)
        rw [hg1] at h1 ⊢
        rw [hW2]
        exact h1.keep (Deep.blk_alloc_lt _ _ _ (by simp; omega)) (Deep.blk_alloc_lt _ _ _ (by simp; omega)) (h1.bel.alloc (by simp; omega) _)
      have hg1n : w.heap.size + 2 ≤ g1 := by omega
      have HL2 := hide (show IOwn W2 (w.heap.size + 2) (.slice (some ⟨g1, 0, none⟩) d.m d.m) d.m (upTo d.I 0) ∧ POwn W2 (w.heap.size + 2) v0 d.n d.L ∧ DWay w W2 v0 (.slice (some ⟨g1, 0, none⟩) d.m d.m) (.slice none 0 0) d from ⟨hP2, hO2, hD2⟩)
      rw [← hg1]
      have HV0 := hide hv0
      clear HMr HOW HW hP2 hkp hv0 hO2 hD2 hW2 hg1 x0 x1 x2 x3 x4 x5 fx1 c1 lb hzr hkn hk lb1
      go_loopw [55] (fun i wr => ∃ k : Nat, k ≤ d.m ∧ i = .int .i64 (k : Int) ∧ IOwn wr (w.heap.size + 2) (.slice (some ⟨g1, 0, none⟩) d.m d.m) d.m (upTo d.I k) ∧ POwn wr (w.heap.size + 2) v0 d.n d.L ∧ DWay w wr v0 (.slice (some ⟨g1, 0, none⟩) d.m d.m) (.slice none 0 0) d) (fun i _ => d.m - (intOf i).toNat)
      case atStart => exact ⟨0, by omega, rfl, (unhide HL2).1, (unhide HL2).2.1, (unhide HL2).2.2⟩
      case round =>
        clear HL2
        obtain ⟨k, hk, rfl, hP, hO, hW⟩ := hrel
        have hMr := (unhide HM).below hW.bel
        have hzr := hW.size
        by_cases hkn : k < d.m
        · obtain ⟨_, _, e1, _, _, _, hc1, _⟩ := hMr.ints.form (by omega)
          cases e1
          have rk : wr.cell? ⟨Q1, k, none⟩ = some (.pointer (entP E (d.I k))) := hc1 k hkn
          obtain ⟨_, _, e2, hgl, hgs, _, hgc, hgf⟩ := hP.form (by omega)
          cases e2
          have gk := hgc k hkn
          have gf := hgf k
          have hQl := World.block_lt_of_cell? _ _ rk
          dsimp only at hQl
          obtain ⟨hI1, hI2⟩ := unhide HI k hkn
          obtain ⟨x0, x1, _, _, _, _, hfz⟩ := hW.cells
          by_cases h0 : d.I k = 0
          · rw [h0, show entP E 0 = none from if_neg (by decide)] at rk
            have HN : Hid (IOwn wr (w.heap.size + 2) (.slice (some ⟨g1, 0, none⟩) d.m d.m) d.m (upTo d.I (k + 1)) ∧ POwn wr (w.heap.size + 2) v0 d.n d.L ∧ DWay w wr v0 (.slice (some ⟨g1, 0, none⟩) d.m d.m) (.slice none 0 0) d) := hide ⟨by rw [← upTo_zero d.I k h0]; exact hP, hO, hW⟩
            clear hP hO hW hMr hc1 hgc hgf hfz h0 hI1 hI2
            go_wp2
            go_roundw
            case rel => exact ⟨k + 1, by omega, by go_num, (unhide HN).1, (unhide HN).2.1, (unhide HN).2.2⟩
            case measure => simp [intOf]; omega
          · obtain ⟨q, hq⟩ : ∃ q : Nat, d.I k = (q : Int) + 1 := ⟨(d.I k - 1).toNat, by omega⟩
            have hqn : q < d.n := by omega
            rw [hq, show entP E ((q : Int) + 1) = some ⟨E q, 0, none⟩ by unfold entP; rw [if_pos (by omega), show ((q : Int) + 1 - 1).toNat = q by omega]] at rk
            have he := hMr.ent q hqn
            have hel := he.lt
            have heb := ((unhide HM).ent q hqn).lt
            have hwq : IntKind.i64.wrap ((q : Int) + 1) = (q : Int) + 1 := by rw [IntKind.wrap_i64]; omega
            have hS0 : HeldI (w.heap.size + 1) g1 d.m (E q) q wr.drew := ⟨x1, he.pl⟩
            have hS1 : HeldI (w.heap.size + 1) g1 d.m (E q) q (wr.setCell ⟨g1, k, none⟩ (.int .i64 ((q : Int) + 1))).drew := ⟨(cell_set_block (by omega)).trans x1, (cell_set_block (by omega)).trans he.pl⟩
            have HN : Hid (IOwn (wr.setCell ⟨g1, k, none⟩ (.int .i64 ((q : Int) + 1))).drew (w.heap.size + 2) (.slice (some ⟨g1, 0, none⟩) d.m d.m) d.m (upTo d.I (k + 1)) ∧ POwn (wr.setCell ⟨g1, k, none⟩ (.int .i64 ((q : Int) + 1))).drew (w.heap.size + 2) v0 d.n d.L ∧ DWay w (wr.setCell ⟨g1, k, none⟩ (.int .i64 ((q : Int) + 1))).drew v0 (.slice (some ⟨g1, 0, none⟩) d.m d.m) (.slice none 0 0) d) := hide (by
              refine ⟨?_, own_at hO (fun b e => Deep.blk_setCell_other _ _ _ _ (by have := unhide HV0 b e; show b ≠ g1; omega)), hW.keep (Deep.blk_setCell_other _ _ _ _ (by show w.heap.size ≠ g1; omega)) (Deep.blk_setCell_other _ _ _ _ (by show w.heap.size + 1 ≠ g1; omega)) (hW.bel.setCell (by show w.heap.size ≤ g1; omega) _).drew⟩
              have h1 := (hP.set hkn ((q : Int) + 1)).drew
              rw [← hq, upTo_step] at h1
              rw [← hq]
              exact h1)
            clear hP hO hW hMr hc1 hgc hgf hfz h0 hI1 hI2 he hq
            go_wp2_with fail
            refine wpN_held (HeldI (w.heap.size + 1) g1 d.m (E q) q) (by kernel_rfl) ?_
            change wpAnyH _ _ _ _ _ _ _ _ (World.drew _)
            refine tk 0 (v := ?_) rfl (by kernel_rfl) (by rfl) ?_ (by assumption) ?_
            rotate_left
            · intro w' ⟨s0, s1⟩; go_simp; first | done | with_reducible rfl
            simp only [Act.put, List.setIfInBounds_toArray, List.set_cons_succ, List.set_cons_zero]
            refine tk 1 (v := ?_) rfl (by kernel_rfl) (by rfl) ?_ (by assumption) ?_
            rotate_left
            · intro w' ⟨s0, s1⟩; go_simp; first | done | with_reducible rfl
            simp only [Act.put, List.setIfInBounds_toArray, List.set_cons_succ, List.set_cons_zero]
            refine tk 2 (v := ?_) rfl (by kernel_rfl) (by rfl) ?_ (by assumption) ?_
            rotate_left
            · intro w' ⟨s0, s1⟩; go_simp; first | done | with_reducible rfl
            simp only [Act.put, List.setIfInBounds_toArray, List.set_cons_succ, List.set_cons_zero]
            refine tk 3 (v := ?_) rfl (by kernel_rfl) (by rfl) ?_ (by assumption) ?_
            rotate_left
            · intro w' ⟨s0, s1⟩; go_simp; first | done | with_reducible rfl
            simp only [Act.put, List.setIfInBounds_toArray, List.set_cons_succ, List.set_cons_zero]
            refine tk 4 (v := ?_) rfl (by kernel_rfl) (by rfl) ?_ (by assumption) ?_
            rotate_left
            · intro w' ⟨s0, s1⟩; go_simp; first | done | with_reducible rfl
            simp only [Act.put, List.setIfInBounds_toArray, List.set_cons_succ, List.set_cons_zero]
            refine tk 5 (v := ?_) rfl (by kernel_rfl) (by rfl) ?_ (by assumption) ?_
            rotate_left
            · intro w' ⟨s0, s1⟩; go_simp; first | done | with_reducible rfl
            simp only [Act.put, List.setIfInBounds_toArray, List.set_cons_succ, List.set_cons_zero]
            refine tk 6 (v := ?_) rfl (by kernel_rfl) (by rfl) ?_ (by assumption) ?_
            rotate_left
            · intro w' ⟨s0, s1⟩; go_simp; first | done | with_reducible rfl
            simp only [Act.put, List.setIfInBounds_toArray, List.set_cons_succ, List.set_cons_zero]
            refine tk 7 (v := ?_) rfl (by kernel_rfl) (by rfl) ?_ (by assumption) ?_
            rotate_left
            · intro w' ⟨s0, s1⟩; go_simp; first | done | with_reducible rfl
            simp only [Act.put, List.setIfInBounds_toArray, List.set_cons_succ, List.set_cons_zero]
            refine tk 8 (v := ?_) rfl (by kernel_rfl) (by rfl) ?_ (by assumption) ?_
            rotate_left
            · intro w' ⟨s0, s1⟩; go_simp; first | done | with_reducible rfl
            simp only [Act.put, List.setIfInBounds_toArray, List.set_cons_succ, List.set_cons_zero]
            refine wpAnyH_ready (rs := [9]) (by kernel_rfl) (by simp) ?_
            refine AllReadyH.cons rfl (fun K hK => ?_) AllReadyH.nil
            go_simp
            refine hK.out _ _ hS1 (fun _ => ?_)
            clear hK K hS0 hS1
            refine wpAnyH_done (by kernel_rfl) ?_ _
            refine QN.normal ?_
            go_wp2
            go_roundw
            case rel => exact ⟨k + 1, by omega, by go_num, (unhide HN).1, (unhide HN).2.1, (unhide HN).2.2⟩
            case measure => simp [intOf]; omega
        · have hk' : k = d.m := by omega
          subst hk'
          have hP' : IOwn wr (w.heap.size + 2) (.slice (some ⟨g1, 0, none⟩) d.m d.m) d.m d.I := hP.congr (fun i hi => (if_pos hi).symm)
          have c3 := hMr.c3
          have lb := hMr.lt
          obtain ⟨x0, x1, x2, x3, x4, x5, hfz⟩ := hW.cells
          have fx2 := hfz 2
          have hg1l := (hP'.lt g1 rfl).2
          have HP := hide hP'
          have HO := hide hO
          have HW := hide hW
          clear hMr hP hP' hO hW hfz
          go_wp2_with fail
          obtain ⟨g2, hg2⟩ : ∃ g2, g2 = wr.heap.size := ⟨_, rfl⟩
          obtain ⟨W3, hW3⟩ : ∃ W3, W3 = (wr.setCell ⟨w.heap.size + 1, 2, none⟩ (.slice (some ⟨wr.heap.size, 0, none⟩) d.x d.x)).alloc (.cells (madeCells #[Value.int .i64 0] d.x) 3) := ⟨_, rfl⟩
          rw [← hW3]
          have hX3 : IOwn W3 (w.heap.size + 2) (.slice (some ⟨g2, 0, none⟩) d.x d.x) d.x (upTo d.X 0) := by
            have h1 := IOwn.made (wr.setCell ⟨w.heap.size + 1, 2, none⟩ (.slice (some ⟨wr.heap.size, 0, none⟩) d.x d.x)) (w.heap.size + 2) d.x (by simp; omega) hx
            rw [show (wr.setCell ⟨w.heap.size + 1, 2, none⟩ (.slice (some ⟨wr.heap.size, 0, none⟩) d.x d.x)).heap.size = g2 by rw [hg2]; simp] at h1
            rw [hW3]
            exact h1.congr (fun i _ => if_neg (by omega))
          have hkp : ∀ b, b < g2 → b ≠ w.heap.size + 1 → W3.heap[b]? = wr.heap[b]? := fun b hb hne => by
            rw [hW3]
            exact (Deep.blk_alloc_lt _ _ _ (by simp; omega)).trans (Deep.blk_setCell_other _ _ _ _ (by exact hne))
          have hO3 : POwn W3 (w.heap.size + 2) v0 d.n d.L := own_at (unhide HO) (fun q e => hkp q (by have := unhide HV0 q e; omega) (by have := unhide HV0 q e; omega))
          have hP3 : IOwn W3 (w.heap.size + 2) (.slice (some ⟨g1, 0, none⟩) d.m d.m) d.m d.I := own_at (unhide HP) (fun q e => by
            have e' : g1 = q := by simpa [Value.ownBlock] using e
            exact hkp q (by omega) (by omega))
          have hD3 : DWay w W3 v0 (.slice (some ⟨g1, 0, none⟩) d.m d.m) (.slice (some ⟨g2, 0, none⟩) d.x d.x) d := by
            have h1 := (unhide HW).set2 (u := .slice (some ⟨g2, 0, none⟩) d.x d.x)
            rw [hg2] at h1 ⊢
            rw [hW3]
            exact h1.keep (Deep.blk_alloc_lt _ _ _ (by simp; omega)) (Deep.blk_alloc_lt _ _ _ (by simp; omega)) (h1.bel.alloc (by simp; omega) _)
          have hg12 : g1 < g2 := by omega
          have HL3 := hide (show IOwn W3 (w.heap.size + 2) (.slice (some ⟨g2, 0, none⟩) d.x d.x) d.x (upTo d.X 0) ∧ IOwn W3 (w.heap.size + 2) (.slice (some ⟨g1, 0, none⟩) d.m d.m) d.m d.I ∧ POwn W3 (w.heap.size + 2) v0 d.n d.L ∧ DWay w W3 v0 (.slice (some ⟨g1, 0, none⟩) d.m d.m) (.slice (some ⟨g2, 0, none⟩) d.x d.x) d from ⟨hX3, hP3, hO3, hD3⟩)
          rw [← hg2]
          clear HP HO HW hX3 hP3 hO3 hD3 hkp hW3 hg2 x0 x1 x2 x3 x4 x5 fx2 c3 lb hzr hkn hk hg1l
          go_loopw [86] (fun i wr => ∃ k : Nat, k ≤ d.x ∧ i = .int .i64 (k : Int) ∧ IOwn wr (w.heap.size + 2) (.slice (some ⟨g2, 0, none⟩) d.x d.x) d.x (upTo d.X k) ∧ IOwn wr (w.heap.size + 2) (.slice (some ⟨g1, 0, none⟩) d.m d.m) d.m d.I ∧ POwn wr (w.heap.size + 2) v0 d.n d.L ∧ DWay w wr v0 (.slice (some ⟨g1, 0, none⟩) d.m d.m) (.slice (some ⟨g2, 0, none⟩) d.x d.x) d) (fun i _ => d.x - (intOf i).toNat)
          case atStart => exact ⟨0, by omega, rfl, (unhide HL3).1, (unhide HL3).2.1, (unhide HL3).2.2.1, (unhide HL3).2.2.2⟩
          case round =>
            clear HL3
            obtain ⟨k, hk, rfl, hX', hP, hO, hW⟩ := hrel
            have hMr := (unhide HM).below hW.bel
            have hzr := hW.size
            obtain ⟨x0, x1, x2, x3, x4, x5, hfz⟩ := hW.cells
            by_cases hkn : k < d.x
            · obtain ⟨_, _, e1, _, _, _, hc1, _⟩ := hMr.slots.form (by omega)
              cases e1
              have rk : wr.cell? ⟨R2, k, none⟩ = some (.pointer (sltP S k (d.X k))) := hc1 k hkn
              obtain ⟨_, _, e2, hgl, hgs, _, hgc, hgf⟩ := hX'.form (by omega)
              cases e2
              have gk := hgc k hkn
              have gf := hgf k
              have hQl := World.block_lt_of_cell? _ _ rk
              dsimp only at hQl
              have hsl := hMr.sl k hkn
              have SETX : ∀ x : Int, d.X k = x → IOwn (wr.setCell ⟨g2, k, none⟩ (.int .i64 x)) (w.heap.size + 2) (.slice (some ⟨g2, 0, none⟩) d.x d.x) d.x (upTo d.X (k + 1)) ∧ IOwn (wr.setCell ⟨g2, k, none⟩ (.int .i64 x)) (w.heap.size + 2) (.slice (some ⟨g1, 0, none⟩) d.m d.m) d.m d.I ∧ POwn (wr.setCell ⟨g2, k, none⟩ (.int .i64 x)) (w.heap.size + 2) v0 d.n d.L ∧ DWay w (wr.setCell ⟨g2, k, none⟩ (.int .i64 x)) v0 (.slice (some ⟨g1, 0, none⟩) d.m d.m) (.slice (some ⟨g2, 0, none⟩) d.x d.x) d := fun x hx' => by
                refine ⟨?_, own_at hP (fun b e => Deep.blk_setCell_other _ _ _ _ (by
                  have e' : g1 = b := by simpa [Value.ownBlock] using e
                  show b ≠ g2
                  omega)), own_at hO (fun b e => Deep.blk_setCell_other _ _ _ _ (by have := unhide HV0 b e; show b ≠ g2; omega)), hW.keep (Deep.blk_setCell_other _ _ _ _ (by show w.heap.size ≠ g2; omega)) (Deep.blk_setCell_other _ _ _ _ (by show w.heap.size + 1 ≠ g2; omega)) (hW.bel.setCell (by show w.heap.size ≤ g2; omega) _)⟩
                have h1 := hX'.set hkn x
                rw [← hx', upTo_step] at h1
                rw [← hx']
                exact h1
              have HSETX := hide SETX
              rcases unhide HX k hkn with h0 | h0 | ⟨h0, h0'⟩
              · rw [h0, show sltP S k 0 = none from if_pos rfl] at rk
                have HN : Hid (IOwn wr (w.heap.size + 2) (.slice (some ⟨g2, 0, none⟩) d.x d.x) d.x (upTo d.X (k + 1)) ∧ IOwn wr (w.heap.size + 2) (.slice (some ⟨g1, 0, none⟩) d.m d.m) d.m d.I ∧ POwn wr (w.heap.size + 2) v0 d.n d.L ∧ DWay w wr v0 (.slice (some ⟨g1, 0, none⟩) d.m d.m) (.slice (some ⟨g2, 0, none⟩) d.x d.x) d) := hide ⟨by rw [← upTo_zero d.X k h0]; exact hX', hP, hO, hW⟩
                clear hX' hP hO hW hMr hc1 hgc hgf hfz h0 hsl SETX HSETX
                go_wp2
                go_roundw
                case rel => exact ⟨k + 1, by omega, by go_num, (unhide HN).1, (unhide HN).2.1, (unhide HN).2.2.1, (unhide HN).2.2.2⟩
                case measure => simp [intOf]; omega
              · rw [h0, show sltP S k (-1) = some ⟨S k, 0, none⟩ from if_neg (by decide)] at rk
                have hgc' := hsl.2 (by omega)
                have gg := hgc'.gn
                have hsz := hgc'.lt
                have HN := hide (SETX (-1) h0)
                clear hX' hP hO hW hMr hc1 hgc hgf hfz h0 hsl SETX HSETX hgc'
                go_wp2
                go_roundw
                case rel => exact ⟨k + 1, by omega, by go_num, (unhide HN).1, (unhide HN).2.1, (unhide HN).2.2.1, (unhide HN).2.2.2⟩
                case measure => simp [intOf]; omega
              · obtain ⟨q, hq⟩ : ∃ q : Nat, d.X k = (q : Int) + 1 := ⟨(d.X k - 1).toNat, by omega⟩
                have hqn : q < d.n := by omega
                rw [show sltP S k (d.X k) = some ⟨S k, 0, none⟩ from if_neg (by omega)] at rk
                have hsc : SCell wr (S k) (d.at (d.X k)).key (E (d.X k - 1).toNat) := hsl.1 h0
                rw [show (d.X k - 1).toNat = q by omega] at hsc
                have gg := hsc.gn
                have gp := hsc.pt
                have hsz := hsc.lt
                have he := hMr.ent q hqn
                have hel := he.lt
                have heb := ((unhide HM).ent q hqn).lt
                have hsb : S k ≠ g2 := fun e => by
                  obtain ⟨cc, hcc⟩ : ∃ cc, wr.heap[g2]? = some (.cells cc 3 (0, 0)) := by
                    obtain ⟨_, ⟨hv, _⟩ | ⟨g, cap, cur, hv, _, hblk, _⟩⟩ := hX'
                    · cases hv
                    · cases hv
                      exact ⟨cur, hblk⟩
                  exact type_apart (e ▸ hsc.ob) hcc (by decide)
                have hwq : IntKind.i64.wrap ((q : Int) + 1) = (q : Int) + 1 := by rw [IntKind.wrap_i64]; omega
                have hS0 : HeldX (w.heap.size + 1) g2 d.x (S k) (E q) q wr.drew := ⟨x2, gp, he.pl⟩
                have hS1 : HeldX (w.heap.size + 1) g2 d.x (S k) (E q) q (wr.setCell ⟨g2, k, none⟩ (.int .i64 ((q : Int) + 1))).drew := ⟨(cell_set_block (by omega)).trans x2, (cell_set_block (fun e => hsb e.symm)).trans gp, (cell_set_block (by omega)).trans he.pl⟩
                have HN := hide (SETX ((q : Int) + 1) hq)
                clear hX' hP hO hW hMr hc1 hgc hgf hfz h0 h0' hsl SETX HSETX he hsc hq
                go_wp2_with fail
                refine wpN_held (HeldX (w.heap.size + 1) g2 d.x (S k) (E q) q) (by kernel_rfl) ?_
                change wpAnyH _ _ _ _ _ _ _ _ (World.drew _)
                refine tk 0 (v := ?_) rfl (by kernel_rfl) (by rfl) ?_ (by assumption) ?_
                rotate_left
                · intro w' ⟨s0, s1, s2⟩; go_simp; first | done | with_reducible rfl
                simp only [Act.put, List.setIfInBounds_toArray, List.set_cons_succ, List.set_cons_zero]
                refine tk 1 (v := ?_) rfl (by kernel_rfl) (by rfl) ?_ (by assumption) ?_
                rotate_left
                · intro w' ⟨s0, s1, s2⟩; go_simp; first | done | with_reducible rfl
                simp only [Act.put, List.setIfInBounds_toArray, List.set_cons_succ, List.set_cons_zero]
                refine tk 2 (v := ?_) rfl (by kernel_rfl) (by rfl) ?_ (by assumption) ?_
                rotate_left
                · intro w' ⟨s0, s1, s2⟩; go_simp; first | done | with_reducible rfl
                simp only [Act.put, List.setIfInBounds_toArray, List.set_cons_succ, List.set_cons_zero]
                refine tk 3 (v := ?_) rfl (by kernel_rfl) (by rfl) ?_ (by assumption) ?_
                rotate_left
                · intro w' ⟨s0, s1, s2⟩; go_simp; first | done | with_reducible rfl
                simp only [Act.put, List.setIfInBounds_toArray, List.set_cons_succ, List.set_cons_zero]
                refine tk 4 (v := ?_) rfl (by kernel_rfl) (by rfl) ?_ (by assumption) ?_
                rotate_left
                · intro w' ⟨s0, s1, s2⟩; go_simp; first | done | with_reducible rfl
                simp only [Act.put, List.setIfInBounds_toArray, List.set_cons_succ, List.set_cons_zero]
                refine tk 5 (v := ?_) rfl (by kernel_rfl) (by rfl) ?_ (by assumption) ?_
                rotate_left
                · intro w' ⟨s0, s1, s2⟩; go_simp; first | done | with_reducible rfl
                simp only [Act.put, List.setIfInBounds_toArray, List.set_cons_succ, List.set_cons_zero]
                refine tk 6 (v := ?_) rfl (by kernel_rfl) (by rfl) ?_ (by assumption) ?_
                rotate_left
                · intro w' ⟨s0, s1, s2⟩; go_simp; first | done | with_reducible rfl
                simp only [Act.put, List.setIfInBounds_toArray, List.set_cons_succ, List.set_cons_zero]
                refine tk 7 (v := ?_) rfl (by kernel_rfl) (by rfl) ?_ (by assumption) ?_
                rotate_left
                · intro w' ⟨s0, s1, s2⟩; go_simp; first | done | with_reducible rfl
                simp only [Act.put, List.setIfInBounds_toArray, List.set_cons_succ, List.set_cons_zero]
                refine tk 8 (v := ?_) rfl (by kernel_rfl) (by rfl) ?_ (by assumption) ?_
                rotate_left
                · intro w' ⟨s0, s1, s2⟩; go_simp; first | done | with_reducible rfl
                simp only [Act.put, List.setIfInBounds_toArray, List.set_cons_succ, List.set_cons_zero]
                refine tk 9 (v := ?_) rfl (by kernel_rfl) (by rfl) ?_ (by assumption) ?_
                rotate_left
                · intro w' ⟨s0, s1, s2⟩; go_simp; first | done | with_reducible rfl
                simp only [Act.put, List.setIfInBounds_toArray, List.set_cons_succ, List.set_cons_zero]
                refine tk 10 (v := ?_) rfl (by kernel_rfl) (by rfl) ?_ (by assumption) ?_
                rotate_left
                · intro w' ⟨s0, s1, s2⟩; go_simp; first | done | with_reducible rfl
                simp only [Act.put, List.setIfInBounds_toArray, List.set_cons_succ, List.set_cons_zero]
                refine tk 11 (v := ?_) rfl (by kernel_rfl) (by rfl) ?_ (by assumption) ?_
                rotate_left
                · intro w' ⟨s0, s1, s2⟩; go_simp; first | done | with_reducible rfl
                simp only [Act.put, List.setIfInBounds_toArray, List.set_cons_succ, List.set_cons_zero]
                refine wpAnyH_ready (rs := [12]) (by kernel_rfl) (by simp) ?_
                refine AllReadyH.cons rfl (fun K hK => ?_) AllReadyH.nil
                go_simp
                refine hK.out _ _ hS1 (fun _ => ?_)
                clear hK K hS0 hS1
                refine wpAnyH_done (by kernel_rfl) ?_ _
                refine QN.normal ?_
                go_wp2
                go_roundw
                case rel => exact ⟨k + 1, by omega, by go_num, (unhide HN).1.drew, (unhide HN).2.1.drew, (unhide HN).2.2.1.drew, (unhide HN).2.2.2.keep rfl rfl (unhide HN).2.2.2.bel.drew⟩
                case measure => simp [intOf]; omega
            · have hk' : k = d.x := by omega
              subst hk'
              have y0 : wr.cell? ⟨w.heap.size, 0, none⟩ = some (.slice none 0 0) := by simp [World.cell?, hW.b0]
              have y1 : wr.cell? ⟨w.heap.size, 1, none⟩ = some (.slice none 0 0) := by simp [World.cell?, hW.b0]
              have y2 : wr.cell? ⟨w.heap.size, 2, none⟩ = some (.slice none 0 0) := by simp [World.cell?, hW.b0]
              have y3 : wr.cell? ⟨w.heap.size, 3, none⟩ = some (.int .i64 0) := by simp [World.cell?, hW.b0]
              have y4 : wr.cell? ⟨w.heap.size, 4, none⟩ = some (.int .i64 0) := by simp [World.cell?, hW.b0]
              have y5 : wr.cell? ⟨w.heap.size, 5, none⟩ = some (.int .i64 0) := by simp [World.cell?, hW.b0]
              have yf : ∀ q, wr.frozen? ⟨w.heap.size, q, none⟩ = false := fun q => by simp [World.frozen?, hW.b0]
              have hyl : w.heap.size < wr.heap.size := by omega
              have hX'' : IOwn wr (w.heap.size + 2) (.slice (some ⟨g2, 0, none⟩) d.x d.x) d.x d.X := hX'.congr (fun i hi => (if_pos hi).symm)
              obtain ⟨va, vc, ev⟩ : ∃ va vc, v0 = .slice va d.n vc := by
                obtain ⟨_, ⟨hv, h0⟩ | ⟨g, cap, cur, hv, _⟩⟩ := hO
                · exact ⟨none, 0, by rw [hv, h0]⟩
                · exact ⟨_, _, hv⟩
              subst ev
              have HFIN : Hid (∀ W' : World, Below (w.heap.size) w W' → wr.heap.size ≤ W'.heap.size → (∀ b, w.heap.size + 2 ≤ b → W'.heap[b]? = wr.heap[b]?) → DV d W' (.slice va d.n vc) (.slice (some ⟨g1, 0, none⟩) d.m d.m) (.slice (some ⟨g2, 0, none⟩) d.x d.x) w.heap.size W'.heap.size) := hide (fun W' hB hz hb => by
                have o0 : POwn W' w.heap.size (.slice va d.n vc) d.n d.L := own_mono (own_at hO (fun q e => hb q (hO.lt q e).1)) (by omega)
                have o1 : IOwn W' w.heap.size (.slice (some ⟨g1, 0, none⟩) d.m d.m) d.m d.I := own_mono (own_at hP (fun q e => hb q (hP.lt q e).1)) (by omega)
                have o2 : IOwn W' w.heap.size (.slice (some ⟨g2, 0, none⟩) d.x d.x) d.x d.X := own_mono (own_at hX'' (fun q e => hb q (hX''.lt q e).1)) (by omega)
                refine ⟨PrV.of o0, InV.of o1, InV.of o2, fun q e e' => ?_, fun q e e' => ?_, fun q e e' => ?_⟩
                · have := (unhide HV0 q e).2
                  have e2 : g1 = q := by simpa [Value.ownBlock] using e'
                  omega
                · have := (unhide HV0 q e).2
                  have e2 : g2 = q := by simpa [Value.ownBlock] using e'
                  omega
                · have e1 : g1 = q := by simpa [Value.ownBlock] using e
                  have e2 : g2 = q := by simpa [Value.ownBlock] using e'
                  omega)
              have HBW := hide hW.bel
              clear hX' hX'' hP hO hW hMr hfz
              go_wp2
              refine bodyPost_ret (v := DvV (.slice va d.n vc) (.slice (some ⟨g1, 0, none⟩) d.m d.m) (.slice (some ⟨g2, 0, none⟩) d.x d.x) d) (by simp [results, Tryd.results16, go_sem, y0, y1, y2, y3, y4, y5]) rfl ?_
              have hbel : Below w.heap.size w ((((((wr.setCell ⟨w.heap.size, 0, none⟩ (.slice va d.n vc)).setCell ⟨w.heap.size, 1, none⟩ (.slice (some ⟨g1, 0, none⟩) d.m d.m)).setCell ⟨w.heap.size, 2, none⟩ (.slice (some ⟨g2, 0, none⟩) d.x d.x)).setCell ⟨w.heap.size, 3, none⟩ (.int .i64 d.used)).setCell ⟨w.heap.size, 4, none⟩ (.int .i64 d.live)).setCell ⟨w.heap.size, 5, none⟩ (.int .i64 d.turns)) := by
                iterate 6 (refine Below.setCell ?_ (by exact Nat.le_refl _) _)
                exact unhide HBW
              refine ⟨⟨_, _, _, rfl, unhide HFIN _ hbel (by simp) (fun b hb => ?_)⟩, hbel⟩
              iterate 6 (refine (Deep.blk_setCell_other _ _ _ _ (by show b ≠ w.heap.size; omega)).trans ?_)
              rfl
end Go.Proofs.YtglcaejddckleaaDoor
namespace Go.Proofs.YtglcaejddckleaaDoor
open Go.RowKit
set_option linter.unusedVariables false

theorem keyB_of {d : Dc} {i : Nat} (h : Entry d i) (ht : (d.L i).turn ≠ 0) : keyB (d.L i).key = true := by
  rcases h with ⟨h0, _⟩ | ⟨_, _, h, _⟩
  · exact absurd h0 ht
  · exact h
open Classical in
noncomputable def putO (d : Dc) (c : Int) (kv v : Vl) : Dc := if dictOk d (hD d) = 0 ∧ c = 0 ∧ v.ok = true then putD hN d kv v else noD
theorem noD_dv (W : World) (lo hi : Nat) : DV noD W (.slice none 0 0) (.slice none 0 0) (.slice none 0 0) lo hi := ⟨.inl ⟨rfl, rfl⟩, .inl ⟨rfl, rfl⟩, .inl ⟨rfl, rfl⟩, (fun q e => by cases e), (fun q e => by cases e), (fun q e => by cases e)⟩
theorem noD_at (w : World) : DAt w none none none noD := ⟨.inl rfl, .inl rfl, .inl rfl⟩
theorem sound_inv {d : Dc} (h : Sound d (hD d)) (hW : WfD d) : Inv Ky hN d :=
  Sound.inv (hf := hN) (K := Ky) h keyLaw (fun i hi ht => ⟨keyB_of (h.d2.logOk.ent i hi) ht, (hW i hi).1⟩)
end Go.Proofs.YtglcaejddckleaaDoor
namespace Go.Proofs.YtglcaejddckleaaDoor
open Go.RowKit
set_option linter.unusedVariables false
attribute [local go_sem] run_store_float run_equalIn_float

/-- The boxes of a put. -/
structure PBox (w W : World) (la : Option Addr) (lc : Nat) (ia : Option Addr) (ic : Nat) (xa : Option Addr) (xc : Nat) (d : Dc) (v : Vl) : Prop where
  b0 : W.heap[w.heap.size]? = some (.cells #[.slice la d.n lc, .slice ia d.m ic, .slice xa d.x xc, .int .i64 d.used, .int .i64 d.live, .int .i64 d.turns] 28 (0, 0))
  b2 : W.heap[w.heap.size + 1 + 1]? = some (.cells #[.int .i64 v.kind, .int .i64 v.num, .float .f64 v.flt, .string v.str, .int .i64 v.ref] 32 (0, 0))
  b3 : W.heap[w.heap.size + 1 + 1 + 1]? = some (.cells #[.slice none 0 0, .slice none 0 0, .slice none 0 0, .int .i64 0, .int .i64 0, .int .i64 0] 28 (0, 0))
  bel : Below w.heap.size w W
section
variable {w W W' : World} {la ia xa : Option Addr} {lc ic xc : Nat} {d : Dc} {v : Vl}
theorem PBox.size (h : PBox w W la lc ia ic xa xc d v) : w.heap.size + 1 + 1 + 1 < W.heap.size := (Array.getElem?_eq_some_iff.1 h.b3).1
theorem PBox.keep (h : PBox w W la lc ia ic xa xc d v) {B : Nat} (hb : Below B W W') (hB : w.heap.size + 1 + 1 + 1 < B) : PBox w W' la lc ia ic xa xc d v :=
  ⟨(hb.block _ (by omega)).trans h.b0, (hb.block _ (by omega)).trans h.b2, (hb.block _ hB).trans h.b3, h.bel.trans (hb.mono (by omega))⟩
theorem PBox.dc (h : PBox w W la lc ia ic xa xc d v) : W.cell? ⟨w.heap.size, 0, none⟩ = some (.slice la d.n lc) ∧ W.cell? ⟨w.heap.size, 1, none⟩ = some (.slice ia d.m ic) ∧ W.cell? ⟨w.heap.size, 2, none⟩ = some (.slice xa d.x xc) ∧ W.cell? ⟨w.heap.size, 3, none⟩ = some (.int .i64 d.used) ∧ W.cell? ⟨w.heap.size, 4, none⟩ = some (.int .i64 d.live) ∧ W.cell? ⟨w.heap.size, 5, none⟩ = some (.int .i64 d.turns) :=
  ⟨by simp [World.cell?, h.b0], by simp [World.cell?, h.b0], by simp [World.cell?, h.b0], by simp [World.cell?, h.b0], by simp [World.cell?, h.b0], by simp [World.cell?, h.b0]⟩
theorem PBox.vc (h : PBox w W la lc ia ic xa xc d v) : W.cell? ⟨w.heap.size + 1 + 1, 0, none⟩ = some (.int .i64 v.kind) ∧ W.cell? ⟨w.heap.size + 1 + 1, 1, none⟩ = some (.int .i64 v.num) ∧ W.cell? ⟨w.heap.size + 1 + 1, 2, none⟩ = some (.float .f64 v.flt) ∧ W.cell? ⟨w.heap.size + 1 + 1, 3, none⟩ = some (.string v.str) ∧ W.cell? ⟨w.heap.size + 1 + 1, 4, none⟩ = some (.int .i64 v.ref) :=
  ⟨by simp [World.cell?, h.b2], by simp [World.cell?, h.b2], by simp [World.cell?, h.b2], by simp [World.cell?, h.b2], by simp [World.cell?, h.b2]⟩
theorem PBox.rc (h : PBox w W la lc ia ic xa xc d v) : W.cell? ⟨w.heap.size + 1 + 1 + 1, 0, none⟩ = some (.slice none 0 0) ∧ W.cell? ⟨w.heap.size + 1 + 1 + 1, 1, none⟩ = some (.slice none 0 0) ∧ W.cell? ⟨w.heap.size + 1 + 1 + 1, 2, none⟩ = some (.slice none 0 0) ∧ W.cell? ⟨w.heap.size + 1 + 1 + 1, 3, none⟩ = some (.int .i64 0) ∧ W.cell? ⟨w.heap.size + 1 + 1 + 1, 4, none⟩ = some (.int .i64 0) ∧ W.cell? ⟨w.heap.size + 1 + 1 + 1, 5, none⟩ = some (.int .i64 0) ∧ ∀ q, W.frozen? ⟨w.heap.size + 1 + 1 + 1, q, none⟩ = false :=
  ⟨by simp [World.cell?, h.b3], by simp [World.cell?, h.b3], by simp [World.cell?, h.b3], by simp [World.cell?, h.b3], by simp [World.cell?, h.b3], by simp [World.cell?, h.b3], fun q => by simp [World.frozen?, h.b3]⟩
end

theorem PrV.wide {f : Nat → Pr} {n : Nat} {w : World} {v : Value} {lo hi lo' hi' : Nat} (h : PrV f n w v lo hi) (h1 : lo' ≤ lo) (h2 : hi ≤ hi') : PrV f n w v lo' hi' := by
  rcases h with h | ⟨b, cp, N, g, e1, e2, e3, e4⟩
  · exact .inl h
  · exact .inr ⟨b, cp, N, g, e1, by omega, by omega, e4⟩
theorem InV.wide {f : Nat → Int} {n : Nat} {w : World} {v : Value} {lo hi lo' hi' : Nat} (h : InV f n w v lo hi) (h1 : lo' ≤ lo) (h2 : hi ≤ hi') : InV f n w v lo' hi' := by
  rcases h with h | ⟨b, cp, N, g, e1, e2, e3, e4⟩
  · exact .inl h
  · exact .inr ⟨b, cp, N, g, e1, by omega, by omega, e4⟩
theorem DV.wide {d : Dc} {w : World} {v0 v1 v2 : Value} {lo hi lo' hi' : Nat} (h : DV d w v0 v1 v2 lo hi) (h1 : lo' ≤ lo) (h2 : hi ≤ hi') : DV d w v0 v1 v2 lo' hi' := ⟨h.log.wide h1 h2, h.ints.wide h1 h2, h.index.wide h1 h2, h.a01, h.a02, h.a12⟩

set_option maxRecDepth 100000 in
set_option maxHeartbeats 8000000 in
theorem implPut (la : Option Addr) (lc : Nat) (ia : Option Addr) (ic : Nat) (xa : Option Addr) (xc : Nat) (d : Dc) (k v : Vl) (c : Int) (kv : Vl) (w : World) (hT : Tabs w) (hA : DAt w la ia xa d) (hS : Small d) (hW : WfD d) (hm : d.m ≤ 4000000) (hk : keyV k.kind k.num k.flt k.str k.ref = KV c kv.kind kv.num kv.flt kv.str kv.ref) (hh : c = 0 → Ky kv) :
    Calls Tryd.prog 7 #[Dv la lc ia ic xa xc d, V k.kind k.num k.flt k.str k.ref, V v.kind v.num v.flt v.str v.ref] w fun e w' => (∃ v0 v1 v2, e = .returned (DvV v0 v1 v2 (putO d c kv v)) ∧ DV (putO d c kv v) w' v0 v1 v2 w.heap.size w'.heap.size) ∧ Below w.heap.size w w' := by
  have HA := hide hA
  have HS := hide hS
  have HW := hide hW
  have HKV := hide hk
  have HH := hide hh
  have HT := hide hT
  clear hA hS hW hk hh hT
  have HP0 : Hid (PBox w ((((w.alloc (.cells #[.slice la d.n lc, .slice ia d.m ic, .slice xa d.x xc, .int .i64 d.used, .int .i64 d.live, .int .i64 d.turns] 28)).alloc (.cells #[.int .i64 k.kind, .int .i64 k.num, .float .f64 k.flt, .string k.str, .int .i64 k.ref] 32)).alloc (.cells #[.int .i64 v.kind, .int .i64 v.num, .float .f64 v.flt, .string v.str, .int .i64 v.ref] 32)).alloc (.cells #[.slice none 0 0, .slice none 0 0, .slice none 0 0, .int .i64 0, .int .i64 0, .int .i64 0] 28)) la lc ia ic xa xc d v) := hide (by
    refine ⟨?_, ?_, ?_, ((((Below.refl _ _).alloc (Nat.le_refl _) _).alloc (by simp) _).alloc (by simp; omega) _).alloc (by simp; omega) _⟩
    · iterate 3 (refine (Deep.blk_alloc_lt _ _ _ (by simp; try omega)).trans ?_)
      exact Deep.blk_alloc_new _ _
    · refine (Deep.blk_alloc_lt _ _ _ (by simp)).trans ?_
      have h1 := Deep.blk_alloc_new ((w.alloc (.cells #[.slice la d.n lc, .slice ia d.m ic, .slice xa d.x xc, .int .i64 d.used, .int .i64 d.live, .int .i64 d.turns] 28)).alloc (.cells #[.int .i64 k.kind, .int .i64 k.num, .float .f64 k.flt, .string k.str, .int .i64 k.ref] 32)) (.cells #[.int .i64 v.kind, .int .i64 v.num, .float .f64 v.flt, .string v.str, .int .i64 v.ref] 32)
      simpa using h1
    · have h1 := Deep.blk_alloc_new (((w.alloc (.cells #[.slice la d.n lc, .slice ia d.m ic, .slice xa d.x xc, .int .i64 d.used, .int .i64 d.live, .int .i64 d.turns] 28)).alloc (.cells #[.int .i64 k.kind, .int .i64 k.num, .float .f64 k.flt, .string k.str, .int .i64 k.ref] 32)).alloc (.cells #[.int .i64 v.kind, .int .i64 v.num, .float .f64 v.flt, .string v.str, .int .i64 v.ref] 32)) (.cells #[.slice none 0 0, .slice none 0 0, .slice none 0 0, .int .i64 0, .int .i64 0, .int .i64 0] 28)
      simpa using h1)
  go_enter Tryd.func7, Tryd.ntmps7
  go_wp2_with fail
  refine (ikey_any k.kind k.num k.flt k.str k.ref _).mono ?_
  rintro e w1 ⟨rfl, hb1⟩
  rw [unhide HKV]
  have hP1 := (unhide HP0).keep hb1 (unhide HP0).size
  have z1 := hP1.size
  have z1' : w.heap.size + 1 + 1 < w1.heap.size := by omega
  have z1'' : w.heap.size < w1.heap.size := by omega
  obtain ⟨W1, hW1⟩ : ∃ W1, W1 = w1.alloc (.cells #[.int .i64 c, .int .i64 kv.kind, .int .i64 kv.num, .float .f64 kv.flt, .string kv.str, .int .i64 kv.ref] 39) := ⟨_, rfl⟩
  have hP2 : PBox w W1 la lc ia ic xa xc d v := by rw [hW1]; exact hP1.keep ((Below.refl w1.heap.size w1).alloc (Nat.le_refl _) _) z1
  have zk : w1.heap.size < W1.heap.size := by rw [hW1]; simp
  clear hb1
  by_cases hc : c = 0
  case neg =>
    have HR : Hid (putO d c kv v = noD) := hide (if_neg (fun h => hc h.2.1))
    have hc' : (c != 0) = true := by simp [hc]
    obtain ⟨r0, r1, r2, r3, r4, r5, rf⟩ := hP1.rc
    have HB1 := hide hP1.bel
    clear hc hP1 hP2 hW1 zk HP0
    go_wp2
    refine bodyPost_ret (v := .agg #[.slice none 0 0, .slice none 0 0, .slice none 0 0, .int .i64 0, .int .i64 0, .int .i64 0]) (by simp [results, Tryd.results7, go_sem, r0, r1, r2, r3, r4, r5, z1]) rfl ⟨⟨.slice none 0 0, .slice none 0 0, .slice none 0 0, by rw [unhide HR]; rfl, by rw [unhide HR]; exact noD_dv _ _ _⟩, ?_⟩
    refine Below.alloc ?_ (by simp; omega) _
    iterate 6 (refine Below.setCell ?_ (by show w.heap.size ≤ w.heap.size + 1 + 1 + 1; omega) _)
    exact unhide HB1
  subst hc
  obtain ⟨v0, v1, v2, v3, v4⟩ := hP1.vc
  clear hP1 HP0
  have HP2 := hide hP2
  have HW1 : Hid (W1.cell? ⟨w1.heap.size, 1, none⟩ = some (.int .i64 kv.kind) ∧ W1.cell? ⟨w1.heap.size, 2, none⟩ = some (.int .i64 kv.num) ∧ W1.cell? ⟨w1.heap.size, 3, none⟩ = some (.float .f64 kv.flt) ∧ W1.cell? ⟨w1.heap.size, 4, none⟩ = some (.string kv.str) ∧ W1.cell? ⟨w1.heap.size, 5, none⟩ = some (.int .i64 kv.ref)) := hide (by rw [hW1]; refine ⟨?_, ?_, ?_, ?_, ?_⟩ <;> simp [go_sem])
  clear hP2
  go_wp2_with fail
  rw [← hW1]
  clear hW1 v0 v1 v2 v3 v4
  refine (isValid_any v.kind v.num v.flt v.str v.ref _).mono ?_
  rintro e w2 ⟨rfl, hb2⟩
  have hP3 := (unhide HP2).keep hb2 (unhide HP2).size
  have HKC : Hid (w2.cell? ⟨w1.heap.size, 1, none⟩ = some (.int .i64 kv.kind) ∧ w2.cell? ⟨w1.heap.size, 2, none⟩ = some (.int .i64 kv.num) ∧ w2.cell? ⟨w1.heap.size, 3, none⟩ = some (.float .f64 kv.flt) ∧ w2.cell? ⟨w1.heap.size, 4, none⟩ = some (.string kv.str) ∧ w2.cell? ⟨w1.heap.size, 5, none⟩ = some (.int .i64 kv.ref)) := hide ⟨(hb2.cell (p := ⟨w1.heap.size, 1, none⟩) zk).trans (unhide HW1).1, (hb2.cell (p := ⟨w1.heap.size, 2, none⟩) zk).trans (unhide HW1).2.1, (hb2.cell (p := ⟨w1.heap.size, 3, none⟩) zk).trans (unhide HW1).2.2.1, (hb2.cell (p := ⟨w1.heap.size, 4, none⟩) zk).trans (unhide HW1).2.2.2.1, (hb2.cell (p := ⟨w1.heap.size, 5, none⟩) zk).trans (unhide HW1).2.2.2.2⟩
  have zk2 := Nat.lt_of_lt_of_le zk hb2.size
  have z2 := hP3.size
  clear hb2 HP2 HW1
  by_cases hv : validB v.kind v.num v.flt v.str v.ref = true
  case neg =>
    have HR : Hid (putO d 0 kv v = noD) := hide (if_neg (fun h => hv h.2.2))
    have hv' : validB v.kind v.num v.flt v.str v.ref = false := by simpa using hv
    rw [hv']
    obtain ⟨r0, r1, r2, r3, r4, r5, rf⟩ := hP3.rc
    have HB := hide hP3.bel
    clear hv hv' hP3
    go_wp2
    refine bodyPost_ret (v := .agg #[.slice none 0 0, .slice none 0 0, .slice none 0 0, .int .i64 0, .int .i64 0, .int .i64 0]) (by simp [results, Tryd.results7, go_sem, r0, r1, r2, r3, r4, r5]) rfl ⟨⟨.slice none 0 0, .slice none 0 0, .slice none 0 0, by rw [unhide HR]; rfl, by rw [unhide HR]; exact noD_dv _ _ _⟩, ?_⟩
    iterate 6 (refine Below.setCell ?_ (by show w.heap.size ≤ w.heap.size + 1 + 1 + 1; omega) _)
    exact unhide HB
  rw [hv]
  obtain ⟨q0, q1, q2, q3, q4, q5⟩ := hP3.dc
  have HP3 := hide hP3
  have HV := hide hv
  clear hP3 hv
  go_wp2_with fail
  refine (implOk la lc ia ic xa xc d _ (lastsT _ _ (unhide HT) (unhide HP3).bel) ((unhide HA).below (unhide HP3).bel) (unhide HS) (unhide HW)).mono ?_
  rintro e w3 ⟨rfl, hb3⟩
  have hP4 := (unhide HP3).keep hb3 (unhide HP3).size
  have zk3 := Nat.lt_of_lt_of_le zk2 hb3.size
  have z3 := hP4.size
  have HKC3 : Hid (w3.cell? ⟨w1.heap.size, 1, none⟩ = some (.int .i64 kv.kind) ∧ w3.cell? ⟨w1.heap.size, 2, none⟩ = some (.int .i64 kv.num) ∧ w3.cell? ⟨w1.heap.size, 3, none⟩ = some (.float .f64 kv.flt) ∧ w3.cell? ⟨w1.heap.size, 4, none⟩ = some (.string kv.str) ∧ w3.cell? ⟨w1.heap.size, 5, none⟩ = some (.int .i64 kv.ref)) := hide ⟨(hb3.cell (p := ⟨w1.heap.size, 1, none⟩) zk2).trans (unhide HKC).1, (hb3.cell (p := ⟨w1.heap.size, 2, none⟩) zk2).trans (unhide HKC).2.1, (hb3.cell (p := ⟨w1.heap.size, 3, none⟩) zk2).trans (unhide HKC).2.2.1, (hb3.cell (p := ⟨w1.heap.size, 4, none⟩) zk2).trans (unhide HKC).2.2.2.1, (hb3.cell (p := ⟨w1.heap.size, 5, none⟩) zk2).trans (unhide HKC).2.2.2.2⟩
  clear hb3 HP3 HKC q0 q1 q2 q3 q4 q5 z2 zk2
  by_cases hok : dictOk d (hD d) = 0
  case neg =>
    have HR : Hid (putO d 0 kv v = noD) := hide (if_neg (fun h => hok h.1))
    have hk' : (dictOk d (hD d) != 0) = true := by simp [hok]
    obtain ⟨r0, r1, r2, r3, r4, r5, rf⟩ := hP4.rc
    have HB := hide hP4.bel
    clear hok hP4
    generalize dictOk d (hD d) = ok at hk'
    go_wp2
    refine bodyPost_ret (v := .agg #[.slice none 0 0, .slice none 0 0, .slice none 0 0, .int .i64 0, .int .i64 0, .int .i64 0]) (by simp [results, Tryd.results7, go_sem, r0, r1, r2, r3, r4, r5]) rfl ⟨⟨.slice none 0 0, .slice none 0 0, .slice none 0 0, by rw [unhide HR]; rfl, by rw [unhide HR]; exact noD_dv _ _ _⟩, ?_⟩
    iterate 6 (refine Below.setCell ?_ (by show w.heap.size ≤ w.heap.size + 1 + 1 + 1; omega) _)
    exact unhide HB
  have HR : Hid (putO d 0 kv v = putD hN d kv v) := hide (if_pos ⟨hok, rfl, unhide HV⟩)
  have hSd := sound_of hok
  have hInv := sound_inv hSd (unhide HW)
  have hKy := unhide HH trivial
  have HPI := hide (putD_inv keyLaw hInv hKy hKy.1 (unhide HV))
  have hpm := putD_m (v := v) keyLaw hInv hKy
  have HI := hide hInv
  have HSd := hide hSd
  have HKy := hide hKy
  rw [hok]
  obtain ⟨q0, q1, q2, q3, q4, q5⟩ := hP4.dc
  have HP4 := hide hP4
  clear hP4 hSd hInv hKy hok
  go_wp2_with fail
  refine (openBook_own la lc ia ic xa xc d _ ((unhide HA).below (unhide HP4).bel) (unhide HS) (unhide HSd).d3 (unhide HSd).d4).mono ?_
  rintro e w4 ⟨⟨bk, R0, R1, R2, E, S, rfl, hBk, hSt⟩, hb4⟩
  have hM4 := BMut.of_open hBk hSt (unhide HS)
  have hbk := hSt.gb
  have hP5 := (unhide HP4).keep hb4 (unhide HP4).size
  have z4 := hP5.size
  have zk4 := Nat.lt_of_lt_of_le zk3 hb4.size
  obtain ⟨v0, v1, v2, v3, v4⟩ := hP5.vc
  have k1 := (hb4.cell (p := ⟨w1.heap.size, 1, none⟩) zk3).trans (unhide HKC3).1
  have k2 := (hb4.cell (p := ⟨w1.heap.size, 2, none⟩) zk3).trans (unhide HKC3).2.1
  have k3 := (hb4.cell (p := ⟨w1.heap.size, 3, none⟩) zk3).trans (unhide HKC3).2.2.1
  have k4 := (hb4.cell (p := ⟨w1.heap.size, 4, none⟩) zk3).trans (unhide HKC3).2.2.2.1
  have k5 := (hb4.cell (p := ⟨w1.heap.size, 5, none⟩) zk3).trans (unhide HKC3).2.2.2.2
  have HP5 := hide hP5
  have HM4 := hide hM4
  clear hb4 hBk hSt hM4 hP5 HP4 HKC3 q0 q1 q2 q3 q4 q5
  go_wp2_with fail
  have hNG : 4 ≤ bk := by have := (unhide HT).sz; omega
  refine (put_any Tabs lastsT hN Ky keyLaw hsI_all bk (fun a b ha hb => ha.below hb hNG) _ _ R2 E S d kv v w4 (lastsT _ _ (unhide HT) (unhide HP5).bel) (unhide HM4) (unhide HS) hm (unhide HI) (unhide HKy) (unhide HKy).1 (unhide HV)).mono ?_
  rintro e w5 ⟨⟨⟨uu, rfl⟩, r0', r1', R2', E2, S2, hM5⟩, hb5⟩
  have hP6 := (unhide HP5).keep hb5 (by omega)
  have HM5 := hide hM5
  have HP6 := hide hP6
  have z5 := hP6.size
  clear hb5 hM5 hP6 HM4 HP5 v0 v1 v2 v3 v4 k1 k2 k3 k4 k5
  generalize hP : putD hN d kv v = P at *
  clear hP
  go_wp2_with fail
  refine (dict_any bk r0' r1' R2' E2 S2 P w5 (unhide HM5) ((unhide HPI).small (by omega)) (fun j hj => by
    rcases (unhide HPI).i0.ints j hj with e | e <;> omega) (fun j hj => by
    rcases (unhide HPI).i0.idx.range j hj with e | e | ⟨e1, e2, _⟩
    · exact .inl e
    · exact .inr (.inl e)
    · exact .inr (.inr ⟨e1, by omega⟩))).mono ?_
  rintro e w6 ⟨⟨u0, u1, u2, rfl, hDV⟩, hb6⟩
  have hP7 := (unhide HP6).keep hb6 z5
  obtain ⟨r0, r1, r2, r3, r4, r5, rf⟩ := hP7.rc
  have z6 := hP7.size
  have HB7 := hide hP7.bel
  have z56 := hb6.size
  obtain ⟨ua, uc, ub, ud, ue, uf, e0, e1, e2, -⟩ := hDV.at
  have HDV := hide hDV
  subst e0 e1 e2
  clear hDV hb6 hP7 HP6 HM5
  go_wp2
  refine bodyPost_ret (v := DvV (.slice ua P.n uc) (.slice ub P.m ud) (.slice ue P.x uf) P) (by simp [results, Tryd.results7, go_sem, r0, r1, r2, r3, r4, r5]) rfl ⟨⟨_, _, _, by rw [unhide HR], ?_⟩, ?_⟩
  · rw [unhide HR]
    refine DV.wide (DV.keep (unhide HDV) (fun b hb _ => ?_)) (by omega) (by simp)
    iterate 6 (refine (Deep.blk_setCell_other _ _ _ _ (by show b ≠ w.heap.size + 1 + 1 + 1; omega)).trans ?_)
    rfl
  · iterate 6 (refine Below.setCell ?_ (by show w.heap.size ≤ w.heap.size + 1 + 1 + 1; omega) _)
    exact unhide HB7
end Go.Proofs.YtglcaejddckleaaDoor
namespace Go.Proofs.YtglcaejddckleaaDoor
open Go.RowKit
set_option linter.unusedVariables false

theorem wByte_at (a : Option Addr) (len cap : Nat) (i : Nat) (w : World) {b : Nat} (hcode : CodeAt w b a len) (hle : (len : Int) ≤ 1048576) (hi : i < 1000) :
    ∃ z : Int, 0 ≤ z ∧ z < 256 ∧ ∀ (w' : World), (∀ k, k < b → w'.heap[k]? = w.heap[k]?) → Calls Tryd.prog 5 #[.slice a len cap, .int .i64 i] w' fun e w'' => e = .returned (.int .i64 z) ∧ w'' = w' := by
  by_cases h0 : len = 0
  · subst h0
    refine ⟨0, by omega, by omega, fun w' _ => ?_⟩
    clear hcode
    go_enter Tryd.func5, Tryd.ntmps5
    go_wp2
    go_ret
    exact ⟨rfl, rfl⟩
  · obtain ⟨k, off, rfl, hk, hc⟩ := hcode.2.resolve_left h0
    obtain ⟨z, hz, hz0, hz1⟩ := hc (i % len) (Nat.mod_lt _ (by omega))
    refine ⟨z, hz0, by omega, fun w' hw' => ?_⟩
    have hz' : w'.cell? ⟨k, off + i % len, none⟩ = some (.int .u8 z) := (World.cell?_of_block (hw' k hk)).trans hz
    have hne : ((len : Int) == 0) = false := by simp; omega
    have hne2 : ¬ (len : Int) = 0 := by omega
    have hmod : Int.tmod (i : Int) (len : Int) = ((i % len : Nat) : Int) := by rw [Int.tmod_eq_emod_of_nonneg (by omega)]; rfl
    have hp : ((i % len : Nat) : Int) < (len : Int) := by have := Nat.mod_lt i (show 0 < len by omega); omega
    have hp2 : (i % len : Nat) < len := Nat.mod_lt i (by omega)
    clear hcode hc hw'
    go_enter Tryd.func5, Tryd.ntmps5
    go_wp2
    go_ret
    exact ⟨rfl, rfl⟩
end Go.Proofs.YtglcaejddckleaaDoor
namespace Go.Proofs.YtglcaejddckleaaDoor
open Go.RowKit Go.Shelf
set_option linter.unusedVariables false
attribute [local go_sem] run_store_float run_equalIn_float

/-- A dict in a box that is written. -/
structure DX (w : World) (b : Nat) (la : Option Addr) (lc : Nat) (ia : Option Addr) (ic : Nat) (xa : Option Addr) (xc : Nat) (d : Dc) : Prop where
  lt : b < w.heap.size
  c0 : w.cell? ⟨b, 0, none⟩ = some (.slice la d.n lc)
  c1 : w.cell? ⟨b, 1, none⟩ = some (.slice ia d.m ic)
  c2 : w.cell? ⟨b, 2, none⟩ = some (.slice xa d.x xc)
  c3 : w.cell? ⟨b, 3, none⟩ = some (.int .i64 d.used)
  c4 : w.cell? ⟨b, 4, none⟩ = some (.int .i64 d.live)
  c5 : w.cell? ⟨b, 5, none⟩ = some (.int .i64 d.turns)
  fz : ∀ o, w.frozen? ⟨b, o, none⟩ = false
  at' : DAt w la ia xa d
  t : Tabs w
  inv : Inv Ky hN d
  wf : WfD d
theorem DX.below {w w' : World} {b : Nat} {la : Option Addr} {lc : Nat} {ia : Option Addr} {ic : Nat} {xa : Option Addr} {xc : Nat} {d : Dc} (h : DX w b la lc ia ic xa xc d) (hb : Below w.heap.size w w') : DX w' b la lc ia ic xa xc d :=
  ⟨Nat.lt_of_lt_of_le h.lt hb.size, (hb.cell (p := ⟨b, 0, none⟩) h.lt).trans h.c0, (hb.cell (p := ⟨b, 1, none⟩) h.lt).trans h.c1, (hb.cell (p := ⟨b, 2, none⟩) h.lt).trans h.c2, (hb.cell (p := ⟨b, 3, none⟩) h.lt).trans h.c3, (hb.cell (p := ⟨b, 4, none⟩) h.lt).trans h.c4, (hb.cell (p := ⟨b, 5, none⟩) h.lt).trans h.c5, fun o => (hb.frozen (p := ⟨b, o, none⟩) h.lt).trans (h.fz o), h.at'.below hb, h.t.below hb h.t.sz, h.inv, h.wf⟩
/-- A dict stored into a box. -/
def set6 (w : World) (b : Nat) (v0 v1 v2 : Value) (d : Dc) : World := (((((w.setCell ⟨b, 0, none⟩ v0).setCell ⟨b, 1, none⟩ v1).setCell ⟨b, 2, none⟩ v2).setCell ⟨b, 3, none⟩ (.int .i64 d.used)).setCell ⟨b, 4, none⟩ (.int .i64 d.live)).setCell ⟨b, 5, none⟩ (.int .i64 d.turns)
theorem set6_other {w : World} {b q : Nat} {v0 v1 v2 : Value} {d : Dc} (h : q ≠ b) : (set6 w b v0 v1 v2 d).heap[q]? = w.heap[q]? := by
  unfold set6
  rw [Deep.blk_setCell_other _ _ _ _ (by exact h), Deep.blk_setCell_other _ _ _ _ (by exact h), Deep.blk_setCell_other _ _ _ _ (by exact h), Deep.blk_setCell_other _ _ _ _ (by exact h), Deep.blk_setCell_other _ _ _ _ (by exact h), Deep.blk_setCell_other _ _ _ _ (by exact h)]
theorem set6_below {w : World} {b B : Nat} {v0 v1 v2 : Value} {d : Dc} (hb : B ≤ b) : Below B w (set6 w b v0 v1 v2 d) := by
  unfold set6
  iterate 6 (refine Below.setCell ?_ (by exact hb) _)
  exact Below.refl _ _
theorem set6_size {w : World} {b : Nat} {v0 v1 v2 : Value} {d : Dc} : (set6 w b v0 v1 v2 d).heap.size = w.heap.size := by
  unfold set6
  simp
/-- A put, and its answer stored into the box. -/
theorem DX.store {w w' : World} {b : Nat} {la : Option Addr} {lc : Nat} {ia : Option Addr} {ic : Nat} {xa : Option Addr} {xc : Nat} {d e : Dc} {u0 u1 u2 : Value} (h : DX w b la lc ia ic xa xc d) (hb : Below w.heap.size w w') (hD : DV e w' u0 u1 u2 w.heap.size w'.heap.size) (hI : Inv Ky hN e) (hW : WfD e) (hB : 4 ≤ b) :
    ∃ la lc ia ic xa xc, u0 = .slice la e.n lc ∧ u1 = .slice ia e.m ic ∧ u2 = .slice xa e.x xc ∧ DX (set6 w' b u0 u1 u2 e) b la lc ia ic xa xc e := by
  have h' := h.below hb
  have hne : ∀ q, w.heap.size ≤ q → q ≠ b := fun q hq e => by have := h.lt; omega
  obtain ⟨la, lc, ia, ic, xa, xc, e0, e1, e2, hA⟩ := (hD.keep (w' := set6 w' b u0 u1 u2 e) (fun q h1 _ => set6_other (hne q h1))).at
  have hlt := h'.lt
  have k0 := h'.c0
  have k1 := h'.c1
  have k2 := h'.c2
  have k3 := h'.c3
  have k4 := h'.c4
  have k5 := h'.c5
  refine ⟨la, lc, ia, ic, xa, xc, e0, e1, e2, by rw [set6_size]; exact hlt, ?_, ?_, ?_, ?_, ?_, ?_, fun o => ?_, hA, h'.t.below (set6_below hB) (Nat.le_refl _), hI, hW⟩
  · rw [e0]; unfold set6; simp [go_sem, k0]
  · rw [e1]; unfold set6; simp [go_sem, k1]
  · rw [e2]; unfold set6; simp [go_sem, k2]
  · unfold set6; simp [go_sem, k3]
  · unfold set6; simp [go_sem, k4]
  · unfold set6; simp [go_sem, k5]
  · have := h'.fz o
    unfold set6
    simp [go_sem, this]
theorem keyV_of {k : Vl} (hk : Ky k) : keyV k.kind k.num k.flt k.str k.ref = KV 0 k.kind k.num k.flt k.str k.ref := by
  have h := hk.1
  unfold keyB Vl.ok at h
  unfold keyV
  by_cases h3 : k.kind = 3
  · simp [h3] at h ⊢
    simp [h]
  · simp [h3] at h ⊢
    simp [h]
theorem ok_intz (n : Int) : (⟨2, n, 0, ⟨#[]⟩, 0⟩ : Vl).ok = true := by unfold Vl.ok validB; simp [fz_nil]
theorem ok_nilz : (⟨0, 0, 0, ⟨#[]⟩, 0⟩ : Vl).ok = true := by unfold Vl.ok validB; simp [fz_nil]
theorem wf_intz (n : Int) : Wf ⟨2, n, 0, ⟨#[]⟩, 0⟩ := ⟨by show (0 : Nat) < _; decide, Nat.zero_le _⟩
theorem wf_nilz : Wf ⟨0, 0, 0, ⟨#[]⟩, 0⟩ := ⟨by decide, by decide⟩
theorem ok_zero {d : Dc} (h : Inv Ky hN d) : dictOk d (hD d) = 0 := (h.sound keyLaw).zero
/-- DictPut of a sound dict in a box, its answer in pure words. -/
theorem DX.put {w : World} {b : Nat} {la : Option Addr} {lc : Nat} {ia : Option Addr} {ic : Nat} {xa : Option Addr} {xc : Nat} {d : Dc} (h : DX w b la lc ia ic xa xc d) (hm : d.m ≤ 4000000) {k v : Vl} (hk : Ky k) (hv : v.ok = true) (hvw : Wf v) (hB : 4 ≤ b) :
    Calls Tryd.prog 7 #[Dv la lc ia ic xa xc d, V k.kind k.num k.flt k.str k.ref, V v.kind v.num v.flt v.str v.ref] w fun e w' => (∃ la lc ia ic xa xc, e = .returned (Dv la lc ia ic xa xc (putD hN d k v)) ∧ DX (set6 w' b (.slice la (putD hN d k v).n lc) (.slice ia (putD hN d k v).m ic) (.slice xa (putD hN d k v).x xc) (putD hN d k v)) b la lc ia ic xa xc (putD hN d k v) ∧ (putD hN d k v).m ≤ d.m + 4002) ∧ Below w.heap.size w w' := by
  refine (implPut la lc ia ic xa xc d k v 0 k w h.t h.at' (h.inv.small (by omega)) h.wf hm (keyV_of hk) (fun _ => hk)).mono ?_
  rintro e w' ⟨⟨u0, u1, u2, rfl, hDV⟩, hb⟩
  have he : putO d 0 k v = putD hN d k v := if_pos ⟨ok_zero h.inv, rfl, hv⟩
  rw [he] at hDV ⊢
  obtain ⟨la', lc', ia', ic', xa', xc', rfl, rfl, rfl, hX⟩ := h.store hb hDV (putD_inv keyLaw h.inv hk hk.1 hv) (h.wf.put hk.2 hvw) hB
  exact ⟨⟨la', lc', ia', ic', xa', xc', rfl, hX, putD_m keyLaw h.inv hk⟩, hb⟩
end Go.Proofs.YtglcaejddckleaaDoor
namespace Go.Proofs.YtglcaejddckleaaDoor
open Go.RowKit Go.Shelf
set_option linter.unusedVariables false
attribute [local go_sem] run_store_float run_equalIn_float

abbrev κI (i : Nat) : Vl := intV (i : Int)
theorem int_keysI : Keys κI (fun _ => True) := int_keys
/-- The ints that have come behind i steps. -/
def Came (t N i j : Nat) : Prop := ∃ q, q < i ∧ j = 1 + (q * t) % N
theorem came_all {t N : Nat} (hN : 0 < N) (hg : Nat.gcd t N = 1) (j : Nat) : Came t N N j ↔ 1 ≤ j ∧ j ≤ N := by
  constructor
  · rintro ⟨q, _, rfl⟩
    have := Nat.mod_lt (q * t) hN
    omega
  · rintro ⟨h1, h2⟩
    obtain ⟨i, i1, i2⟩ := cover hN hg (r := j - 1) (by omega)
    exact ⟨i, i1, by omega⟩
theorem came_succ {t N i j : Nat} : (Came t N i j ∨ j = 1 + (i * t) % N) ↔ Came t N (i + 1) j := by
  constructor
  · rintro (⟨q, h1, h2⟩ | h)
    · exact ⟨q, by omega, h2⟩
    · exact ⟨i, by omega, h⟩
  · rintro ⟨q, h1, h2⟩
    by_cases e : q = i
    · subst e; exact .inr h2
    · exact .inl ⟨q, by omega, h2⟩
/-- The dict of the law behind i puts. -/
structure Sm (w0 w : World) (b : Nat) (la : Option Addr) (lc : Nat) (ia : Option Addr) (ic : Nat) (xa : Option Addr) (xc : Nat) (d : Dc) (t N i : Nat) : Prop where
  x : DX w b la lc ia ic xa xc d
  keys : KeysAre κI d (Came t N i)
  live : d.live ≤ i
  turns : d.turns ≤ i
  m : d.m ≤ 4002 * i
  bel : Below w0.heap.size w0 w

set_option maxRecDepth 100000 in
set_option maxHeartbeats 8000000 in
theorem law_small (a : Option Addr) (len cap : Nat) (w : World) (hT : Tabs w) (hcode : CodeAt w w.heap.size a len) (hle : (len : Int) ≤ 1048576) :
    Calls Tryd.prog 3 #[.slice a len cap] w fun e w' => e = .returned (.bool true) ∧ Below w.heap.size w w' := by
  obtain ⟨z0, g0, g1, hw0⟩ := wByte_at a len cap 0 w hcode hle (by omega)
  obtain ⟨z1, g2, g3, hw1⟩ := wByte_at a len cap 1 w hcode hle (by omega)
  have HT := hide hT
  have HW0 := hide (hw0 w (fun _ _ => rfl))
  have HW1 := hide (hw1 w (fun _ _ => rfl))
  obtain ⟨N, hNn⟩ : ∃ N : Nat, 1 + z0 % 200 = (N : Int) := ⟨(1 + z0 % 200).toNat, by omega⟩
  obtain ⟨s, hs⟩ : ∃ s : Nat, 1 + z1 % 200 = (s : Int) := ⟨(1 + z1 % 200).toNat, by omega⟩
  have hN1 : 1 ≤ N := by omega
  have hN2 : N ≤ 200 := by omega
  have hs1 : 1 ≤ s := by omega
  have hs2 : s ≤ 200 := by omega
  clear hcode hT hw0 hw1
  go_enter Tryd.func3, Tryd.ntmps3
  go_wp2_with fail
  refine (unhide HW0).mono ?_
  rintro e w' ⟨rfl, rfl⟩
  go_wp2_with fail
  refine (unhide HW1).mono ?_
  rintro e w'' ⟨rfl, rfl⟩
  clear HW0 HW1
  go_wp2_with fail
  clear hNn hs g0 g1 g2 g3
  go_loopw [4] (fun v wr => ∃ t : Nat, v = .int .i64 t ∧ t ≤ N * 200 + 1 ∧ wr = w'') (fun v _ => N * 200 + 1 - (intOf v).toNat)
  case atStart => exact ⟨s, rfl, by omega, rfl⟩
  case round =>
    obtain ⟨t, rfl, ht, rfl⟩ := hrel
    go_wp2_with fail
    refine (wGcd_any t N (by omega) (by omega) _).mono ?_
    rintro e w3 ⟨rfl, rfl⟩
    by_cases hg : Nat.gcd t N = 1
    case neg =>
      have hgd : (((Nat.gcd t N : Nat) : Int) != 1) = true := by simp; omega
      have htT : t ≠ N * 200 + 1 := fun e => hg (by rw [e]; exact gcd_one N 200)
      go_wp2
      go_roundw
      case rel => exact ⟨t + 1, by go_num, by omega, by first | rfl | trivial⟩
      case measure => simp [intOf]; omega
    have hgd : (((Nat.gcd t N : Nat) : Int) != 1) = false := by simp; omega
    obtain ⟨D, hD⟩ : ∃ D, D = w3.heap.size := ⟨_, rfl⟩
    obtain ⟨Y, hY⟩ : ∃ Y, Y = w3.alloc (.cells #[.slice none 0 0, .slice none 0 0, .slice none 0 0, .int .i64 0, .int .i64 0, .int .i64 0] 28) := ⟨_, rfl⟩
    have hbY : Below w3.heap.size w3 Y := by rw [hY]; exact (Below.refl _ _).alloc (Nat.le_refl _) _
    have HS0 : Hid (Sm w3 Y D none 0 none 0 none 0 noD t N 0) := hide ⟨⟨by rw [hY, hD]; simp, by rw [hY, hD]; simp [go_sem, noD], by rw [hY, hD]; simp [go_sem, noD], by rw [hY, hD]; simp [go_sem, noD], by rw [hY, hD]; simp [go_sem, noD], by rw [hY, hD]; simp [go_sem, noD], by rw [hY, hD]; simp [go_sem, noD], fun o => by rw [hY, hD]; simp [go_sem], noD_at _, (unhide HT).below hbY (unhide HT).sz, noD_inv, WfD.noD⟩, (KeysAre.none κI).congr (fun j => ⟨False.elim, fun ⟨q, h, _⟩ => by omega⟩), Int.le_refl _, Int.le_refl _, Nat.zero_le _, hbY⟩
    have HG := hide hg
    have HNG : Hid (4 ≤ D) := hide (by rw [hD]; exact (unhide HT).sz)
    have HDL : Hid (w3.heap.size ≤ D) := hide (by rw [hD]; exact Nat.le_refl _)
    clear hbY hg
    go_wp2_with fail
    rw [← hY, ← hD]
    clear hY hD
    go_loopw [6] (fun v wr => ∃ (i : Nat) (la : Option Addr) (lc : Nat) (ia : Option Addr) (ic : Nat) (xa : Option Addr) (xc : Nat) (d : Dc), v = .int .i64 i ∧ i ≤ N ∧ Sm w3 wr D la lc ia ic xa xc d t N i) (fun v _ => N - (intOf v).toNat)
    case atStart => exact ⟨0, none, 0, none, 0, none, 0, noD, rfl, by omega, unhide HS0⟩
    case round =>
      clear HS0
      obtain ⟨i, la, lc, ia, ic, xa, xc, d, rfl, hi, hS⟩ := hrel
      have HS := hide hS
      have c0 := hS.x.c0
      have c1 := hS.x.c1
      have c2 := hS.x.c2
      have c3 := hS.x.c3
      have c4 := hS.x.c4
      have c5 := hS.x.c5
      have lD := hS.x.lt
      have hm0 := hS.m
      clear hS
      by_cases hlt : i < N
      · have hp0 : 0 ≤ (i : Int) * (t : Int) := Int.mul_nonneg (by omega) (by omega)
        have hp1 : (i : Int) * (t : Int) ≤ 200 * 40001 := Int.mul_le_mul (by omega) (by omega) (by omega) (by omega)
        have hNz : ¬ (N : Int) = 0 := by omega
        obtain ⟨k, hk⟩ : ∃ k : Nat, k = 1 + (i * t) % N := ⟨_, rfl⟩
        have hk1 : 1 + Int.tmod ((i : Int) * (t : Int)) (N : Int) = (k : Int) := by
          rw [Int.tmod_eq_emod_of_nonneg hp0, hk]
          simp [Int.natCast_emod]
        have hk1' : 1 + ((i : Int) * (t : Int)) % (N : Int) = (k : Int) := by rw [← Int.tmod_eq_emod_of_nonneg hp0]; exact hk1
        have hk2 : k ≤ 200 := by rw [hk]; have := Nat.mod_lt (i * t) hN1; omega
        have hk3 : 1 ≤ k := by rw [hk]; omega
        have hkk : (k : Int) * (k : Int) ≤ 200 * 200 := Int.mul_le_mul (by omega) (by omega) (by omega) (by omega)
        have hkk0 : 0 ≤ (k : Int) * (k : Int) := Int.mul_nonneg (by omega) (by omega)
        have HK := hide hk
        clear hk
        go_wp2_with fail
        refine ((unhide HS).x.put (by omega) (k := κI k) (v := ⟨2, (k : Int) * (k : Int), 0, ⟨#[]⟩, 0⟩) (int_keys.ky k trivial) (ok_intz _) (wf_intz _) (unhide HNG)).mono ?_
        rintro e w4 ⟨⟨la', lc', ia', ic', xa', xc', rfl, hX, hm⟩, hb⟩
        have fz := fun o => (hb.frozen (p := ⟨D, o, none⟩) lD).trans ((unhide HS).x.fz o)
        have f0 := (hb.cell (p := ⟨D, 0, none⟩) lD).trans c0
        have f1 := (hb.cell (p := ⟨D, 1, none⟩) lD).trans c1
        have f2 := (hb.cell (p := ⟨D, 2, none⟩) lD).trans c2
        have f3 := (hb.cell (p := ⟨D, 3, none⟩) lD).trans c3
        have f4 := (hb.cell (p := ⟨D, 4, none⟩) lD).trans c4
        have f5 := (hb.cell (p := ⟨D, 5, none⟩) lD).trans c5
        have hkp := (unhide HS).keys.put int_keysI (fun _ _ => trivial) (i := k) trivial (unhide HS).x.inv (v := ⟨2, (k : Int) * (k : Int), 0, ⟨#[]⟩, 0⟩) (ok_intz _) (by show (2 : Int) ≠ 0; decide) (by have := (unhide HS).live; omega) (by have := (unhide HS).turns; omega)
        have hb4 : Below w3.heap.size w3 w4 := (unhide HS).bel.trans (hb.mono (unhide HS).bel.size)
        have HS1 : Hid (Sm w3 (set6 w4 D (.slice la' (putD hN d (κI k) ⟨2, (k : Int) * (k : Int), 0, ⟨#[]⟩, 0⟩).n lc') (.slice ia' (putD hN d (κI k) ⟨2, (k : Int) * (k : Int), 0, ⟨#[]⟩, 0⟩).m ic') (.slice xa' (putD hN d (κI k) ⟨2, (k : Int) * (k : Int), 0, ⟨#[]⟩, 0⟩).x xc') (putD hN d (κI k) ⟨2, (k : Int) * (k : Int), 0, ⟨#[]⟩, 0⟩)) D la' lc' ia' ic' xa' xc' (putD hN d (κI k) ⟨2, (k : Int) * (k : Int), 0, ⟨#[]⟩, 0⟩) t N (i + 1)) := hide ⟨hX, hkp.1.congr (fun j => by rw [unhide HK]; exact came_succ), by have := hkp.2.1; have := (unhide HS).live; omega, by have := hkp.2.2.1; have := (unhide HS).turns; omega, by have := (unhide HS).m; omega, hb4.trans (set6_below (unhide HDL))⟩
        clear hX hm hkp hb hb4 c0 c1 c2 c3 c4 c5
        unfold set6 at HS1
        generalize putD hN d (κI k) ⟨2, (k : Int) * (k : Int), 0, ⟨#[]⟩, 0⟩ = e at HS1 ⊢
        go_wp2
        go_roundw
        case rel => exact ⟨i + 1, la', lc', ia', ic', xa', xc', e, by go_num, by omega, unhide HS1⟩
        case measure => simp [intOf]; omega
      · have hiN : i = N := by omega
        subst hiN
        have hKA := (unhide HS).keys.congr (came_all (by omega) (unhide HG))
        obtain ⟨s1, s2, s3⟩ := small_all (unhide HS).x.inv hKA
        have HKA := hide hKA
        have HX0 := hide s2
        have hS := (unhide HS).x.inv.small (by omega)
        have hxx := hS.x
        have HSm := hide hS
        have hlen : lenOut d = (i : Int) := by
          have : lenOut d = (lenN d : Int) := if_pos (ok_zero (unhide HS).x.inv)
          rw [this, s3]
        have HLN := hide hlen
        have hm1 := (unhide HS).m
        have hmi : ((d.m : Nat) : Int) = (i : Int) := by omega
        clear hKA s1 s2 s3 hS hlen
        go_wp2_with fail
        go_loopw [51, 8] (fun u v wq => ∃ j : Nat, u = .int .i64 j ∧ v = .int .i64 0 ∧ j ≤ d.x ∧ wq = wr) (fun u _ _ => d.x - (intOf u).toNat)
        case atStart => exact ⟨0, rfl, rfl, by omega, rfl⟩
        case round =>
          obtain ⟨j, rfl, rfl, hj, rfl⟩ := hrel
          by_cases hjx : j < d.x
          · obtain ⟨xb, xo, rfl, hxb, hcs⟩ := (unhide HS).x.at'.index.resolve_left (by omega)
            have cj := hcs j hjx
            have hpos := unhide HX0 j hjx
            have hposd : decide (0 < d.X j) = false := by simpa using hpos
            clear hcs
            go_wp2
            go_roundw
            case rel => exact ⟨j + 1, by go_num, by first | rfl | trivial, by omega, by first | rfl | trivial⟩
            case measure => simp [intOf]; omega
          · have hjd : j = d.x := by omega
            subst hjd
            go_wp2_with fail
            refine (implOk la lc ia ic xa xc d _ (unhide HS).x.t (unhide HS).x.at' (unhide HSm) (unhide HS).x.wf).mono ?_
            rintro e' w5 ⟨rfl, hb5⟩
            rw [ok_zero (unhide HS).x.inv]
            have HX5 := hide ((unhide HS).x.below hb5)
            have HB5 := hide ((unhide HS).bel.trans (hb5.mono (unhide HS).bel.size))
            have i0 := (unhide HX5).c0
            have i1 := (unhide HX5).c1
            have i2 := (unhide HX5).c2
            have i3 := (unhide HX5).c3
            have i4 := (unhide HX5).c4
            have i5 := (unhide HX5).c5
            have l5 := (unhide HX5).lt
            clear hb5 c0 c1 c2 c3 c4 c5 lD
            go_wp2_with fail
            refine (implLen la lc ia ic xa xc d _ (unhide HX5).t (unhide HX5).at' (unhide HSm) (unhide HX5).wf).mono ?_
            rintro e' w6 ⟨rfl, hb6⟩
            rw [unhide HLN]
            have HX6 := hide ((unhide HX5).below hb6)
            have HB6 := hide ((unhide HB5).trans (hb6.mono (unhide HB5).size))
            clear i0 i1 i2 i3 i4 i5 l5 HX5 HB5 hb6
            have c0 := (unhide HX6).c0
            have c1 := (unhide HX6).c1
            have c2 := (unhide HX6).c2
            have c3 := (unhide HX6).c3
            have c4 := (unhide HX6).c4
            have c5 := (unhide HX6).c5
            have lD := (unhide HX6).lt
            go_wp2_with fail
            refine ((unhide HX6).put (by omega) (k := κI i) (v := ⟨0, 0, 0, ⟨#[]⟩, 0⟩) (int_keys.ky i trivial) ok_nilz wf_nilz (unhide HNG)).mono ?_
            rintro e' w7 ⟨⟨la', lc', ia', ic', xa', xc', rfl, hX, hm⟩, hb⟩
            have fz := fun o => (hb.frozen (p := ⟨D, o, none⟩) lD).trans ((unhide HX6).fz o)
            have f0 := (hb.cell (p := ⟨D, 0, none⟩) lD).trans c0
            have f1 := (hb.cell (p := ⟨D, 1, none⟩) lD).trans c1
            have f2 := (hb.cell (p := ⟨D, 2, none⟩) lD).trans c2
            have f3 := (hb.cell (p := ⟨D, 3, none⟩) lD).trans c3
            have f4 := (hb.cell (p := ⟨D, 4, none⟩) lD).trans c4
            have f5 := (hb.cell (p := ⟨D, 5, none⟩) lD).trans c5
            have hkt := (unhide HKA).take int_keysI (fun _ _ => trivial) (i := i) trivial (unhide HX6).inv (v := ⟨0, 0, 0, ⟨#[]⟩, 0⟩) ok_nilz rfl
            have hke : KeysAre κI (putD hN d (κI i) ⟨0, 0, 0, ⟨#[]⟩, 0⟩) (fun j => 1 ≤ j ∧ j ≤ i - 1) := hkt.1.congr (fun j => by omega)
            have HB7 : Hid (Below w3.heap.size w3 (set6 w7 D (.slice la' (putD hN d (κI i) ⟨0, 0, 0, ⟨#[]⟩, 0⟩).n lc') (.slice ia' (putD hN d (κI i) ⟨0, 0, 0, ⟨#[]⟩, 0⟩).m ic') (.slice xa' (putD hN d (κI i) ⟨0, 0, 0, ⟨#[]⟩, 0⟩).x xc') (putD hN d (κI i) ⟨0, 0, 0, ⟨#[]⟩, 0⟩))) := hide (((unhide HB6).trans (hb.mono (unhide HB6).size)).trans (set6_below (unhide HDL)))
            generalize putD hN d (κI i) ⟨0, 0, 0, ⟨#[]⟩, 0⟩ = e at hX hm hke HB7 ⊢
            obtain ⟨r1, r2, r3⟩ := small_all hX.inv hke
            have hSe := hX.inv.small (by omega)
            have HSe := hide hSe
            have hlen : lenOut e = (i : Int) - 1 := by
              have : lenOut e = (lenN e : Int) := if_pos (ok_zero hX.inv)
              rw [this, r3]
              omega
            have HLE := hide hlen
            obtain ⟨X, hXX⟩ : ∃ X, X = set6 w7 D (.slice la' e.n lc') (.slice ia' e.m ic') (.slice xa' e.x xc') e := ⟨_, rfl⟩
            rw [← hXX] at hX HB7
            have HX7 := hide hX
            have HM := hide r1
            clear hX hm hkt hke hb c0 c1 c2 c3 c4 c5 r1 r2 r3 hSe hlen
            unfold set6 at hXX
            go_wp2_with fail
            rw [← hXX]
            clear hXX fz f0 f1 f2 f3 f4 f5 lD
            refine (implLen la' lc' ia' ic' xa' xc' e _ (unhide HX7).t (unhide HX7).at' (unhide HSe) (unhide HX7).wf).mono ?_
            rintro e' w8 ⟨rfl, hb8⟩
            rw [unhide HLE]
            have HX8 := hide ((unhide HX7).below hb8)
            have HB8 := hide ((unhide HB7).trans (hb8.mono (unhide HB7).size))
            have c0 := (unhide HX8).c0
            have c1 := (unhide HX8).c1
            have c2 := (unhide HX8).c2
            have c3 := (unhide HX8).c3
            have c4 := (unhide HX8).c4
            have c5 := (unhide HX8).c5
            have lD := (unhide HX8).lt
            have hme : ((e.m : Nat) : Int) = (i : Int) - 1 := by have := unhide HM; omega
            clear hb8 HX7 HB7
            go_wp2_with fail
            refine (implOk la' lc' ia' ic' xa' xc' e _ (unhide HX8).t (unhide HX8).at' (unhide HSe) (unhide HX8).wf).mono ?_
            rintro e' w9 ⟨rfl, hb9⟩
            rw [ok_zero (unhide HX8).inv]
            have HB9 := hide ((unhide HB8).trans (hb9.mono (unhide HB8).size))
            clear hb9 c0 c1 c2 c3 c4 c5 lD HX8 HB8
            go_wp2
            go_ret
            exact ⟨by first | rfl | simp, unhide HB9⟩
end Go.Proofs.YtglcaejddckleaaDoor
