import Derived.Test.YtglcaejddckleaaGreatDoorFA
import Derived.Laws.OwnMore
set_option linter.unusedVariables false
namespace Go.Proofs.YtglcaejddckleaaGreatDoor
section
open Go.RowKit
def Own3 (v0 v1 v2 : Value) (b : Nat) : Prop := v0.ownBlock = some b ∨ v1.ownBlock = some b ∨ v2.ownBlock = some b
structure DMut (w : World) (c o B : Nat) (v0 v1 v2 : Value) (d : Dc) : Prop where
 lt : c < w.heap.size
 c0 : w.cell? ⟨c, o, none⟩ = some v0
 c1 : w.cell? ⟨c, o + 1, none⟩ = some v1
 c2 : w.cell? ⟨c, o + 2, none⟩ = some v2
 c3 : w.cell? ⟨c, o + 3, none⟩ = some (.int .i64 d.used)
 c4 : w.cell? ⟨c, o + 4, none⟩ = some (.int .i64 d.live)
 c5 : w.cell? ⟨c, o + 5, none⟩ = some (.int .i64 d.turns)
 fz : ∀ q, w.frozen? ⟨c, q, none⟩ = false
 log : POwn w B v0 d.n d.L
 ints : IOwn w B v1 d.m d.I
 index : IOwn w B v2 d.x d.X
 ap : ∀ q, v1.ownBlock = some q → v2.ownBlock ≠ some q
 nc : ¬ Own3 v0 v1 v2 c
 base : B ≤ w.heap.size
structure Stp (c o : Nat) (v0 v1 v2 : Value) (w : World) (u0 u1 u2 : Value) (w' : World) : Prop where
 os : w'.os = w.os
 tape : w'.tape = w.tape
 output : w'.output = w.output
 size : w.heap.size ≤ w'.heap.size
 block : ∀ b, b < w.heap.size → b ≠ c → ¬ Own3 v0 v1 v2 b → w'.heap[b]? = w.heap[b]?
 cell : ∀ q, (q < o ∨ o + 6 ≤ q) → w'.cell? ⟨c, q, none⟩ = w.cell? ⟨c, q, none⟩
 sub : ∀ b, Own3 u0 u1 u2 b → Own3 v0 v1 v2 b ∨ w.heap.size ≤ b
theorem Stp.refl (c o : Nat) (v0 v1 v2 : Value) (w : World) : Stp c o v0 v1 v2 w v0 v1 v2 w := ⟨rfl, rfl, rfl, Nat.le_refl _, fun _ _ _ _ => rfl, fun _ _ => rfl, fun _ h => .inl h⟩
theorem Stp.trans {c o : Nat} {v0 v1 v2 u0 u1 u2 t0 t1 t2 : Value} {w w' w'' : World} (h : Stp c o v0 v1 v2 w u0 u1 u2 w') (k : Stp c o u0 u1 u2 w' t0 t1 t2 w'') : Stp c o v0 v1 v2 w t0 t1 t2 w'' :=
 ⟨k.os.trans h.os, k.tape.trans h.tape, k.output.trans h.output, Nat.le_trans h.size k.size, fun b hb hc ho => (k.block b (Nat.lt_of_lt_of_le hb h.size) hc (fun e => (h.sub b e).elim ho (fun e' => absurd hb (by omega)))).trans (h.block b hb hc ho), fun q hq => (k.cell q hq).trans (h.cell q hq), fun b hb => (k.sub b hb).elim (h.sub b) (fun e => .inr (Nat.le_trans h.size e))⟩
theorem Stp.of_below {c o : Nat} {v0 v1 v2 : Value} {w w' : World} (h : Below w.heap.size w w') (hc : c < w.heap.size) : Stp c o v0 v1 v2 w v0 v1 v2 w' :=
 ⟨h.os, h.tape, h.output, h.size, fun b hb _ _ => h.block b hb, fun q _ => h.cell (p := ⟨c, q, none⟩) hc, fun _ e => .inl e⟩
theorem Stp.below {c o : Nat} {v0 v1 v2 u0 u1 u2 : Value} {w w' : World} (h : Stp c o v0 v1 v2 w u0 u1 u2 w') {B : Nat} (hc : B ≤ c) (hb : B ≤ w.heap.size) (ho : ∀ b, Own3 v0 v1 v2 b → B ≤ b) : Below B w w' :=
 ⟨h.os, h.tape, h.output, h.size, fun k hk => h.block k (by omega) (by omega) (fun e => by have := ho k e; omega)⟩
theorem DMut.own3 {w : World} {c o B : Nat} {v0 v1 v2 : Value} {d : Dc} (h : DMut w c o B v0 v1 v2 d) {b : Nat} (e : Own3 v0 v1 v2 b) : B ≤ b ∧ b < w.heap.size := by
 rcases e with e | e | e
 ·exact h.log.lt b e
 ·exact h.ints.lt b e
 ·exact h.index.lt b e
theorem DMut.below {w w' : World} {c o B : Nat} {v0 v1 v2 : Value} {d : Dc} (h : DMut w c o B v0 v1 v2 d) (hb : Below w.heap.size w w') : DMut w' c o B v0 v1 v2 d := by
 have e : ∀ q, w'.cell? ⟨c, q, none⟩ = w.cell? ⟨c, q, none⟩ := fun q => hb.cell (p := ⟨c, q, none⟩) h.lt
 exact ⟨Nat.lt_of_lt_of_le h.lt hb.size, (e _).trans h.c0, (e _).trans h.c1, (e _).trans h.c2, (e _).trans h.c3, (e _).trans h.c4, (e _).trans h.c5, fun q => (hb.frozen (p := ⟨c, q, none⟩) h.lt).trans (h.fz q), own_block h.log hb.size (fun q _ hq => hb.block q hq), own_block h.ints hb.size (fun q _ hq => hb.block q hq), own_block h.index hb.size (fun q _ hq => hb.block q hq), h.ap, h.nc, Nat.le_trans h.base hb.size⟩
theorem DMut.ptr {w : World} {c o B : Nat} {v0 v1 v2 : Value} {d : Dc} (h : DMut w c o B v0 v1 v2 d) : ∃ la lc ia ic xa xc, v0 = .slice la d.n lc ∧ v1 = .slice ia d.m ic ∧ v2 = .slice xa d.x xc ∧ DPtr w c o la lc ia ic xa xc d := by
 obtain ⟨la, lc, e0, hL⟩ := h.log.at
 obtain ⟨ia, ic, e1, hI⟩ := h.ints.at
 obtain ⟨xa, xc, e2, hX⟩ := h.index.at
 subst e0 e1 e2
 exact ⟨la, lc, ia, ic, xa, xc, rfl, rfl, rfl, h.lt, h.c0, h.c1, h.c2, h.c3, h.c4, h.c5, hL, hI, hX⟩
theorem DMut.of_same {w : World} {c o B : Nat} {v0 v1 v2 : Value} {d e : Dc} (h : DMut w c o B v0 v1 v2 d) (n : e.n = d.n) (L : ∀ i, i < d.n → e.L i = d.L i) (m : e.m = d.m) (I : ∀ i, i < d.m → e.I i = d.I i) (x : e.x = d.x) (X : ∀ i, i < d.x → e.X i = d.X i) (hu : e.used = d.used) (hl : e.live = d.live) (ht : e.turns = d.turns) : DMut w c o B v0 v1 v2 e := by
 have hp : ∀ (f g : Nat → Pr) (n : Nat), (∀ i, i < n → f i = g i) → pL f n = pL g n := by
  intro f g n hh
  induction n with
  | zero => rfl
  | succ n ih => show pL f n ++ prL (f n) = pL g n ++ prL (g n); rw [ih (fun j hj => hh j (by omega)), hh n (by omega)]
 have hi : ∀ (f g : Nat → Int) (n : Nat), (∀ i, i < n → f i = g i) → iL f n = iL g n := by
  intro f g n hh
  induction n with
  | zero => rfl
  | succ n ih => show iL f n ++ [_] = iL g n ++ [_]; rw [ih (fun j hj => hh j (by omega)), hh n (by omega)]
 refine ⟨h.lt, h.c0, h.c1, h.c2, by rw [hu]; exact h.c3, by rw [hl]; exact h.c4, by rw [ht]; exact h.c5, h.fz, ?_, ?_, ?_, h.ap, h.nc, h.base⟩
 ·show w.ownsRow _ _ _ _ e.n (pL e.L e.n); rw [n, hp e.L d.L d.n L]; exact h.log
 ·show w.ownsRow _ _ _ _ e.m (iL e.I e.m); rw [m, hi e.I d.I d.m I]; exact h.ints
 ·show w.ownsRow _ _ _ _ e.x (iL e.X e.x); rw [x, hi e.X d.X d.x X]; exact h.index
theorem IOwn.form {w : World} {B n : Nat} {v : Value} {f : Nat → Int} (h : IOwn w B v n f) (hn : 0 < n) : ∃ g cp, v = .slice (some ⟨g, 0, none⟩) n cp ∧ B ≤ g ∧ g < w.heap.size ∧ n ≤ cp ∧ (∀ i, i < n → w.cell? ⟨g, i, none⟩ = some (.int .i64 (f i))) ∧ ∀ q, w.frozen? ⟨g, q, none⟩ = false := by
 have h' := h
 obtain ⟨hl, ⟨hv, h0⟩ | ⟨g, cap, cur, hv, hb, hblk, h1, h2, h3, h4⟩⟩ := h'
 ·omega
 ·subst hv
  exact ⟨g, cap, rfl, hb, (h.lt g rfl).2, h1, fun i hi => by rw [World.ownsRow.cellAt h _ (by omega), iL_get hi], fun q => World.ownsRow.frozenAt h q⟩
theorem POwn.form {w : World} {B n : Nat} {v : Value} {f : Nat → Pr} (h : POwn w B v n f) (hn : 0 < n) : ∃ g cp, v = .slice (some ⟨g, 0, none⟩) n cp ∧ B ≤ g ∧ g < w.heap.size ∧ n ≤ cp ∧ (∀ i, i < n → PCell w g (i * 11) (f i)) ∧ ∀ q, w.frozen? ⟨g, q, none⟩ = false := by
 have h' := h
 obtain ⟨hl, ⟨hv, h0⟩ | ⟨g, cap, cur, hv, hb, hblk, h1, h2, h3, h4⟩⟩ := h'
 ·omega
 ·subst hv
  refine ⟨g, cap, rfl, hb, (h.lt g rfl).2, h1, fun i hi => PCell.of fun j u hu => ?_, fun q => World.ownsRow.frozenAt h q⟩
  have hj : j < 11 := by
   have := (List.getElem?_eq_some_iff.1 hu).1
   simpa [prL] using this
  rw [World.ownsRow.cellAt h _ (by omega), pL_get hi hj, hu]
theorem iL_set (f : Nat → Int) (n i : Nat) (x : Int) (hi : i < n) : (iL f n).set i (.int .i64 x) = iL (upd f i x) n := by
 apply List.ext_getElem?
 intro q
 rw [List.getElem?_set]
 by_cases hq : q < n
 ·by_cases e : i = q
  ·subst e; rw [if_pos rfl, if_pos (by rw [iL_length]; omega), iL_get hq, upd_same]
  ·rw [if_neg e, iL_get hq, iL_get hq, upd_other _ _ (fun e' => e e'.symm)]
 ·rw [if_neg (by omega), List.getElem?_eq_none (by rw [iL_length]; omega), List.getElem?_eq_none (by rw [iL_length]; omega)]
theorem IOwn.set {w : World} {B g n cp : Nat} {f : Nat → Int} (h : IOwn w B (.slice (some ⟨g, 0, none⟩) n cp) n f) {i : Nat} (hi : i < n) (x : Int) : IOwn (w.setCell ⟨g, i, none⟩ (.int .i64 x)) B (.slice (some ⟨g, 0, none⟩) n cp) n (upd f i x) := by
 have h1 := (World.ownsRow.stored h i (.int .i64 x)).1
 rw [iL_set f n i x hi] at h1
 exact h1
theorem own_setOther {w : World} {B e size n : Nat} {v : Value} {xs : List Value} (h : w.ownsRow B e size v n xs) {a : Addr} (u : Value) (hne : v.ownBlock ≠ some a.block) : (w.setCell a u).ownsRow B e size v n xs :=
 World.ownsRow.kept h (grown_setCell w a u) (.inr hne)
theorem own_apart {w : World} {B B' n n' : Nat} {v v' : Value} {f : Nat → Pr} {f' : Nat → Int} (h : POwn w B v n f) (h' : IOwn w B' v' n' f') {q : Nat} (e : v.ownBlock = some q) : v'.ownBlock ≠ some q := by
 intro e'
 obtain ⟨_, ⟨rfl, _⟩ | ⟨g, cap, cur, rfl, hb, hblk, _⟩⟩ := h
 ·cases e
 ·obtain ⟨_, ⟨rfl, _⟩ | ⟨g', cap', cur', rfl, hb', hblk', _⟩⟩ := h'
  ·cases e'
  ·simp [Value.ownBlock] at e e'
   subst e e'
   rw [hblk] at hblk'
   cases hblk'
theorem cell_set_same {w : World} {b o : Nat} {v u : Value} (h : w.cell? ⟨b, o, none⟩ = some u) : (w.setCell ⟨b, o, none⟩ v).cell? ⟨b, o, none⟩ = some v := World.cell?_setCell_same' _ _ _ (by rw [h]; rfl)
theorem stp_field {c o : Nat} {v0 v1 v2 u0 u1 u2 : Value} {w : World} {q : Nat} (u : Value) (hq : o ≤ q ∧ q < o + 6) (hs : ∀ b, Own3 u0 u1 u2 b → Own3 v0 v1 v2 b ∨ w.heap.size ≤ b) : Stp c o v0 v1 v2 w u0 u1 u2 (w.setCell ⟨c, q, none⟩ u) :=
 ⟨rfl, rfl, rfl, by simp, fun b _ hc _ => Deep.blk_setCell_other _ _ _ _ (by exact hc), fun p hp => cell_set_other (by omega), hs⟩
theorem stp_row {c o : Nat} {v0 v1 v2 : Value} {w : World} {g q : Nat} (u : Value) (hg : Own3 v0 v1 v2 g) (hc : g ≠ c) : Stp c o v0 v1 v2 w v0 v1 v2 (w.setCell ⟨g, q, none⟩ u) :=
 ⟨rfl, rfl, rfl, by simp, fun b _ _ ho => Deep.blk_setCell_other _ _ _ _ (fun e => ho (by have e : b = g := e; rw [e]; exact hg)), fun p _ => cell_set_block hc, fun b e => .inl e⟩
section
variable {w : World} {c o B : Nat} {v0 v1 v2 : Value} {d : Dc}
theorem DMut.fld (h : DMut w c o B v0 v1 v2 d) {q : Nat} {u : Value} {u0 u1 u2 : Value} {e : Dc}
  (g0 : (w.setCell ⟨c, q, none⟩ u).cell? ⟨c, o, none⟩ = some u0) (g1 : (w.setCell ⟨c, q, none⟩ u).cell? ⟨c, o + 1, none⟩ = some u1) (g2 : (w.setCell ⟨c, q, none⟩ u).cell? ⟨c, o + 2, none⟩ = some u2)
  (g3 : (w.setCell ⟨c, q, none⟩ u).cell? ⟨c, o + 3, none⟩ = some (.int .i64 e.used)) (g4 : (w.setCell ⟨c, q, none⟩ u).cell? ⟨c, o + 4, none⟩ = some (.int .i64 e.live)) (g5 : (w.setCell ⟨c, q, none⟩ u).cell? ⟨c, o + 5, none⟩ = some (.int .i64 e.turns))
  (l : POwn w B u0 e.n e.L) (i : IOwn w B u1 e.m e.I) (x : IOwn w B u2 e.x e.X) (ap : ∀ q, u1.ownBlock = some q → u2.ownBlock ≠ some q) (nc : ¬ Own3 u0 u1 u2 c) : DMut (w.setCell ⟨c, q, none⟩ u) c o B u0 u1 u2 e :=
 ⟨by simpa using h.lt, g0, g1, g2, g3, g4, g5, fun p => by rw [World.frozen?_setCell]; exact h.fz p, own_setOther l _ (fun e => nc (.inl e)), own_setOther i _ (fun e => nc (.inr (.inl e))), own_setOther x _ (fun e => nc (.inr (.inr e))), ap, nc, by simpa using h.base⟩
theorem DMut.setLog (h : DMut w c o B v0 v1 v2 d) {u : Value} {n : Nat} {L : Nat → Pr} (l : POwn w B u n L) (nc : u.ownBlock ≠ some c) : DMut (w.setCell ⟨c, o, none⟩ u) c o B u v1 v2 { d with n := n, L := L } :=
 h.fld (cell_set_same h.c0) ((cell_set_other (by omega)).trans h.c1) ((cell_set_other (by omega)).trans h.c2) ((cell_set_other (by omega)).trans h.c3) ((cell_set_other (by omega)).trans h.c4) ((cell_set_other (by omega)).trans h.c5) l h.ints h.index h.ap (fun e => e.elim nc (fun e => h.nc (.inr e)))
theorem DMut.setInts (h : DMut w c o B v0 v1 v2 d) {u : Value} {m : Nat} {I : Nat → Int} (l : IOwn w B u m I) (nc : u.ownBlock ≠ some c) (ap : ∀ q, u.ownBlock = some q → v2.ownBlock ≠ some q) : DMut (w.setCell ⟨c, o + 1, none⟩ u) c o B v0 u v2 { d with m := m, I := I } :=
 h.fld ((cell_set_other (by omega)).trans h.c0) (cell_set_same h.c1) ((cell_set_other (by omega)).trans h.c2) ((cell_set_other (by omega)).trans h.c3) ((cell_set_other (by omega)).trans h.c4) ((cell_set_other (by omega)).trans h.c5) h.log l h.index ap (fun e => e.elim (fun e => h.nc (.inl e)) (fun e => e.elim nc (fun e => h.nc (.inr (.inr e)))))
theorem DMut.setIndex (h : DMut w c o B v0 v1 v2 d) {u : Value} {x : Nat} {X : Nat → Int} (l : IOwn w B u x X) (nc : u.ownBlock ≠ some c) (ap : ∀ q, v1.ownBlock = some q → u.ownBlock ≠ some q) : DMut (w.setCell ⟨c, o + 2, none⟩ u) c o B v0 v1 u { d with x := x, X := X } :=
 h.fld ((cell_set_other (by omega)).trans h.c0) ((cell_set_other (by omega)).trans h.c1) (cell_set_same h.c2) ((cell_set_other (by omega)).trans h.c3) ((cell_set_other (by omega)).trans h.c4) ((cell_set_other (by omega)).trans h.c5) h.log h.ints l ap (fun e => e.elim (fun e => h.nc (.inl e)) (fun e => e.elim (fun e => h.nc (.inr (.inl e))) nc))
theorem DMut.setUsed (h : DMut w c o B v0 v1 v2 d) (u : Int) : DMut (w.setCell ⟨c, o + 3, none⟩ (.int .i64 u)) c o B v0 v1 v2 { d with used := u } :=
 h.fld ((cell_set_other (by omega)).trans h.c0) ((cell_set_other (by omega)).trans h.c1) ((cell_set_other (by omega)).trans h.c2) (cell_set_same h.c3) ((cell_set_other (by omega)).trans h.c4) ((cell_set_other (by omega)).trans h.c5) h.log h.ints h.index h.ap h.nc
theorem DMut.setLive (h : DMut w c o B v0 v1 v2 d) (u : Int) : DMut (w.setCell ⟨c, o + 4, none⟩ (.int .i64 u)) c o B v0 v1 v2 { d with live := u } :=
 h.fld ((cell_set_other (by omega)).trans h.c0) ((cell_set_other (by omega)).trans h.c1) ((cell_set_other (by omega)).trans h.c2) ((cell_set_other (by omega)).trans h.c3) (cell_set_same h.c4) ((cell_set_other (by omega)).trans h.c5) h.log h.ints h.index h.ap h.nc
theorem DMut.setTurns (h : DMut w c o B v0 v1 v2 d) (u : Int) : DMut (w.setCell ⟨c, o + 5, none⟩ (.int .i64 u)) c o B v0 v1 v2 { d with turns := u } :=
 h.fld ((cell_set_other (by omega)).trans h.c0) ((cell_set_other (by omega)).trans h.c1) ((cell_set_other (by omega)).trans h.c2) ((cell_set_other (by omega)).trans h.c3) ((cell_set_other (by omega)).trans h.c4) (cell_set_same h.c5) h.log h.ints h.index h.ap h.nc
theorem DMut.rowc (h : DMut w c o B v0 v1 v2 d) {g q : Nat} {u : Value} (hg : Own3 v0 v1 v2 g) {e : Dc} (hu : e.used = d.used) (hl : e.live = d.live) (ht : e.turns = d.turns)
  (l : POwn (w.setCell ⟨g, q, none⟩ u) B v0 e.n e.L) (i : IOwn (w.setCell ⟨g, q, none⟩ u) B v1 e.m e.I) (x : IOwn (w.setCell ⟨g, q, none⟩ u) B v2 e.x e.X) : DMut (w.setCell ⟨g, q, none⟩ u) c o B v0 v1 v2 e := by
 have hc : g ≠ c := fun e => h.nc (e ▸ hg)
 exact ⟨by simpa using h.lt, (cell_set_block hc).trans h.c0, (cell_set_block hc).trans h.c1, (cell_set_block hc).trans h.c2, by rw [hu]; exact (cell_set_block hc).trans h.c3, by rw [hl]; exact (cell_set_block hc).trans h.c4, by rw [ht]; exact (cell_set_block hc).trans h.c5, fun p => by rw [World.frozen?_setCell]; exact h.fz p, l, i, x, h.ap, h.nc, by simpa using h.base⟩
end
theorem DMut.putX {w : World} {c o B g cp : Nat} {v0 v1 : Value} {d : Dc} (h : DMut w c o B v0 v1 (.slice (some ⟨g, 0, none⟩) d.x cp) d) {i : Nat} (hi : i < d.x) (x : Int) : DMut (w.setCell ⟨g, i, none⟩ (.int .i64 x)) c o B v0 v1 (.slice (some ⟨g, 0, none⟩) d.x cp) { d with X := upd d.X i x } :=
 h.rowc (.inr (.inr rfl)) rfl rfl rfl (own_setOther h.log _ (fun e => own_apart h.log h.index e rfl)) (own_setOther h.ints _ (fun e => h.ap _ e rfl)) (h.index.set hi x)
theorem DMut.putI {w : World} {c o B g cp : Nat} {v0 v2 : Value} {d : Dc} (h : DMut w c o B v0 (.slice (some ⟨g, 0, none⟩) d.m cp) v2 d) {i : Nat} (hi : i < d.m) (x : Int) : DMut (w.setCell ⟨g, i, none⟩ (.int .i64 x)) c o B v0 (.slice (some ⟨g, 0, none⟩) d.m cp) v2 { d with I := upd d.I i x } :=
 h.rowc (.inr (.inl rfl)) rfl rfl rfl (own_setOther h.log _ (fun e => own_apart h.log h.ints e rfl)) (h.ints.set hi x) (own_setOther h.index _ (fun e => h.ap _ rfl e))
theorem stp_new {c o : Nat} {v0 v1 v2 u0 u1 u2 : Value} {w : World} {q : Nat} (ob : Obj) (u : Value) (hc : c < w.heap.size) (hq : o ≤ q ∧ q < o + 6) (hs : ∀ b, Own3 u0 u1 u2 b → Own3 v0 v1 v2 b ∨ w.heap.size ≤ b) : Stp c o v0 v1 v2 w u0 u1 u2 ((w.alloc ob).setCell ⟨c, q, none⟩ u) :=
 ⟨rfl, rfl, rfl, by simp, fun b hb hc _ => (Deep.blk_setCell_other _ _ _ _ (by exact hc)).trans (Deep.blk_alloc_lt _ _ _ hb), fun p hp => (cell_set_other (by omega)).trans (World.cell?_alloc_lt _ _ _ (by exact hc)), hs⟩
theorem stp_grown {c o : Nat} {v0 v1 v2 u0 u1 u2 : Value} {w w3 : World} {q : Nat} {row : Option Nat} (u : Value) (hg : w.grownBy w3 row) (hr : ∀ b, row = some b → Own3 v0 v1 v2 b ∨ w.heap.size ≤ b) (hc : c < w.heap.size) (hn : row ≠ some c) (hq : o ≤ q ∧ q < o + 6) (hs : ∀ b, Own3 u0 u1 u2 b → Own3 v0 v1 v2 b ∨ w.heap.size ≤ b) : Stp c o v0 v1 v2 w u0 u1 u2 (w3.setCell ⟨c, q, none⟩ u) :=
 ⟨hg.os, hg.tape, hg.output, by simpa using hg.size, fun b hb hc ho => (Deep.blk_setCell_other _ _ _ _ (by exact hc)).trans (hg.block b hb (fun e => (hr b e.symm).elim ho (fun e' => by omega))), fun p hp => (cell_set_other (by omega)).trans (World.cell?_of_block (hg.block c hc (fun e => hn e.symm))), hs⟩
theorem iL_zero (n : Nat) : (madeCells #[Value.int .i64 0] n).toList = iL (fun _ => 0) n := by
 rw [toList_madeCells_one]
 induction n with
 | zero => rfl
 | succ n ih => rw [List.replicate_succ']; show _ = iL (fun _ => 0) n ++ [.int .i64 0]; rw [← ih]
theorem IOwn.made (w : World) (B n : Nat) (hb : B ≤ w.heap.size) (hn : n ≤ 4194304) : IOwn (w.alloc (.cells (madeCells #[Value.int .i64 0] n) 3)) B (.slice (some ⟨w.heap.size, 0, none⟩) n n) n (fun _ => 0) := by
 have h := World.ownsRow_lit (base := B) (e := 3) (size := 1) w (madeCells #[Value.int .i64 0] n) n hb (by unfold maxLen; omega) (by rw [size_madeCells]; omega)
 rw [iL_zero] at h
 exact h
theorem IOwn.cut {w : World} {B g m cp : Nat} {I : Nat → Int} (h : IOwn w B (.slice (some ⟨g, 0, none⟩) m cp) m I) {n : Nat} (hn : n ≤ m) : IOwn w B (.slice (some ⟨g, 0, none⟩) n cp) n I := by
 obtain ⟨hl, ⟨hv, h0⟩ | ⟨g', cap, cur, hv, hb, hblk, h1, h2, h3, h4⟩⟩ := h
 ·cases hv
 ·cases hv
  refine ⟨by rw [iL_length]; omega, .inr ⟨g, cp, cur, rfl, hb, hblk, by omega, h2, h3, ?_⟩⟩
  have e : ∀ j, iL I (n + j) = iL I n ++ (iL I (n + j)).drop n := by
   intro j
   have hp : iL I n <+: iL I (n + j) := by
    induction j with
    | zero => exact List.prefix_refl _
    | succ j ih => exact ih.trans (List.prefix_append _ _)
   obtain ⟨t, ht⟩ := hp
   rw [← ht]
   congr 1
   rw [List.drop_append_of_le_length (by rw [iL_length]; omega), List.drop_of_length_le (by rw [iL_length]; omega)]
   rfl
  have e' := e (m - n)
  rw [show n + (m - n) = m by omega] at e'
  have : cur.toList.take (n * 1) = (cur.toList.take (m * 1)).take n := by rw [List.take_take]; congr 1; omega
  rw [this, h4, e', List.take_append_of_le_length (by rw [iL_length]; omega), List.take_of_length_le (by rw [iL_length]; omega)]
end
section
open Go.RowKit
attribute [local go_sem] run_store_float run_equalIn_float
theorem back_mod {x a t : Nat} (ha : a < x) (ht : t < x) : ((a + t) % x + x - a) % x = t := by
 by_cases h : a + t < x
 ·rw [Nat.mod_eq_of_lt h, show a + t + x - a = t + x by omega, Nat.add_mod_right, Nat.mod_eq_of_lt ht]
 ·have e : (a + t) % x = a + t - x := by rw [Nat.mod_eq_sub_mod (by omega), Nat.mod_eq_of_lt (by omega)]
  rw [e, show a + t - x + x - a = t by omega, Nat.mod_eq_of_lt ht]
theorem next_mod {x a t : Nat} (hx : 0 < x) : ((a + t) % x + 1) % x = (a + (t + 1)) % x := by
 rw [Nat.mod_add_mod]; rfl
set_option maxRecDepth 100000 in
set_option maxHeartbeats 2000000 in
theorem l1enter_any (hf : Vl → Nat) (c o B : Nat) (v0 v1 v2 : Value) (d : Dc) (k : Vl) (p : Nat) (w : World) (hM : DMut w c o B v0 v1 v2 d) (hx : 8 ≤ d.x ∧ d.x ≤ 4000 ∧ Pow2 d.x) (hu : useN d.X d.x < d.x) (hus : 0 ≤ d.used ∧ d.used ≤ 4000) (hp : p ≤ 4194304) (hh : HsS k (hf k)) :
  Calls Tryz.prog 131 #[Pc c o, V k.kind k.num k.flt k.str k.ref, .int .i64 (p : Int)] w fun e w' => ((∃ u, e = .returned u) ∧ DMut w' c o B v0 v1 v2 (enterD hf d k p)) ∧ Stp c o v0 v1 v2 w v0 v1 v2 w' := by
 obtain ⟨T, hT, hfr, hX0, hXp⟩ := freeSlot_some (a := hf k % d.x) (Nat.mod_lt _ (by omega)) hu
 have HE := uy (enterD_some (p := p) hfr)
 obtain ⟨g, cp, rfl, hBg, hgl, hcp, hcs, hfz⟩ := hM.index.form (by omega)
 have hand := and_mask (h := hf k) hx.2.2 hx.2.1 hh.lt
 have hml : hf k % d.x < d.x := Nat.mod_lt _ (by omega)
 obtain ⟨a0, ha0⟩ : ∃ a0, a0 = hf k % d.x := ⟨_, rfl⟩
 rw [← ha0] at hand hml hX0 hXp HE
 have hx1 := hx.1
 have hx2 := hx.2.1
 have c2 := hM.c2
 have hcl := hM.lt
 have hgc : g ≠ c := fun e => hM.nc (.inr (.inr (by rw [← e]; rfl)))
 have hcg : c ≠ g := fun e => hgc e.symm
 have HM := uy hM
 have HH := uy hh
 have HX0 := uy hX0
 have HXp := uy hXp
 have HCS := uy hcs
 have HFZ := uy hfz
 have hb0 : Below w.heap.size w (w.alloc (.cells #[.int .i64 k.kind, .int .i64 k.num, .float .f64 k.flt, .string k.str, .int .i64 k.ref] 30)) := (Below.refl _ _).alloc (Nat.le_refl _) _
 have HB0 := uy hb0
 clear hM hh hx hX0 hXp hcs hfz ha0 hb0 hfr
 go_enter Tryz.func131, Tryz.ntmps131
 go_wp2_with fail
 refine ((uh HH).call _).mono ?_
 rintro e w1 ⟨rfl, hb1⟩
 have HB1 := uy ((uh HB0).trans (hb1.mono (uh HB0).size))
 clear hb1 c2
 go_wp2_with fail
 go_loopw [7] (fun a wr => ∃ t : Nat, a = .int .i64 ((((a0 + t) % d.x : Nat)) : Int) ∧ t ≤ T ∧ wr = w1) (fun a _ => d.x - (((intOf a).toNat + d.x - a0) % d.x))
 case atStart => exact ⟨0, by rw [Nat.add_zero, Nat.mod_eq_of_lt hml], by omega, rfl⟩
 case round =>
  obtain ⟨t, rfl, htT, rfl⟩ := hrel
  have c2 := ((uh HB1).cell (p := ⟨c, o + 2, none⟩) hcl).trans (uh HM).c2
  have hcl1 := Nat.lt_of_lt_of_le hcl (uh HB1).size
  have hgl1 := Nat.lt_of_lt_of_le hgl (uh HB1).size
  obtain ⟨a, ha⟩ : ∃ a, a = (a0 + t) % d.x := ⟨_, rfl⟩
  have hax : a < d.x := by rw [ha]; exact Nat.mod_lt _ (by omega)
  have e0 := ((uh HB1).cell (p := ⟨g, a, none⟩) hgl).trans (uh HCS a hax)
  have HA := uy ha
  have HN : Hid ((a + 1) % d.x = (a0 + (t + 1)) % d.x) := uy (by rw [ha]; exact next_mod (by omega))
  have HK : Hid ((a + d.x - a0) % d.x = t) := uy (by rw [ha]; exact back_mod hml (by omega))
  rw [← ha]
  clear ha
  by_cases htn : t < T
  ·have hpos : 0 < d.X a := by rw [uh HA]; exact uh HXp t htn
   have hpos' : decide (0 < d.X a) = true := by simp [hpos]
   by_cases hw : a + 1 = d.x
   ·have hw' : ((a : Int) + 1 == d.x) = true := by simp; omega
    have HR : Hid ((a0 + (t + 1)) % d.x = 0) := uy (by rw [← uh HN, hw]; exact Nat.mod_self _)
    clear hw
    go_wp2
    go_roundw
    case rel => exact ⟨t + 1, by rw [uh HR]; rfl, by omega, by first | rfl | trivial⟩
    case measure =>
     have h1 := back_mod (x := d.x) (a := a0) (t := t + 1) hml (by omega)
     rw [uh HR] at h1
     have h2 := uh HK
     have e0 : ((0 : Int).toNat + d.x - a0) % d.x = t + 1 := h1
     simp only [intOf, Int.toNat_natCast]
     rw [h2, e0]
     omega
   ·have hw' : ((a : Int) + 1 == d.x) = false := by simp; omega
    have HR : Hid ((a0 + (t + 1)) % d.x = a + 1) := uy (by rw [← uh HN]; exact Nat.mod_eq_of_lt (by omega))
    have hax' : a + 1 < d.x := by omega
    clear hw
    go_wp2
    go_roundw
    case rel => exact ⟨t + 1, by rw [uh HR]; go_num, by omega, by first | rfl | trivial⟩
    case measure =>
     have h1 := back_mod (x := d.x) (a := a0) (t := t + 1) hml (by omega)
     rw [uh HR] at h1
     have h2 := uh HK
     have e1 : ((a : Int) + 1).toNat = a + 1 := by omega
     simp only [intOf, Int.toNat_natCast]
     rw [h2, e1, h1]
     omega
  ·have htT' : t = T := by omega
   subst htT'
   have hle : d.X a ≤ 0 := by rw [uh HA]; exact uh HX0
   have hpos' : decide (0 < d.X a) = false := by simp; omega
   have HMw := uy ((uh HM).below (uh HB1))
   have f0 : wr.frozen? ⟨g, a, none⟩ = false := ((uh HB1).frozen (p := ⟨g, a, none⟩) hgl).trans (uh HFZ a)
   have f3 := (uh HMw).fz (o + 3)
   have c3 := (uh HMw).c3
   rw [← uh HA] at HE
   have hS1 : Stp c o v0 v1 (.slice (some ⟨g, 0, none⟩) d.x cp) w v0 v1 (.slice (some ⟨g, 0, none⟩) d.x cp) wr := Stp.of_below (uh HB1) hcl
   have HS1 := uy hS1
   clear hS1
   by_cases h0 : d.X a = 0
   ·have HR : Hid (enterD hf d k p = { d with X := upd d.X a ((p : Int) + 1), used := d.used + 1 }) := uy (by rw [uh HE, if_pos h0])
    rw [h0] at e0
    have hd1 : DMut (wr.setCell ⟨c, o + 3, none⟩ (.int .i64 (d.used + 1))) c o B v0 v1 (.slice (some ⟨g, 0, none⟩) d.x cp) { d with used := d.used + 1 } := (uh HMw).setUsed _
    have hd2 := DMut.putX (d := { d with used := d.used + 1 }) hd1 (i := a) hax ((p : Int) + 1)
    have hs2 := ((uh HS1).trans (stp_field (c := c) (o := o) (v0 := v0) (v1 := v1) (v2 := .slice (some ⟨g, 0, none⟩) d.x cp) (q := o + 3) (.int .i64 (d.used + 1)) (by omega) (fun b e => .inl e))).trans (stp_row (q := a) (.int .i64 ((p : Int) + 1)) (.inr (.inr rfl)) hgc)
    have HD2 := uy (And.intro hd2 hs2)
    clear hd1 hd2 hs2 h0 hle
    go_wp2
    go_end0
    exact ⟨⟨⟨_, rfl⟩, by rw [uh HR]; exact (uh HD2).1⟩, (uh HD2).2⟩
   ·have HR : Hid (enterD hf d k p = { d with X := upd d.X a ((p : Int) + 1) }) := uy (by rw [uh HE, if_neg h0])
    have h0' : (d.X a == 0) = false := by simp [h0]
    have hd2 := (uh HMw).putX (i := a) hax ((p : Int) + 1)
    have hs2 := (uh HS1).trans (stp_row (q := a) (.int .i64 ((p : Int) + 1)) (.inr (.inr rfl)) hgc)
    have HD2 := uy (And.intro hd2 hs2)
    clear hd2 hs2 h0 hle
    go_wp2
    go_end0
    exact ⟨⟨⟨_, rfl⟩, by rw [uh HR]; exact (uh HD2).1⟩, (uh HD2).2⟩
end
section
open Go.RowKit
attribute [local go_sem] run_store_float run_equalIn_float
theorem make_intsO (n : Nat) (hn : n ≤ 4194304) (w : World) :
  (Instr.makeSlice 24 (.int .i64 (n : Int)) (.int .i64 (n : Int))).run Tryz.prog w = .ok (.slice (some ⟨w.heap.size, 0, none⟩) n n) (w.alloc (.cells (madeCells #[Value.int .i64 0] n) 3)) := by
 have := make_ints n hn w
 simpa [Value.cells] using this
theorem ownB {g n cp b : Nat} (h : (Value.slice (some ⟨g, 0, none⟩) n cp).ownBlock = some b) : g = b := by simpa [Value.ownBlock] using h
theorem Dc.eq_of {a b : Dc} (n : a.n = b.n) (L : a.L = b.L) (m : a.m = b.m) (I : a.I = b.I) (x : a.x = b.x) (X : a.X = b.X) (u : a.used = b.used) (l : a.live = b.live) (t : a.turns = b.turns) : a = b := by
 obtain ⟨⟩ := a
 obtain ⟨⟩ := b
 dsimp only at n L m I x X u l t
 subst n L m I x X u l t
 rfl
theorem refill_eq {hf : Vl → Nat} {d : Dc} {x k : Nat} (h : idxN d k < x) : { d with x := x, X := (refill hf d x k).X, used := (refill hf d x k).used } = refill hf d x k := by
 obtain ⟨f1, f2, f3, f4, f5, f6, f7, f8, f9, f10⟩ := refill_says (hf := hf) (d := d) (x := x) k h
 exact Dc.eq_of f5.symm f6.symm f7.symm f8.symm f4.symm rfl rfl f9.symm f10.symm
set_option maxRecDepth 100000 in
set_option maxHeartbeats 4000000 in
theorem l1reindex_any (hf : Vl → Nat) (c o B : Nat) (v0 v1 v2 : Value) (d : Dc) (more : Nat) (w : World) (hM : DMut w c o B v0 v1 v2 d) (hS : Small d) (hm : idxN d d.n + more ≤ 500) (hh : ∀ i, i < d.n → indexedK d i → HsS (d.L i).key (hf (d.L i).key)) :
  Calls Tryz.prog 130 #[Pc c o, .int .i64 (more : Int)] w fun e w' => ((∃ u, e = .returned u) ∧ ∃ u2, DMut w' c o B v0 v1 u2 (reindexD hf d more) ∧ Stp c o v0 v1 v2 w v0 v1 u2 w') := by
 have hn := hS.n
 have c0 := hM.c0
 have hcl := hM.lt
 obtain ⟨la, lc, e0, _⟩ := hM.log.at
 subst e0
 have HM := uy hM
 have HS := uy hS
 have HH := uy hh
 clear hM hS hh
 go_enter Tryz.func130, Tryz.ntmps130
 go_wp2_with fail
 go_loopw [14, 4] (fun i q wr => ∃ k : Nat, i = .int .i64 (k : Int) ∧ k ≤ d.n ∧ q = .int .i64 (((idxN d k + more : Nat)) : Int) ∧ Below w.heap.size w wr) (fun i _ _ => d.n - (intOf i).toNat)
 case atStart => exact ⟨0, rfl, by omega, by simp [idxN], Below.refl _ _⟩
 case round =>
  obtain ⟨k, rfl, hk, rfl, hb⟩ := hrel
  by_cases hkn : k < d.n
  ·have hmw := (uh HM).below hb
   obtain ⟨la', lc', ia, ic, xa, xc, ee0, rfl, rfl, hP⟩ := hmw.ptr
   cases ee0
   have hle := Nat.le_trans (idxN_mono d (k := k) (n := d.n) (by omega)) (show idxN d d.n ≤ 500 by omega)
   have HB := uy hb
   have HP := uy hP
   clear hb hmw hP
   go_wp2_with fail
   refine (l1indexed_any c o la lc ia ic xa xc d k _ (uh HP) (uh HS) hkn).mono ?_
   rintro e w1 ⟨rfl, hb1⟩
   have HB1 := uy ((uh HB).trans (hb1.mono (uh HB).size))
   clear hb1
   by_cases hx : indexedK d k
   ·rw [tells_yes hx]
    have HN := uy (idxN_yes hx)
    clear hx
    go_wp2
    go_roundw
    case rel => exact ⟨k + 1, by go_num, by omega, by rw [uh HN]; go_num, uh HB1⟩
    case measure => simp [intOf]; omega
   ·rw [tells_no hx]
    have HN := uy (idxN_no hx)
    clear hx
    go_wp2
    go_roundw
    case rel => exact ⟨k + 1, by go_num, by omega, by rw [uh HN, Int.natCast_add], uh HB1⟩
    case measure => simp [intOf]; omega
  have hkn' : k = d.n := by omega
  subst hkn'
  have hmw := (uh HM).below hb
  have hs1 : Stp c o (.slice la d.n lc) v1 v2 w (.slice la d.n lc) v1 v2 wr := Stp.of_below hb hcl
  have hcl1 := hmw.lt
  have c2 := hmw.c2
  have c3 := hmw.c3
  have f2 := hmw.fz (o + 2)
  have f3 := hmw.fz (o + 3)
  have hd1 := (hmw.setIndex (u := .slice none 0 0) (x := 0) (X := fun _ => 0) (World.ownsRow_nil _ _ _ _) (fun e => by cases e) (fun q _ e => by cases e)).setUsed 0
  have hs2 := (hs1.trans (stp_field (u2 := .slice none 0 0) (q := o + 2) (.slice none 0 0) (by omega) (fun b e => .inl (e.elim .inl (fun e => e.elim (fun e => .inr (.inl e)) (fun e => by cases e)))))).trans (stp_field (q := o + 3) (.int .i64 0) (by omega) (fun b e => .inl e))
  have HD1 := uy hd1
  have HS2 := uy hs2
  clear hb hmw hs1 hd1 hs2 hk hkn
  by_cases hz : idxN d d.n + more = 0
  ·have HR := uy (reindexD_none (hf := hf) hz)
   have hz' : (((idxN d d.n + more : Nat) : Int) == 0) = true := by rw [hz]; rfl
   generalize idxN d d.n + more = N at hz hz' hm
   clear hz
   go_wp2
   refine bodyPost_ret (results_none rfl _ _ _) rfl ?_
   refine ⟨⟨_, rfl⟩, _, ?_, uh HS2⟩
   rw [uh HR]
   exact (uh HD1).of_same rfl (fun _ _ => rfl) rfl (fun _ _ => rfl) rfl (fun i hi => by cases hi) rfl rfl rfl
  have HR := uy (reindexD_some (hf := hf) hz)
  have HSZ := uy (sizeFor_says hm)
  have hidx : idxN d d.n ≤ idxN d d.n + more := by omega
  have hz' : (((idxN d d.n + more : Nat) : Int) == 0) = false := by simp; omega
  have HIX : Hid (idxN d d.n < sizeFor (idxN d d.n + more)) := uy (by have := (uh HSZ).1; omega)
  generalize hNN : idxN d d.n + more = N at hz hz' hm HR HSZ HIX hidx
  clear hNN hidx
  obtain ⟨W1, hW1⟩ : ∃ W1, W1 = (wr.setCell ⟨c, o + 2, none⟩ (.slice none 0 0)).setCell ⟨c, o + 3, none⟩ (.int .i64 0) := ⟨_, rfl⟩
  go_wp2_with fail
  rw [← hW1]
  rw [← hW1] at HD1 HS2
  clear hW1 c2 c3 f2 f3 hcl1
  go_loopw [6] (fun a wr => ∃ f s : Nat, a = .int .i64 (s : Int) ∧ sizeGo f s (4 * N) = sizeFor N ∧ 8 ≤ s ∧ s ≤ 4000 ∧ wr = W1) (fun a _ => 4 * N - (intOf a).toNat)
  case atStart => exact ⟨9, 8, rfl, rfl, by omega, by omega, rfl⟩
  case round =>
   obtain ⟨f, s, rfl, hgo, hs8, hs4, rfl⟩ := hrel
   by_cases hlt : s < 4 * N
   ·obtain ⟨f', rfl⟩ : ∃ f', f = f' + 1 := by
     cases f with
     | zero =>
      exfalso
      have h1 := (uh HSZ).1
      have h2 : sizeGo 0 s (4 * N) = s := rfl
      omega
     | succ f => exact ⟨f, rfl⟩
    have HG : Hid (sizeGo f' (2 * s) (4 * N) = sizeFor N) := uy (by
     have h1 : sizeGo (f' + 1) s (4 * N) = if s < 4 * N then sizeGo f' (2 * s) (4 * N) else s := rfl
     rw [h1, if_pos hlt] at hgo
     exact hgo)
    clear hgo
    go_wp2
    go_roundw
    case rel => exact ⟨f', 2 * s, by go_num, uh HG, by omega, by omega, by first | rfl | trivial⟩
    case measure => simp [intOf]; omega
   ·have HG : Hid (s = sizeFor N) := uy (by
     cases f with
     | zero => exact hgo
     | succ f =>
      have h1 : sizeGo (f + 1) s (4 * N) = if s < 4 * N then sizeGo f (2 * s) (4 * N) else s := rfl
      rw [h1, if_neg hlt] at hgo
      exact hgo)
    clear hgo
    have mk := make_intsO s (by omega)
    have c2 := (uh HD1).c2
    have f2 := (uh HD1).fz (o + 2)
    have c0 := (uh HD1).c0
    have hcl1 := (uh HD1).lt
    obtain ⟨WA, hWA⟩ : ∃ WA, WA = (wr.setCell ⟨c, o + 2, none⟩ (.slice (some ⟨wr.heap.size, 0, none⟩) s s)).alloc (.cells (madeCells #[Value.int .i64 0] s) 3) := ⟨_, rfl⟩
    have hdA := ((uh HD1).below ((Below.refl _ _).alloc (Nat.le_refl _) (.cells (madeCells #[Value.int .i64 0] s) 3))).setIndex (IOwn.made wr B s (uh HD1).base (by omega)) (fun e => Nat.ne_of_gt hcl1 (ownB e)) (fun q e e' => by
      have e1 := (uh HD1).own3 (.inr (.inl e))
      have e2 := ownB e'
      omega)
    have hsA := (uh HS2).trans (stp_new (u0 := .slice la d.n lc) (u1 := v1) (u2 := .slice (some ⟨wr.heap.size, 0, none⟩) s s) (q := o + 2) (.cells (madeCells #[Value.int .i64 0] s) 3) (.slice (some ⟨wr.heap.size, 0, none⟩) s s) hcl1 (by omega) (fun b e => e.elim (fun e => .inl (.inl e)) (fun e => e.elim (fun e => .inl (.inr (.inl e))) (fun e => .inr (Nat.le_of_eq (ownB e))))))
    rw [World.setCell_alloc_past _ _ _ _ hcl1, ← hWA] at hdA hsA
    have HDA : Hid (DMut WA c o B (.slice la d.n lc) v1 (.slice (some ⟨wr.heap.size, 0, none⟩) s s) (refill hf d s 0)) := uy (hdA.of_same rfl (fun _ _ => rfl) rfl (fun _ _ => rfl) rfl (fun _ _ => rfl) rfl rfl rfl)
    have HSA := uy hsA
    have HC0 := uy hdA.c0
    have HCL := uy hdA.lt
    clear hdA hsA
    obtain ⟨G, hGG⟩ : ∃ G, G = wr.heap.size := ⟨_, rfl⟩
    rw [← hGG] at HDA HSA
    go_wp2_with fail
    rw [← hWA, ← hGG]
    clear hGG
    have c0 := uh HC0
    have hclA := uh HCL
    clear hWA mk c2 f2
    go_wp2_with fail
    have hPw := (uh HSZ).2.2.2
    rw [← uh HG] at hPw
    have HPW := uy hPw
    have hIX : idxN d d.n < s := by have := uh HIX; rw [← uh HG] at this; exact this
    have HIX' := uy hIX
    have HRR : Hid (reindexD hf d more = refill hf d s d.n) := uy (by rw [uh HR, uh HG])
    clear hPw hIX HG HIX HR HSZ
    go_loopw [47] (fun i wz => ∃ (k : Nat) (X' : Nat → Int) (u' : Int), i = .int .i64 (k : Int) ∧ k ≤ d.n ∧ { d with x := s, X := X', used := u' } = refill hf d s k ∧ DMut wz c o B (.slice la d.n lc) v1 (.slice (some ⟨G, 0, none⟩) s s) { d with x := s, X := X', used := u' } ∧ Stp c o (.slice la d.n lc) v1 (.slice (some ⟨G, 0, none⟩) s s) WA (.slice la d.n lc) v1 (.slice (some ⟨G, 0, none⟩) s s) wz) (fun i _ => d.n - (intOf i).toNat)
    case atStart => exact ⟨0, _, _, rfl, by omega, rfl, uh HDA, Stp.refl _ _ _ _ _ _⟩
    case round =>
     clear HDA c0 hclA HC0 HCL
     obtain ⟨k, X', u', rfl, hk, heq, hd, hst⟩ := hrel
     by_cases hkn : k < d.n
     ·have hix : idxN d k < s := by have h1 := idxN_mono d (k := k) (n := d.n) (by omega); have h2 := uh HIX'; omega
      obtain ⟨f1, f2, f3, f4, f5, f6, f7, f8, f9, f10⟩ := refill_says (hf := hf) (d := d) (x := s) k hix
      rw [← heq] at f2 f3
      have f2 : (useN X' s : Int) = u' := f2
      have f3 : useN X' s ≤ idxN d k := f3
      have hud : 0 ≤ u' ∧ u' ≤ 4000 := by omega
      have hus : useN X' s < s := by omega
      have HUD := uy (And.intro hud hus)
      have HEQ := uy heq
      have hsm : Small { d with x := s, X := X', used := u' } := ⟨(uh HS).n, (uh HS).m, by show s ≤ _; omega⟩
      have HSM := uy hsm
      have HST := uy hst
      have HDZ := uy hd
      obtain ⟨la', lc', ia, ic, xa, xc, ee0, ee1, ee2, hP⟩ := hd.ptr
      cases ee0
      cases ee2
      subst ee1
      have cz0 := hd.c0
      have hlz := hd.lt
      obtain ⟨lb, hlb⟩ : ∃ lb, lb = la := ⟨_, rfl⟩
      have hpl := hP.rows.log
      have HP := uy hP
      clear hd hP hst heq hud hus hsm f1 f2 f3 f4 f5 f6 f7 f8 f9 f10 hlb lb
      go_wp2_with fail
      refine (l1indexed_any c o la lc ia ic (some ⟨G, 0, none⟩) s _ k _ (uh HP) (uh HSM) hkn).mono ?_
      rintro e w1 ⟨rfl, hb1⟩
      have hdz1 := (uh HDZ).below hb1
      have HST1 := uy ((uh HST).trans (Stp.of_below hb1 hlz))
      have hpl1 := hpl.below hb1 rfl
      have c01 := hdz1.c0
      have hl1 := hdz1.lt
      have HDZ1 := uy hdz1
      clear hb1 hdz1 hpl cz0
      by_cases hx : indexedK d k
      ·rw [show tells (indexedK { d with x := s, X := X', used := u' } k) = true from tells_yes hx]
       have HH' := uy (uh HH k hkn hx)
       have HN : Hid ({ d with x := s, X := (refill hf d s (k + 1)).X, used := (refill hf d s (k + 1)).used } = refill hf d s (k + 1)) := uy (refill_eq (by have h1 := idxN_mono d (k := k + 1) (n := d.n) (by omega); have h2 := uh HIX'; omega))
       have HN2 : Hid (refill hf d s (k + 1) = enterD hf { d with x := s, X := X', used := u' } (d.L k).key k) := uy (by rw [refill_yes hx, uh HEQ])
       obtain ⟨pb, off, rfl, hpb, hpc⟩ := hpl1.resolve_left (by show d.n ≠ 0; omega)
       obtain ⟨p0, p1, p2, p3, p4, _, _, _, _, _, _⟩ := hpc k hkn
       clear hx hpc hpl1
       go_wp2_with fail
       refine (l1enter_any hf c o B _ _ (.slice (some ⟨G, 0, none⟩) s s) { d with x := s, X := X', used := u' } (d.L k).key k _ (uh HDZ1) ⟨hs8, hs4, uh HPW⟩ (uh HUD).2 (uh HUD).1 (by omega) (uh HH')).mono ?_
       rintro e w2 ⟨⟨⟨u, rfl⟩, hd2⟩, hst2⟩
       rw [← uh HN2, ← uh HN] at hd2
       have HD2 := uy hd2
       have HST2 := uy ((uh HST1).trans hst2)
       clear hd2 hst2 p0 p1 p2 p3 p4 c01
       go_wp2
       go_roundw
       case rel => exact ⟨k + 1, _, _, by go_num, by omega, uh HN, uh HD2, uh HST2⟩
       case measure => simp [intOf]; omega
      ·rw [show tells (indexedK { d with x := s, X := X', used := u' } k) = false from tells_no hx]
       have HN : Hid ({ d with x := s, X := X', used := u' } = refill hf d s (k + 1)) := uy (by rw [refill_no hx, uh HEQ])
       clear hx hpl1 c01
       go_wp2
       go_roundw
       case rel => exact ⟨k + 1, X', u', by go_num, by omega, uh HN, uh HDZ1, uh HST1⟩
       case measure => simp [intOf]; omega
     have hkn' : k = d.n := by omega
     subst hkn'
     have HEND := uy (And.intro (heq ▸ hd) ((uh HSA).trans hst))
     clear hd hst heq hk hkn
     go_wp2
     go_end0
     exact ⟨⟨_, rfl⟩, _, by rw [uh HRR]; exact (uh HEND).1, (uh HEND).2⟩
end
section
open Go.RowKit
attribute [local go_sem] run_store_float run_equalIn_float
def Whr (w : World) (b : Nat) (d : Dc) (k : Nat) : Prop := ∃ g, w.rowIs b 3 d.n g ∧ ∀ j, j < k → (d.L j).turn ≠ 0 → g j = .int .i64 ((rank d j : Int) + 1)
theorem Whr.keep {w w' : World} {b : Nat} {d : Dc} {k : Nat} (h : Whr w b d k) (e : w'.heap[b]? = w.heap[b]?) : Whr w' b d k := by
 obtain ⟨g, h1, h2⟩ := h
 exact ⟨g, h1.of_block e, h2⟩
theorem Whr.lt {w : World} {b : Nat} {d : Dc} {k : Nat} (h : Whr w b d k) : b < w.heap.size := by
 obtain ⟨g, h1, h2⟩ := h
 exact h1.lt
theorem Whr.cell {w : World} {b : Nat} {d : Dc} {k : Nat} (h : Whr w b d k) {j : Nat} (hj : j < k) (hn : j < d.n) (ht : (d.L j).turn ≠ 0) : w.cell? ⟨b, j, none⟩ = some (.int .i64 ((rank d j : Int) + 1)) := by
 obtain ⟨g, h1, h2⟩ := h
 rw [h1.cell hn, h2 j hj ht]
theorem Whr.any {w : World} {b : Nat} {d : Dc} {k : Nat} (h : Whr w b d k) {j : Nat} (hn : j < d.n) : ∃ u, w.cell? ⟨b, j, none⟩ = some u := by
 obtain ⟨g, h1, h2⟩ := h
 exact ⟨_, h1.cell hn⟩
theorem Whr.frozen {w : World} {b : Nat} {d : Dc} {k : Nat} (h : Whr w b d k) (j : Nat) : w.frozen? ⟨b, j, none⟩ = false := by
 obtain ⟨g, h1, h2⟩ := h
 exact h1.frozen j
theorem Whr.put {w : World} {b : Nat} {d : Dc} {k : Nat} (h : Whr w b d k) : Whr (w.setCell ⟨b, k, none⟩ (.int .i64 ((rank d k : Int) + 1))) b d (k + 1) := by
 obtain ⟨g, h1, h2⟩ := h
 refine ⟨_, h1.set k _, fun j hj ht => ?_⟩
 by_cases e : j = k
 ·subst e; simp
 ·simp only [e, if_false]; exact h2 j (by omega) ht
theorem Whr.skip {w : World} {b : Nat} {d : Dc} {k : Nat} (h : Whr w b d k) (ht : (d.L k).turn = 0) : Whr w b d (k + 1) := by
 obtain ⟨g, h1, h2⟩ := h
 refine ⟨g, h1, fun j hj ht' => ?_⟩
 by_cases e : j = k
 ·subst e; exact absurd ht ht'
 ·exact h2 j (by omega) ht'
def packI (d : Dc) (k : Nat) : Nat → Int := fun j => if j < k then (packD d).I j else d.I j
theorem packI_zero (d : Dc) (j : Nat) : packI d 0 j = d.I j := if_neg (by omega)
theorem packI_at (d : Dc) (k : Nat) : packI d k k = d.I k := if_neg (by omega)
theorem packI_all {d : Dc} {k j : Nat} (h : j < k) : packI d k j = (packD d).I j := if_pos h
theorem packI_dead {d : Dc} {k : Nat} (h : ¬ 0 < d.I k) (j : Nat) : packI d (k + 1) j = packI d k j := by
 unfold packI
 by_cases e : j = k
 ·subst e
  rw [if_pos (by omega), if_neg (by omega)]
  show (if 0 < d.I j then _ else d.I j) = _
  rw [if_neg h]
 ·by_cases e2 : j < k
  ·rw [if_pos (by omega), if_pos e2]
  ·rw [if_neg (by omega), if_neg e2]
theorem packI_live {d : Dc} {k q : Nat} (h : d.I k = (q : Int) + 1) (j : Nat) : packI d (k + 1) j = upd (packI d k) k ((rank d q : Int) + 1) j := by
 unfold packI
 by_cases e : j = k
 ·subst e
  rw [if_pos (by omega), upd_same]
  show (if 0 < d.I j then (rank d (d.I j - 1).toNat : Int) + 1 else d.I j) = _
  rw [if_pos (by omega), h, show ((q : Int) + 1 - 1).toNat = q by omega]
 ·rw [upd_other _ _ e]
  by_cases e2 : j < k
  ·rw [if_pos (by omega), if_pos e2]
  ·rw [if_neg (by omega), if_neg e2]
theorem compactD_not {hf : Vl → Nat} {d : Dc} (h : (d.n : Int) < 8 ∨ (d.n : Int) ≤ 2 * d.live) : compactD hf d = d := if_pos h
theorem compactD_yes {hf : Vl → Nat} {d : Dc} (h : ¬ ((d.n : Int) < 8 ∨ (d.n : Int) ≤ 2 * d.live)) : compactD hf d = reindexD hf (packD d) 0 := if_neg h
set_option maxRecDepth 100000 in
set_option maxHeartbeats 8000000 in
theorem l1compact_any (hf : Vl → Nat) (K : Vl → Prop) (c o B : Nat) (v0 v1 v2 : Value) (d : Dc) (w : World) (hM : DMut w c o B v0 v1 v2 d) (hS : Small d) (hC : Core K d) (hh : ∀ v, K v → HsS v (hf v)) :
  Calls Tryz.prog 129 #[Pc c o] w fun e w' => ((∃ u, e = .returned u) ∧ ∃ u0 u2, DMut w' c o B u0 v1 u2 (compactD hf d) ∧ Stp c o v0 v1 v2 w u0 v1 u2 w') := by
 obtain ⟨i0, hi, hz0, hz1, hz2⟩ := info_parts infoPair
 have hn := hS.n
 have hm := hS.m
 have hlv : (lvN d : Int) = d.live := hC.live_n
 have hl5 := hC.le
 have c0 := hM.c0
 have c4 := hM.c4
 have hcl := hM.lt
 have hBw := hM.base
 obtain ⟨la, lc, e0, hPA⟩ := hM.log.at
 subst e0
 have HM := uy hM
 have HS := uy hS
 have HC := uy hC
 have HH := uy hh
 have HPA := uy hPA
 have hw2 : IntKind.i64.wrap (2 * d.live) = 2 * d.live := by rw [IntKind.wrap_i64]; omega
 clear hM hS hC hh hPA
 by_cases h1 : (d.n : Int) < 8
 ·have HR := uy (compactD_not (hf := hf) (d := d) (.inl h1))
  have hd1 : decide ((d.n : Int) < 8) = true := by simp; omega
  clear h1
  go_enter Tryz.func129, Tryz.ntmps129
  go_wp2_with fail
  go_quiet (fail)
  go_wp2
  refine bodyPost_ret (results_none rfl _ _ _) rfl ?_
  exact ⟨⟨_, rfl⟩, _, _, by rw [uh HR]; exact (uh HM).below (below_drewN' (Below.refl _ _) _), Stp.of_below (below_drewN' (Below.refl _ _) _) hcl⟩
 have hd1 : decide ((d.n : Int) < 8) = false := by simp; omega
 by_cases h2 : (d.n : Int) ≤ 2 * d.live
 ·have HR := uy (compactD_not (hf := hf) (d := d) (.inr h2))
  have hd2 : decide ((d.n : Int) ≤ 2 * d.live) = true := by simp; omega
  clear h1 h2
  go_enter Tryz.func129, Tryz.ntmps129
  go_wp2_with fail
  go_quiet (fail)
  go_wp2
  refine bodyPost_ret (results_none rfl _ _ _) rfl ?_
  exact ⟨⟨_, rfl⟩, _, _, by rw [uh HR]; exact (uh HM).below (below_drewN' (Below.refl _ _) _), Stp.of_below (below_drewN' (Below.refl _ _) _) hcl⟩
 have hd2 : decide ((d.n : Int) ≤ 2 * d.live) = false := by simp; omega
 have HR := uy (compactD_yes (hf := hf) (d := d) (by omega))
 have mk := make_intsO d.n hn
 clear h1 h2
 go_enter Tryz.func129, Tryz.ntmps129
 go_wp2_with fail
 go_quiet (fail)
 obtain ⟨W0, hW0⟩ : ∃ W0, W0 = w.drewN nq := ⟨_, rfl⟩
 rw [← hW0]
 have HB0 : Hid (Below w.heap.size w W0) := uy (by rw [hW0]; exact below_drewN' (Below.refl _ _) _)
 have hzW : W0.heap.size = w.heap.size := by rw [hW0]; rfl
 have HZW := uy hzW
 clear hzW
 clear hW0
 have hM0 := (uh HM).below (uh HB0)
 have c0 := hM0.c0
 have hcl := hM0.lt
 have hPA0 := (uh HPA).below (uh HB0) rfl
 have HM0 := uy hM0
 have HPA0 := uy hPA0
 have hB0 := hM0.base
 clear hM0 hPA0 HPA c4
 go_wp2_with fail
 obtain ⟨W, hW⟩ : ∃ W, W = W0.alloc (.cells (madeCells #[Value.int .i64 0] d.n) 3) := ⟨_, rfl⟩
 rw [← hW]
 have HBW : Hid (Below W0.heap.size W0 W) := uy (by rw [hW]; exact (Below.refl _ _).alloc (Nat.le_refl _) _)
 have hzW1 : W0.heap.size < W.heap.size := by rw [hW]; simp
 have HWH : Hid (Whr W W0.heap.size d 0) := uy ⟨_, by rw [hW]; have h := made_zeros W0 d.n; simpa [Value.cells] using h, fun j hj => by omega⟩
 clear hW mk
 go_loopw [38, 2] (fun i q wr => ∃ (k : Nat) (v : Value), i = .int .i64 (k : Int) ∧ k ≤ d.n ∧ v = q ∧ POwn wr W.heap.size v (livL d k).length (lvF d) ∧ Whr wr W0.heap.size d k ∧ Below W0.heap.size W0 wr ∧ W.heap.size ≤ wr.heap.size) (fun i _ _ => d.n - (intOf i).toNat)
 case atStart => exact ⟨0, _, rfl, by omega, rfl, World.ownsRow_nil _ _ _ _, uh HWH, uh HBW, Nat.le_refl _⟩
 case round =>
  clear HWH HBW
  obtain ⟨k, v, rfl, hk, rfl, hown, hwh, hbw, hsz⟩ := hrel
  by_cases hkn : k < d.n
  ·obtain ⟨pb, off, rfl, hpb, hpc⟩ := (uh HPA0).resolve_left (by omega)
   obtain ⟨e0, e1, e2, e3, e4, e5, e6, e7, e8, e9, e10⟩ := (hpc k hkn).keep (fun q => hbw.cell (p := ⟨pb, q, none⟩) hpb)
   have hws := hbw.size
   have hml := livL_le d k
   have HB := uy hbw
   have HO := uy hown
   have HWH := uy hwh
   clear hpc hbw hown hwh
   by_cases hp : 0 < (d.L k).turn
   ·have hne : (d.L k).turn ≠ 0 := by omega
    have HF := uy (lvF_at hkn hne)
    have HN := uy (livL_live hne)
    have hdp : decide (0 < (d.L k).turn) = true := by simp [hp]
    have hltv := uy (uh HO).lt
    have HNE := uy hne
    have hwl := (uh HWH).lt
    clear hne hp
    go_wp2_with (first | (at_builtin; refine wpList_append_lies _ rfl _ _ 23 rfl W.heap.size 43 i0 PZ 11 104 Tryz.underlying23 hi hz0 hz1 hz2 rfl (by decide) v (livL d k).length (pL (lvF d) (livL d k).length) rfl (((uh HO).alloc _).alloc _) ⟨wr.heap.size + 1, 0, none⟩ 1 1 (prL (d.L k)) rfl rfl (news_after wr _ (prL (d.L k)) _) (prL_one _) (by decide) (by unfold maxLen; omega) (by omega) (by simp; omega) _ rfl ?_; intro g3 cp3 w3 hown3 hgr3 hloc3 hlt3; have hwb3 : w3.heap[W0.heap.size]? = wr.heap[W0.heap.size]? := ((hgr3.block W0.heap.size (by simp; omega) (fun e => by have := (uh hltv _ e.symm).1; omega)).trans (Deep.blk_alloc_lt _ _ _ (by simp; omega))).trans (Deep.blk_alloc_lt _ _ _ hwl); have HW3 := uy ((uh HWH).keep hwb3); have hs3 : W.heap.size ≤ w3.heap.size := (by have := hgr3.size; simp at this; omega); obtain ⟨wu, r0⟩ := (uh HW3).any hkn; have r1 := (uh HW3).frozen k; have hwl3 := (uh HW3).lt; have HG3 := uy ((((uh HB).alloc (by omega) _).alloc (by simp; omega) _).trans (grown_below hgr3 (fun q e => Nat.le_trans (by omega) (uh hltv q e).1) (by simp; omega))); have hg3 := (hown3.lt g3 rfl).1; have HO3 := uy hown3; clear hown3 hgr3 hwb3) | go_in)
    go_roundw
    case rel =>
     refine ⟨k + 1, _, by go_num, by omega, rfl, ?_, ?_, (uh HG3).setCell (by exact Nat.le_refl _) _, by simpa using hs3⟩
     ·have h := own_setOther (a := ⟨W0.heap.size, k, none⟩) (uh HO3) (.int .i64 ((rank d k : Int) + 1)) (fun e => by have e' : g3 = W0.heap.size := ownB e; omega)
      rw [uh HN, List.length_append, List.length_singleton]
      show World.ownsRow _ W.heap.size _ 11 _ _ (pL (lvF d) (livL d k).length ++ prL (lvF d (livL d k).length))
      rw [uh HF]
      exact h
     ·exact (uh HW3).put
    case measure => simp [intOf]; omega
   ·have hz0' : (d.L k).turn = 0 := by
     rcases (uh HC).log.ent k hkn with h | h
     ·exact h.1
     ·exact absurd h.1 hp
    have HN : Hid (livL d (k + 1) = livL d k) := uy (livL_dead hz0')
    have HW3 := uy ((uh HWH).skip hz0')
    clear hp
    rw [hz0'] at e10
    clear hz0'
    go_wp2
    go_roundw
    case rel =>
     refine ⟨k + 1, _, by go_num, by omega, rfl, ?_, (uh HW3).keep (Deep.blk_alloc_lt _ _ _ (uh HW3).lt), (uh HB).alloc hws _, by simp; omega⟩
     rw [uh HN]
     exact (uh HO).alloc _
    case measure => simp [intOf]; omega
  have hkn' : k = d.n := by omega
  subst hkn'
  have hM1 := (uh HM0).below hbw
  have hd1 := hM1.setLog (own_mono hown (by omega)) (fun e => by have := hown.lt c e; omega)
  have hs1 : Stp c o (.slice la d.n lc) v1 v2 w v v1 v2 (wr.setCell ⟨c, o, none⟩ v) := by
   refine stp_grown (row := none) v (grown_of_below ((uh HB0).trans (hbw.mono (Nat.le_of_eq (uh HZW).symm)))) (fun b e => by cases e) (by rw [← uh HZW]; exact hcl) (fun e => by cases e) (by omega) (fun b e => ?_)
   rcases e with e | e
   ·right
    have h1 := (hown.lt b e).1
    have h2 := uh HZW
    omega
   ·exact .inl (.inr e)
  have hwh1 : Whr (wr.setCell ⟨c, o, none⟩ v) W0.heap.size d d.n := hwh.keep (Deep.blk_setCell_other _ _ _ _ (by show W0.heap.size ≠ c; omega))
  have hcl1 := hM1.lt
  have c01 := hM1.c0
  have f01 := hM1.fz o
  have c1w := hM1.c1
  have hwn : ∀ b, Own3 v v1 v2 b → b ≠ W0.heap.size := fun b e => by
   rcases e with e | e
   ·have := (hown.lt b e).1; omega
   ·have := ((uh HM0).own3 (.inr e)).2; omega
  obtain ⟨ia, ic, e1, _⟩ := hM1.ints.at
  have HFM : Hid (0 < d.m → ∃ g cp, v1 = .slice (some ⟨g, 0, none⟩) d.m cp) := uy (fun h => by obtain ⟨g, cp, h, _⟩ := hM1.ints.form h; exact ⟨g, cp, h⟩)
  subst e1
  have HWN := uy hwn
  have HD1 := uy hd1
  have HS1 := uy hs1
  have HWH1 := uy hwh1
  have hwlt : W0.heap.size < wr.heap.size := by omega
  obtain ⟨W1, hW1⟩ : ∃ W1, W1 = wr.setCell ⟨c, o, none⟩ v := ⟨_, rfl⟩
  have c11 := (uh HD1).c1
  have hclW := (uh HD1).lt
  rw [← hW1] at HD1 HS1 HWH1 c11 hclW
  obtain ⟨va, vc, ev, _⟩ := hown.at
  subst ev
  clear hM1 hd1 hs1 hown hwh hbw hwh1 hwn hk hkn
  go_wp2_with fail
  rw [← hW1]
  clear hW1 c01 f01 hcl1 c1w
  go_loopw [65] (fun i wz => ∃ (k : Nat), i = .int .i64 (k : Int) ∧ k ≤ d.m ∧ DMut wz c o B (.slice va (livL d d.n).length vc) (.slice ia d.m ic) v2 { d with n := lvN d, L := lvF d, I := packI d k } ∧ Whr wz W0.heap.size d d.n ∧ Stp c o (.slice va (livL d d.n).length vc) (.slice ia d.m ic) v2 W1 (.slice va (livL d d.n).length vc) (.slice ia d.m ic) v2 wz) (fun i _ => d.m - (intOf i).toNat)
  case atStart => exact ⟨0, rfl, by omega, (uh HD1).of_same rfl (fun _ _ => rfl) rfl (fun j _ => packI_zero d j) rfl (fun _ _ => rfl) rfl rfl rfl, uh HWH1, Stp.refl _ _ _ _ _ _⟩
  case round =>
   clear HD1 HWH1 c11 hclW
   obtain ⟨k, rfl, hk, hd, hwh, hst⟩ := hrel
   by_cases hkm : k < d.m
   ·obtain ⟨g, cp, eg⟩ := uh HFM (by omega)
    cases eg
    obtain ⟨g', cp', eg', hBg, hgl, hcp, hcs, hfz⟩ := hd.ints.form (by show 0 < d.m; omega)
    cases eg'
    have e0 := hcs k hkm
    rw [show ({ d with n := lvN d, L := lvF d, I := packI d k } : Dc).I k = d.I k from packI_at d k] at e0
    have f0 := hfz k
    have hgw : g ≠ W0.heap.size := uh HWN g (.inr (.inl rfl))
    have hwg : W0.heap.size ≠ g := fun e => hgw e.symm
    have hgc : g ≠ c := fun e => hd.nc (.inr (.inl (by rw [← e]; rfl)))
    have c1 := hd.c1
    have hcl := hd.lt
    have HDK := uy hd
    have HST := uy hst
    have HWH := uy hwh
    have hwl := hwh.lt
    clear hcs hfz hd hst hwh
    rcases (uh HC).ints k hkm with hz | ⟨g1, g2, g3, g4, g5⟩
    ·rw [hz] at e0
     go_wp2
     go_roundw
     case rel => exact ⟨k + 1, by go_num, by omega, (uh HDK).of_same rfl (fun _ _ => rfl) rfl (fun j _ => packI_dead (by omega) j) rfl (fun _ _ => rfl) rfl rfl rfl, uh HWH, uh HST⟩
     case measure => simp [intOf]; omega
    ·obtain ⟨q, hq⟩ : ∃ q : Nat, d.I k = (q : Int) + 1 := ⟨(d.I k - 1).toNat, by omega⟩
     have hqn : q < d.n := by omega
     have hqt : (d.L q).turn ≠ 0 := by have h := g3; unfold Dc.at at h; rw [hq, show ((q : Int) + 1 - 1).toNat = q by omega] at h; exact h
     have r0 := (uh HWH).cell hqn hqn hqt
     have HN : Hid (DMut (wr.setCell ⟨g, k, none⟩ (.int .i64 ((rank d q : Int) + 1))) c o B (.slice va (livL d d.n).length vc) (.slice (some ⟨g, 0, none⟩) d.m ic) v2 { d with n := lvN d, L := lvF d, I := packI d (k + 1) }) := uy (by
      have h := DMut.putI (d := { d with n := lvN d, L := lvF d, I := packI d k }) (uh HDK) (i := k) hkm ((rank d q : Int) + 1)
      exact h.of_same rfl (fun _ _ => rfl) rfl (fun j _ => packI_live hq j) rfl (fun _ _ => rfl) rfl rfl rfl)
     have hst2 := (uh HST).trans (stp_row (c := c) (o := o) (v0 := (.slice va (livL d d.n).length vc)) (v1 := .slice (some ⟨g, 0, none⟩) d.m ic) (v2 := v2) (w := wr) (g := g) (q := k) (.int .i64 ((rank d q : Int) + 1)) (.inr (.inl rfl)) hgc)
     have HST2 := uy hst2
     have HW2 := uy ((uh HWH).keep (w' := wr.setCell ⟨g, k, none⟩ (.int .i64 ((rank d q : Int) + 1))) (Deep.blk_setCell_other _ _ _ _ (by exact hwg)))
     have hwq : IntKind.i64.wrap (q : Int) = q := by rw [IntKind.wrap_i64]; omega
     rw [hq] at e0
     clear hq g1 g2 g3 g4 g5 hst2 hqt
     go_wp2_with fail
     go_region
     go_wp2
     go_roundw
     case rel => exact ⟨k + 1, by go_num, by omega, (uh HN).below (Below.refl _ _).drew, (uh HW2).keep rfl, (uh HST2).trans (Stp.of_below (Below.refl _ _).drew (by simpa using hcl))⟩
     case measure => simp [intOf]; omega
   have hkm' : k = d.m := by omega
   subst hkm'
   have hdp : DMut wr c o B (.slice va (livL d d.n).length vc) (.slice ia d.m ic) v2 (packD d) := hd.of_same rfl (fun _ _ => rfl) rfl (fun j hj => (packI_all hj).symm) rfl (fun _ _ => rfl) rfl rfl rfl
   have hsm : Small (packD d) := ⟨Nat.le_trans (lvN_le d) hn, hm, (uh HS).x⟩
   have hcp := packD_core (uh HC)
   have HDP := uy hdp
   have HSP := uy hsm
   have HCP := uy hcp
   have HSTZ := uy ((uh HS1).trans hst)
   clear hd hst hwh hdp hsm hcp hk hkm
   go_wp2_with fail
   refine (l1reindex_any hf c o B _ _ v2 (packD d) 0 _ (uh HDP) (uh HSP) (packD_idx (uh HC)) (fun i hi hx => uh HH _ ((uh HCP).keys i hi (by have := hx.1; omega)))).mono ?_
   rintro e w9 ⟨⟨u, rfl⟩, u2, hd9, hs9⟩
   have HD9 := uy hd9
   have HS9 := uy ((uh HSTZ).trans hs9)
   clear hd9 hs9
   go_wp2
   go_end0
   exact ⟨⟨_, rfl⟩, _, _, by rw [uh HR]; exact uh HD9, uh HS9⟩
end
section
open Go.RowKit
attribute [local go_sem] run_store_float run_equalIn_float
theorem upd_upd {α : Type} (f : Nat → α) (i : Nat) (a b : α) : upd (upd f i a) i b = upd f i b := by
 funext j
 by_cases e : j = i
 ·subst e; rw [upd_same, upd_same]
 ·rw [upd_other _ _ e, upd_other _ _ e, upd_other _ _ e]
theorem pL_set (f : Nat → Pr) (n i j : Nat) (u : Value) (p : Pr) (hi : i < n) (hj : j < 11) (hp : prL p = (prL (f i)).set j u) : (pL f n).set (i * 11 + j) u = pL (upd f i p) n := by
 apply List.ext_getElem?
 intro q
 rw [List.getElem?_set]
 by_cases hq : q < n * 11
 ·have e1 : q = q / 11 * 11 + q % 11 := by omega
  have h1 : q / 11 < n := by omega
  have h2 : q % 11 < 11 := Nat.mod_lt _ (by omega)
  have g1 : (pL f n)[q]? = (prL (f (q / 11)))[q % 11]? := by have := pL_get (f := f) h1 h2; rwa [← e1] at this
  have g2 : (pL (upd f i p) n)[q]? = (prL (upd f i p (q / 11)))[q % 11]? := by have := pL_get (f := upd f i p) h1 h2; rwa [← e1] at this
  rw [g1, g2]
  by_cases e : q / 11 = i
  ·rw [e, upd_same, hp, List.getElem?_set]
   by_cases e2 : i * 11 + j = q
   ·rw [if_pos e2, if_pos (by rw [pL_length]; omega), if_pos (by omega), if_pos (by simp [prL]; omega)]
   ·rw [if_neg e2, if_neg (by omega)]
  ·rw [upd_other _ _ e, if_neg (by omega)]
 ·rw [if_neg (by omega), List.getElem?_eq_none (by rw [pL_length]; omega), List.getElem?_eq_none (by rw [pL_length]; omega)]
theorem POwn.setF {w : World} {B g n cp : Nat} {f : Nat → Pr} (h : POwn w B (.slice (some ⟨g, 0, none⟩) n cp) n f) {i : Nat} (hi : i < n) (j : Nat) (hj : j < 11) (u : Value) (p : Pr) (hp : prL p = (prL (f i)).set j u) : POwn (w.setCell ⟨g, i * 11 + j, none⟩ u) B (.slice (some ⟨g, 0, none⟩) n cp) n (upd f i p) := by
 have h1 := (World.ownsRow.stored h (i * 11 + j) u).1
 rw [pL_set f n i j u p hi hj hp] at h1
 exact h1
theorem DMut.putL {w : World} {c o B g cp : Nat} {v1 v2 : Value} {d : Dc} (h : DMut w c o B (.slice (some ⟨g, 0, none⟩) d.n cp) v1 v2 d) {i : Nat} (hi : i < d.n) (j : Nat) (hj : j < 11) (u : Value) (p : Pr) (hp : prL p = (prL (d.L i)).set j u) : DMut (w.setCell ⟨g, i * 11 + j, none⟩ u) c o B (.slice (some ⟨g, 0, none⟩) d.n cp) v1 v2 { d with L := upd d.L i p } :=
 h.rowc (.inl rfl) rfl rfl rfl (h.log.setF hi j hj u p hp) (own_setOther h.ints _ (fun e => own_apart h.log h.ints rfl e)) (own_setOther h.index _ (fun e => own_apart h.log h.index rfl e))
theorem enterD_X {hf : Vl → Nat} {a b : Dc} {k : Vl} {p : Nat} (hx : a.x = b.x) (hX : a.X = b.X) (hu : a.used = b.used) : (enterD hf a k p).X = (enterD hf b k p).X ∧ (enterD hf a k p).used = (enterD hf b k p).used := by
 unfold enterD
 rw [hx, hX, hu]
 cases freeSlot b.x b.X (hf k % b.x) with
 | none => exact ⟨hX, hu⟩
 | some s => exact ⟨rfl, rfl⟩
theorem refill_X {hf : Vl → Nat} {a b : Dc} {x : Nat} : ∀ k, idxN a k < x → idxN b k < x → (∀ i, i < k → (indexedK a i ↔ indexedK b i)) → (∀ i, i < k → (a.L i).key = (b.L i).key) → (refill hf a x k).X = (refill hf b x k).X ∧ (refill hf a x k).used = (refill hf b x k).used := by
 intro k
 induction k with
 | zero => intro _ _ _ _; exact ⟨rfl, rfl⟩
 | succ k ih =>
  intro ha hb hi hk
  have ha' := Nat.lt_of_le_of_lt (idxN_mono a (k := k) (n := k + 1) (by omega)) ha
  have hb' := Nat.lt_of_le_of_lt (idxN_mono b (k := k) (n := k + 1) (by omega)) hb
  obtain ⟨i1, i2⟩ := ih ha' hb' (fun i h => hi i (by omega)) (fun i h => hk i (by omega))
  by_cases h : indexedK a k
  ·rw [refill_yes h, refill_yes ((hi k (by omega)).1 h), hk k (by omega)]
   exact enterD_X ((refill_says k ha').2.2.2.1.trans (refill_says k hb').2.2.2.1.symm) i1 i2
  ·rw [refill_no h, refill_no (fun h' => h ((hi k (by omega)).2 h'))]
   exact ⟨i1, i2⟩
theorem idxN_congr {a b : Dc} : ∀ k, (∀ i, i < k → (indexedK a i ↔ indexedK b i)) → idxN a k = idxN b k := by
 intro k
 induction k with
 | zero => intro _; rfl
 | succ k ih =>
  intro h
  have e := ih (fun i hi => h i (by omega))
  by_cases hh : indexedK a k
  ·rw [idxN_yes hh, idxN_yes ((h k (by omega)).1 hh), e]
  ·rw [idxN_no hh, idxN_no (fun h' => hh ((h k (by omega)).2 h')), e]
def addZ (c : Dc) (k v : Vl) : Dc := { addL c k v with L := upd c.L c.n ⟨k, v, 0⟩ }
theorem addZ_old {c : Dc} {k v : Vl} {i : Nat} (h : i < c.n) : (addZ c k v).L i = c.L i := upd_other _ _ (by omega)
theorem addZ_indexed {c : Dc} {k v : Vl} {i : Nat} (h : i < c.n) : indexedK (addZ c k v) i ↔ indexedK c i := by
 unfold indexedK
 rw [addZ_old h]
 exact Iff.rfl
theorem addZ_last {c : Dc} {k v : Vl} : ¬ indexedK (addZ c k v) c.n := by
 unfold indexedK
 rw [show (addZ c k v).L c.n = ⟨k, v, 0⟩ from upd_same _ _ _]
 intro h
 exact absurd h.1 (by show ¬ (0 : Int) < 0; omega)
theorem addZ_idxN {c : Dc} {k v : Vl} : idxN (addZ c k v) (addZ c k v).n = idxN c c.n := by
 show idxN (addZ c k v) (c.n + 1) = _
 rw [idxN_no addZ_last]
 exact idxN_congr _ (fun i hi => addZ_indexed hi)
theorem addZ_reindex {hf : Vl → Nat} {c : Dc} {k v : Vl} (hm : idxN c c.n + 1 ≤ 500) : { reindexD hf (addZ c k v) 1 with L := upd c.L c.n ⟨k, v, c.turns + 1⟩ } = addL (reindexD hf c 1) k v := by
 have e := addZ_idxN (c := c) (k := k) (v := v)
 rw [reindexD_some (d := c) (by omega), reindexD_some (d := addZ c k v) (by omega), e]
 obtain ⟨s1, s2, s3, s4⟩ := sizeFor_says hm
 have hn : (addZ c k v).n = c.n + 1 := rfl
 obtain ⟨_, _, _, a4, a5, a6, a7, a8, a9, a10⟩ := refill_says (hf := hf) (d := addZ c k v) (x := sizeFor (idxN c c.n + 1)) (addZ c k v).n (by omega)
 obtain ⟨_, _, _, b4, b5, b6, b7, b8, b9, b10⟩ := refill_says (hf := hf) (d := c) (x := sizeFor (idxN c c.n + 1)) c.n (by omega)
 have hX : (refill hf (addZ c k v) (sizeFor (idxN c c.n + 1)) (addZ c k v).n).X = (refill hf c (sizeFor (idxN c c.n + 1)) c.n).X ∧ (refill hf (addZ c k v) (sizeFor (idxN c c.n + 1)) (addZ c k v).n).used = (refill hf c (sizeFor (idxN c c.n + 1)) c.n).used := by
  rw [hn, refill_no addZ_last]
  refine refill_X c.n ?_ (by omega) (fun i hi => addZ_indexed hi) (fun i hi => by rw [addZ_old hi])
  rw [idxN_congr c.n (fun i hi => addZ_indexed hi)]
  omega
 refine Dc.eq_of ?_ ?_ ?_ ?_ ?_ hX.1 hX.2 ?_ ?_
 ·show (refill hf (addZ c k v) _ _).n = (refill hf c _ _).n + 1; rw [a5, b5]; rfl
 ·show _ = upd (refill hf c _ _).L (refill hf c _ _).n ⟨k, v, (refill hf c _ _).turns + 1⟩; rw [b5, b6, b10]
 ·show (refill hf (addZ c k v) _ _).m = (refill hf c _ _).m; rw [a7, b7]; rfl
 ·show (refill hf (addZ c k v) _ _).I = (refill hf c _ _).I; rw [a8, b8]; rfl
 ·show (refill hf (addZ c k v) _ _).x = (refill hf c _ _).x; rw [a4, b4]
 ·show (refill hf (addZ c k v) _ _).live = (refill hf c _ _).live + 1; rw [a9, b9]; rfl
 ·show (refill hf (addZ c k v) _ _).turns = (refill hf c _ _).turns + 1; rw [a10, b10]; rfl
end
section
open Go.RowKit
attribute [local go_sem] run_store_float run_equalIn_float
theorem Stp.far {c o : Nat} {v0 v1 v2 u0 u1 u2 : Value} {w w' : World} (h : Stp c o v0 v1 v2 w u0 u1 u2 w') {b : Nat} (hb : b < w.heap.size) (hc : b ≠ c) (ho : ¬ Own3 v0 v1 v2 b) : w'.heap[b]? = w.heap[b]? ∧ b < w'.heap.size ∧ ¬ Own3 u0 u1 u2 b :=
 ⟨h.block b hb hc ho, Nat.lt_of_lt_of_le hb h.size, fun e => (h.sub b e).elim ho (fun e' => by omega)⟩
structure Box (w : World) (b : Nat) (v : Vl) : Prop where
 lt : b < w.heap.size
 k0 : w.cell? ⟨b, 0, none⟩ = some (.int .i64 v.kind)
 k1 : w.cell? ⟨b, 1, none⟩ = some (.int .i64 v.num)
 k2 : w.cell? ⟨b, 2, none⟩ = some (.float .f64 v.flt)
 k3 : w.cell? ⟨b, 3, none⟩ = some (.string v.str)
 k4 : w.cell? ⟨b, 4, none⟩ = some (.int .i64 v.ref)
theorem Box.keep {w w' : World} {b : Nat} {v : Vl} (h : Box w b v) (hs : w.heap.size ≤ w'.heap.size) (e : w'.heap[b]? = w.heap[b]?) : Box w' b v := by
 have e' : ∀ q, w'.cell? ⟨b, q, none⟩ = w.cell? ⟨b, q, none⟩ := fun q => World.cell?_of_block e
 exact ⟨Nat.lt_of_lt_of_le h.lt hs, (e' _).trans h.k0, (e' _).trans h.k1, (e' _).trans h.k2, (e' _).trans h.k3, (e' _).trans h.k4⟩
def NQ (R : Act → World → Prop) : Exit → Act → World → Prop
 | .normal, a, w => R a w
 | _, _, _ => False
theorem NQ.intro {R : Act → World → Prop} {Q : Exit → Act → World → Prop} (h : ∀ a w, R a w → Q .normal a w) : ∀ e a w, NQ R e a w → Q e a w := by
 intro e a w hq
 cases e <;> first | exact h a w hq | exact hq.elim
def lenAt (w : World) (c o : Nat) : Nat := match w.cell? ⟨c, o + 1, none⟩ with
 | some (.slice _ n _) => n
 | _ => 0
theorem lenAt_of {w : World} {c o n cp : Nat} {a : Option Addr} (h : w.cell? ⟨c, o + 1, none⟩ = some (.slice a n cp)) : lenAt w c o = n := by unfold lenAt; rw [h]
theorem reindexD_same' {hf : Vl → Nat} {d : Dc} {more : Nat} (hm : idxN d d.n + more ≤ 500) : SameLog (reindexD hf d more) d := by
 by_cases e : idxN d d.n + more = 0
 ·rw [reindexD_none e]; exact ⟨rfl, rfl, rfl, rfl, rfl, rfl⟩
 ·rw [reindexD_some e]
  obtain ⟨s1, s2, s3, s4⟩ := sizeFor_says hm
  obtain ⟨h1, h2, h3, h4, h5, h6, h7, h8, h9, h10⟩ := refill_says (hf := hf) (d := d) (x := sizeFor (idxN d d.n + more)) d.n (by omega)
  exact ⟨h5, h6, h7, h8, h9, h10⟩
structure BoxD (w : World) (c : Nat) (v0 v1 v2 : Value) (b : Nat) (v : Vl) : Prop where
 box : Box w b v
 nc : b ≠ c
 no : ¬ Own3 v0 v1 v2 b
theorem BoxD.step {c o : Nat} {v0 v1 v2 u0 u1 u2 : Value} {w w' : World} {b : Nat} {v : Vl} (h : BoxD w c v0 v1 v2 b v) (k : Stp c o v0 v1 v2 w u0 u1 u2 w') : BoxD w' c u0 u1 u2 b v := by
 obtain ⟨h1, h2, h3⟩ := k.far h.box.lt h.nc h.no
 exact ⟨h.box.keep k.size h1, h.nc, h3⟩
theorem grown_from {W w3 : World} {o : Obj} {row : Option Nat} (h : (W.drew.alloc o).grownBy w3 row) : W.grownBy w3 row :=
 ⟨h.os, h.tape, h.output, by have := h.size; simp at this; omega, fun b hb hr => (h.block b (by simp; omega) hr).trans (Deep.blk_alloc_lt _ _ _ hb)⟩
theorem grown_from' {W w3 : World} {o : Obj} {row : Option Nat} (h : (W.alloc o).grownBy w3 row) : W.grownBy w3 row :=
 ⟨h.os, h.tape, h.output, by have := h.size; simp at this; omega, fun b hb hr => (h.block b (by simp; omega) hr).trans (Deep.blk_alloc_lt _ _ _ hb)⟩
theorem pL_snoc (f : Nat → Pr) (n : Nat) (p : Pr) : pL f n ++ prL p = pL (upd f n p) (n + 1) := by
 show _ = pL (upd f n p) n ++ prL (upd f n p n)
 rw [upd_same]
 congr 1
 have : ∀ m, m ≤ n → pL f m = pL (upd f n p) m := by
  intro m
  induction m with
  | zero => intro _; rfl
  | succ m ih => intro hm; show pL f m ++ prL (f m) = pL (upd f n p) m ++ prL (upd f n p m); rw [ih (by omega), upd_other _ _ (by omega)]
 exact this n (Nat.le_refl _)
theorem iL_snoc (f : Nat → Int) (n : Nat) (x : Int) : iL f n ++ [.int .i64 x] = iL (upd f n x) (n + 1) := by
 show _ = iL (upd f n x) n ++ [.int .i64 (upd f n x n)]
 rw [upd_same]
 congr 1
 have : ∀ m, m ≤ n → iL f m = iL (upd f n x) m := by
  intro m
  induction m with
  | zero => intro _; rfl
  | succ m ih => intro hm; show iL f m ++ [_] = iL (upd f n x) m ++ [_]; rw [ih (by omega), upd_other _ _ (by omega)]
 exact this n (Nat.le_refl _)
theorem kept_ne {w w3 : World} {B e size n : Nat} {v : Value} {xs : List Value} {row : Option Nat} (h : w.ownsRow B e size v n xs) (hg : w.grownBy w3 row) (hr : ∀ b, row = some b → v.ownBlock ≠ some b) : w3.ownsRow B e size v n xs := by
 cases hv : v.ownBlock with
 | none => exact h.kept hg (.inl hv)
 | some b => exact h.kept hg (.inr (by rw [hv]; intro e; exact hr b e.symm hv))
section
variable {w w3 : World} {c o B : Nat} {v0 v1 v2 u : Value} {d : Dc}
theorem DMut.growL (h : DMut w c o B v0 v1 v2 d) (hg : w.grownBy w3 v0.ownBlock) {n : Nat} {L : Nat → Pr} (hu : POwn w3 B u n L) (hs : ∀ b, u.ownBlock = some b → v0.ownBlock = some b ∨ w.heap.size ≤ b) :
  DMut (w3.setCell ⟨c, o, none⟩ u) c o B u v1 v2 { d with n := n, L := L } ∧ Stp c o v0 v1 v2 w u v1 v2 (w3.setCell ⟨c, o, none⟩ u) := by
 have hc : v0.ownBlock ≠ some c := fun e => h.nc (.inl e)
 have e3 : w3.heap[c]? = w.heap[c]? := hg.block c h.lt (fun e => hc e.symm)
 have ec : ∀ q, w3.cell? ⟨c, q, none⟩ = w.cell? ⟨c, q, none⟩ := fun q => World.cell?_of_block e3
 have nu : u.ownBlock ≠ some c := fun e => (hs c e).elim hc (fun e' => by have := h.lt; omega)
 have hi : IOwn w3 B v1 d.m d.I := kept_ne h.ints hg (fun b e => own_apart h.log h.ints e)
 have hx : IOwn w3 B v2 d.x d.X := kept_ne h.index hg (fun b e => own_apart h.log h.index e)
 refine ⟨⟨by simpa using Nat.lt_of_lt_of_le h.lt hg.size, cell_set_same ((ec _).trans h.c0), (cell_set_other (by omega)).trans ((ec _).trans h.c1), (cell_set_other (by omega)).trans ((ec _).trans h.c2), (cell_set_other (by omega)).trans ((ec _).trans h.c3), (cell_set_other (by omega)).trans ((ec _).trans h.c4), (cell_set_other (by omega)).trans ((ec _).trans h.c5), fun q => by rw [World.frozen?_setCell]; exact (World.frozen?_of_block e3).trans (h.fz q), own_setOther hu _ nu, own_setOther hi _ (fun e => h.nc (.inr (.inl e))), own_setOther hx _ (fun e => h.nc (.inr (.inr e))), h.ap, fun e => e.elim nu (fun e => h.nc (.inr e)), by simpa using Nat.le_trans h.base hg.size⟩, ?_⟩
 exact stp_grown u hg (fun b e => .inl (.inl e)) h.lt hc (by omega) (fun b e => e.elim (fun e => (hs b e).elim (fun e => .inl (.inl e)) .inr) (fun e => .inl (.inr e)))
theorem DMut.growI (h : DMut w c o B v0 v1 v2 d) (hg : w.grownBy w3 v1.ownBlock) {m : Nat} {I : Nat → Int} (hu : IOwn w3 B u m I) (hs : ∀ b, u.ownBlock = some b → v1.ownBlock = some b ∨ w.heap.size ≤ b) :
  DMut (w3.setCell ⟨c, o + 1, none⟩ u) c o B v0 u v2 { d with m := m, I := I } ∧ Stp c o v0 v1 v2 w v0 u v2 (w3.setCell ⟨c, o + 1, none⟩ u) := by
 have hc : v1.ownBlock ≠ some c := fun e => h.nc (.inr (.inl e))
 have e3 : w3.heap[c]? = w.heap[c]? := hg.block c h.lt (fun e => hc e.symm)
 have ec : ∀ q, w3.cell? ⟨c, q, none⟩ = w.cell? ⟨c, q, none⟩ := fun q => World.cell?_of_block e3
 have nu : u.ownBlock ≠ some c := fun e => (hs c e).elim hc (fun e' => by have := h.lt; omega)
 have hl : POwn w3 B v0 d.n d.L := kept_ne h.log hg (fun b e e' => own_apart h.log h.ints e' e)
 have hx : IOwn w3 B v2 d.x d.X := kept_ne h.index hg (fun b e => h.ap b e)
 refine ⟨⟨by simpa using Nat.lt_of_lt_of_le h.lt hg.size, (cell_set_other (by omega)).trans ((ec _).trans h.c0), cell_set_same ((ec _).trans h.c1), (cell_set_other (by omega)).trans ((ec _).trans h.c2), (cell_set_other (by omega)).trans ((ec _).trans h.c3), (cell_set_other (by omega)).trans ((ec _).trans h.c4), (cell_set_other (by omega)).trans ((ec _).trans h.c5), fun q => by rw [World.frozen?_setCell]; exact (World.frozen?_of_block e3).trans (h.fz q), own_setOther hl _ (fun e => h.nc (.inl e)), own_setOther hu _ nu, own_setOther hx _ (fun e => h.nc (.inr (.inr e))), ?_, fun e => e.elim (fun e => h.nc (.inl e)) (fun e => e.elim nu (fun e => h.nc (.inr (.inr e)))), by simpa using Nat.le_trans h.base hg.size⟩, ?_⟩
 ·intro q e e'
  exact (hs q e).elim (fun e1 => h.ap q e1 e') (fun e1 => by have := (h.index.lt q e').2; omega)
 ·exact stp_grown u hg (fun b e => .inl (.inr (.inl e))) h.lt hc (by omega) (fun b e => e.elim (fun e => .inl (.inl e)) (fun e => e.elim (fun e => (hs b e).elim (fun e => .inl (.inr (.inl e))) .inr) (fun e => .inl (.inr (.inr e)))))
end
set_option maxRecDepth 100000 in
set_option maxHeartbeats 8000000 in
theorem l1come_any (hf : Vl → Nat) (K : Vl → Prop) (KL : KeyLaw K hf) (c o B : Nat) (v0 v1 v2 : Value) (d : Dc) (k v : Vl) (w : World) (hM : DMut w c o B v0 v1 v2 d) (hS : Small d) (hI : Inv0 K hf d) (hN : Next d) (hh : ∀ v, K v → HsS v (hf v))
  (hk : K k) (hkb : keyB k = true) (hv : v.ok = true) (hv0 : v.kind ≠ 0) (hno : ∀ i, i < d.n → (d.L i).turn ≠ 0 → likeB (d.L i).key k = false) (hl : d.live < 500) (ht : d.turns < 1000000000000) (hmm : d.m ≤ 4000000) :
  Calls Tryz.prog 105 #[Pc c o, V k.kind k.num k.flt k.str k.ref, V v.kind v.num v.flt v.str v.ref] w fun e w' => ((∃ u, e = .returned u) ∧ ∃ u0 u1 u2, DMut w' c o B u0 u1 u2 (comeD hf d k v) ∧ Stp c o v0 v1 v2 w u0 u1 u2 w') := by
 obtain ⟨i0, hi, hz0, hz1, hz2⟩ := info_parts infoPair
 obtain ⟨j0, ji, jz0, jz1, jz2⟩ := info_parts infoInt
 have hB0 : Below w.heap.size w ((w.alloc (.cells #[.int .i64 k.kind, .int .i64 k.num, .float .f64 k.flt, .string k.str, .int .i64 k.ref] 30)).alloc (.cells #[.int .i64 v.kind, .int .i64 v.num, .float .f64 v.flt, .string v.str, .int .i64 v.ref] 30)) := ((Below.refl _ _).alloc (Nat.le_refl _) _).alloc (by simp) _
 obtain ⟨W, hW⟩ : ∃ W, W = (w.alloc (.cells #[.int .i64 k.kind, .int .i64 k.num, .float .f64 k.flt, .string k.str, .int .i64 k.ref] 30)).alloc (.cells #[.int .i64 v.kind, .int .i64 v.num, .float .f64 v.flt, .string v.str, .int .i64 v.ref] 30) := ⟨_, rfl⟩
 rw [← hW] at hB0
 have hMW := hM.below hB0
 have bk : BoxD W c v0 v1 v2 w.heap.size k := ⟨⟨by rw [hW]; simp; omega, by rw [hW]; simp [go_sem], by rw [hW]; simp [go_sem], by rw [hW]; simp [go_sem], by rw [hW]; simp [go_sem], by rw [hW]; simp [go_sem]⟩, fun e => by have := hM.lt; omega, fun e => by have := (hM.own3 e).2; omega⟩
 have bv : BoxD W c v0 v1 v2 (w.heap.size + 1) v := ⟨⟨by rw [hW]; simp, by rw [hW]; simp [go_sem], by rw [hW]; simp [go_sem], by rw [hW]; simp [go_sem], by rw [hW]; simp [go_sem], by rw [hW]; simp [go_sem]⟩, fun e => by have := hM.lt; omega, fun e => by have := (hM.own3 e).2; omega⟩
 have hsW : Stp c o v0 v1 v2 w v0 v1 v2 W := Stp.of_below hB0 hM.lt
 have hIc := compactD_inv (hf := hf) hI
 have hNc := compactD_next (hf := hf) hI.core hN
 obtain ⟨cl1, cl2, cl3, cl4⟩ := compactD_live (hf := hf) hI.core
 have hno' : ∀ i, i < (compactD hf d).n → ((compactD hf d).L i).turn ≠ 0 → likeB ((compactD hf d).L i).key k = false := by
  intro i hi hti
  cases e : likeB ((compactD hf d).L i).key k
  ·rfl
  ·obtain ⟨j, g1, g2, g3⟩ := (compactD_pairs (hf := hf) hI.core (fun p => likeB p.key k = true)).1 ⟨i, hi, hti, e⟩
   rw [hno j g1 g2] at g3
   cases g3
 have hcore := hI.core
 have hm := hmm
 have HIc := uy hIc
 have HNc := uy hNc
 have HNO := uy hno'
 have HMW := uy hMW
 have HBK := uy bk
 have HBV := uy bv
 have HSW := uy hsW
 have HS := uy hS
 have HCO := uy hcore
 have HH := uy hh
 have HKL := uy KL
 have HK := uy (And.intro hk (And.intro hkb (And.intro hv hv0)))
 have HCD : Hid (comeD hf d k v = comeC hf (compactD hf d) k v) := uy rfl
 clear hM hMW bk bv hsW hS hI hN hh KL hk hkb hv hv0 hno hno' hIc hNc hB0 hcore
 go_enter Tryz.func105, Tryz.ntmps105
 go_wp2_with fail
 rw [← hW]
 clear hW
 refine (l1compact_any hf K c o B v0 v1 v2 d _ (uh HMW) (uh HS) (uh HCO) (uh HH)).mono ?_
 rintro e w1 ⟨⟨u, rfl⟩, t0, t2, hM1, hs1⟩
 have HBK1 := uy ((uh HBK).step hs1)
 have HBV1 := uy ((uh HBV).step hs1)
 have HS1 := uy ((uh HSW).trans hs1)
 generalize hcc : compactD hf d = cD at hM1 HIc HNc HNO HCD cl1 cl2 cl3 cl4
 have hcn : cD.n ≤ 1000 := by omega
 have hct : 0 ≤ cD.turns ∧ cD.turns < 1000000000000 := ⟨(uh HIc).turns.1, by omega⟩
 have hcl : cD.live < 500 ∧ 0 ≤ cD.live := ⟨by omega, by have := (uh HIc).log.cnt; omega⟩
 have hcm : cD.m ≤ 4000000 := by rw [cl3]; exact hm
 obtain ⟨la, lc, e0, _⟩ := hM1.log.at
 subst e0
 have c0 := hM1.c0
 have c4 := hM1.c4
 have c5 := hM1.c5
 have f0 := hM1.fz o
 have f4 := hM1.fz (o + 4)
 have f5 := hM1.fz (o + 5)
 have hlt := hM1.lt
 have HM1 := uy hM1
 clear hs1 hM1 hcc HBK HBV HSW HMW cl1 cl2 cl3 cl4 hl ht hm hmm
 -- the turn, the number that live
 obtain ⟨W2, hW2⟩ : ∃ W2, W2 = (w1.setCell ⟨c, o + 5, none⟩ (.int .i64 (cD.turns + 1))).setCell ⟨c, o + 4, none⟩ (.int .i64 (cD.live + 1)) := ⟨_, rfl⟩
 have hM2 := ((uh HM1).setTurns (cD.turns + 1)).setLive (cD.live + 1)
 have hs2 := ((uh HS1).trans (stp_field (c := c) (o := o) (v0 := .slice la cD.n lc) (v1 := v1) (v2 := t2) (w := w1) (q := o + 5) (.int .i64 (cD.turns + 1)) (by omega) (fun b e => .inl e))).trans (stp_field (q := o + 4) (.int .i64 (cD.live + 1)) (by omega) (fun b e => .inl e))
 have hst12 : Stp c o (.slice la cD.n lc) v1 t2 w1 (.slice la cD.n lc) v1 t2 ((w1.setCell ⟨c, o + 5, none⟩ (.int .i64 (cD.turns + 1))).setCell ⟨c, o + 4, none⟩ (.int .i64 (cD.live + 1))) := (stp_field (q := o + 5) (.int .i64 (cD.turns + 1)) (by omega) (fun b e => .inl e)).trans (stp_field (q := o + 4) (.int .i64 (cD.live + 1)) (by omega) (fun b e => .inl e))
 have HBK2 := uy ((uh HBK1).step hst12)
 have HBV2 := uy ((uh HBV1).step hst12)
 rw [← hW2] at hM2 hs2 HBK2 HBV2
 have HM2 := uy hM2
 have HS2 := uy hs2
 clear hM2 hs2 hst12 HM1 HS1 HBK1 HBV1
 go_wp2_with fail
 rw [← hW2]
 clear hW2 c0 c4 c5 f0 f4 f5 hlt
 have c0 := (uh HM2).c0
 have c5 := (uh HM2).c5
 have f0 := (uh HM2).fz o
 have hlt := (uh HM2).lt
 obtain ⟨bl, k0, k1, k2, k3, k4⟩ := (uh HBK2).box
 obtain ⟨bl', q0, q1, q2, q3, q4⟩ := (uh HBV2).box
 have HOW : Hid (POwn W2.drew B (.slice la cD.n lc) cD.n cD.L) := uy (uh HM2).log.drew
 have hBz := (uh HM2).base
 have HG : Hid (∀ (g3 cp3 : Nat) (w3 : World), w3.ownsRow B 43 11 (.slice (some ⟨g3, 0, none⟩) (cD.n + 1) cp3) (cD.n + 1) (pL cD.L cD.n ++ prL ⟨k, v, cD.turns + 1⟩) → W2.grownBy w3 (Value.slice la cD.n lc).ownBlock → ((Value.slice la cD.n lc).ownBlock = some g3 ∨ W2.heap.size ≤ g3) →
   DMut (w3.setCell ⟨c, o, none⟩ (.slice (some ⟨g3, 0, none⟩) (cD.n + 1) cp3)) c o B (.slice (some ⟨g3, 0, none⟩) (cD.n + 1) cp3) v1 t2 (addL cD k v) ∧ Stp c o (.slice la cD.n lc) v1 t2 W2 (.slice (some ⟨g3, 0, none⟩) (cD.n + 1) cp3) v1 t2 (w3.setCell ⟨c, o, none⟩ (.slice (some ⟨g3, 0, none⟩) (cD.n + 1) cp3))) := uy (fun g3 cp3 w3 h1 h2 h3 => by
  rw [pL_snoc] at h1
  exact (uh HM2).growL h2 h1 (fun b e => by rw [← ownB e]; exact h3))
 have hnc : (Value.slice la cD.n lc).ownBlock ≠ some c := fun e => (uh HM2).nc (.inl e)
 have HNC := uy hnc
 clear hnc
 refine Code.wp_mono (Q := NQ fun a' w' => ∃ (g3 cp3 : Nat), a' = { tmps := #[Pc c o, V k.kind k.num k.flt k.str k.ref, V v.kind v.num v.flt v.str v.ref, undef, Value.pointer (some { block := w.heap.size, off := 0 }), Value.pointer (some { block := w.heap.size + 1, off := 0 }), Value.int IntKind.i64 ↑cD.n, undef, Pc c o, u, Pc c o, Value.pointer (some { block := c, off := o }), Value.pointer (some { block := c, off := o }), Value.slice la cD.n lc, Value.int IntKind.i64 ↑cD.n, Pc c o, Value.pointer (some { block := c, off := o }), Value.pointer (some { block := c, off := o + 5 }), Value.int IntKind.i64 cD.turns, Value.int IntKind.i64 (cD.turns + 1), Value.pointer (some { block := c, off := o }), Value.pointer (some { block := c, off := o + 5 }), Pc c o, Value.pointer (some { block := c, off := o }), Value.pointer (some { block := c, off := o + 4 }), Value.int IntKind.i64 cD.live, Value.int IntKind.i64 (cD.live + 1), Value.pointer (some { block := c, off := o }), Value.pointer (some { block := c, off := o + 4 }), Pc c o, Pc c o, Value.pointer (some { block := c, off := o }), Value.pointer (some { block := c, off := o }), Value.slice la cD.n lc, V k.kind k.num k.flt k.str k.ref, V v.kind v.num v.flt v.str v.ref, Pc c o, Value.pointer (some { block := c, off := o }), Value.pointer (some { block := c, off := o + 5 }), Value.int IntKind.i64 (cD.turns + 1), PV ⟨k, v, cD.turns + 1⟩, Value.slice (some { block := W2.heap.size, off := 0 }) 1 1, Value.slice (some { block := g3, off := 0 }) (cD.n + 1) cp3, Value.pointer (some { block := c, off := o }), Value.pointer (some { block := c, off := o }), undef, undef, undef, undef, undef, undef, undef, undef, undef, undef, undef, undef, undef, undef, undef, undef, undef, undef, undef, undef, undef, undef, undef, undef, undef, undef, undef, undef, undef, undef, undef, undef, undef, undef, undef, undef, undef, undef, undef, undef, undef, undef, undef, undef, undef, undef, undef, undef, undef, undef, undef, undef, undef, undef, undef, undef, undef, undef, undef, undef, undef, undef, undef, undef, undef, undef, undef, undef, undef, undef, undef, undef, undef, undef, undef, undef, undef, undef, undef, undef, undef, undef, undef, undef, undef, undef, undef, undef, undef, undef, undef, undef, undef, undef, undef, undef, undef, undef, undef, undef, undef, undef, undef, undef, undef, undef, undef], defers := [] } ∧ DMut w' c o B (.slice (some ⟨g3, 0, none⟩) (cD.n + 1) cp3) v1 t2 (addL cD k v) ∧ Stp c o (.slice la cD.n lc) v1 t2 W2 (.slice (some ⟨g3, 0, none⟩) (cD.n + 1) cp3) v1 t2 w') ?cont ?reg
 case reg =>
  clear HIc HNc HNO HS HCO HH HKL HK HCD HS2 HBK2 HBV2 HM2 hcl hcm j0 ji jz0 jz1 jz2
  go_region_law (refine step_append_lies _ rfl (.tmp 33) (.tmp 41) 23 rfl B 43 i0 PZ 11 104 Tryz.underlying23 hi hz0 hz1 hz2 rfl (by decide) (.slice la cD.n lc) cD.n (pL cD.L cD.n) (by simp [Act.eval]) ((uh HOW).alloc _) ⟨W2.heap.size, 0, none⟩ 1 1 (prL ⟨k, v, cD.turns + 1⟩) (by simp [Act.eval]) rfl (World.news_of_block (Deep.blk_alloc_new _ _)) (prL_one _) (by decide) (by unfold maxLen; omega) (by omega) (by simp; omega) _ rfl ?_; intro g3 cp3 w3 hown3 hgr3 hloc3 hlt3; have hg3' := grown_from hgr3; have hN3 := uh HG g3 cp3 w3 hown3 hg3' (hloc3.imp id (fun e => by rw [e]; simp)); have e3 : w3.heap[c]? = W2.heap[c]? := hg3'.block c hlt (fun e => uh HNC e.symm); have x3 := (World.cell?_of_block (a := ⟨c, o, none⟩) e3).trans c0; have f3 := (World.frozen?_of_block (a := ⟨c, o, none⟩) e3).trans f0; have HN3 := uy hN3; clear hown3 hgr3 hg3' hN3 e3 hloc3 HG HOW hi hz0 hz1 hz2 k0 k1 k2 k3 k4 q0 q1 q2 q3 q4 c0 c5)
  all_goals exact ⟨_, _, rfl, (uh HN3).1, (uh HN3).2⟩
 case cont =>
 refine NQ.intro ?_
 rintro a' W3 ⟨g3, cp3, rfl, hM3, hs3⟩
 clear HG HOW HNC c0 c5 f0 hlt k0 k1 k2 k3 k4 q0 q1 q2 q3 q4 bl bl' hBz
 have HBK3 := uy ((uh HBK2).step hs3)
 have HBV3 := uy ((uh HBV2).step hs3)
 have HS3 := uy ((uh HS2).trans hs3)
 have hS3 : Small (addL cD k v) := ⟨by show cD.n + 1 ≤ _; omega, by show cD.m ≤ _; omega, by show cD.x ≤ _; have h := (uh HIc).sz; unfold SizeX at h; omega⟩
 have HSm := uy hS3
 obtain ⟨ia, ic, e1, hIA⟩ := hM3.ints.at
 obtain ⟨xa, xc, e2, hXA⟩ := hM3.index.at
 have e1 : v1 = .slice ia cD.m ic := e1
 have e2 : t2 = .slice xa cD.x xc := e2
 have HF1 : Hid (0 < cD.m → ∃ g cp, v1 = .slice (some ⟨g, 0, none⟩) cD.m cp) := uy (fun h => by obtain ⟨g, cp, h, _⟩ := hM3.ints.form h; exact ⟨g, cp, h⟩)
 have HF2 : Hid (0 < cD.x → ∃ g cp, t2 = .slice (some ⟨g, 0, none⟩) cD.x cp) := uy (fun h => by obtain ⟨g, cp, h, _⟩ := hM3.index.form h; exact ⟨g, cp, h⟩)
 have HM3 := uy hM3
 obtain ⟨bl, k0, k1, k2, k3, k4⟩ := (uh HBK3).box
 have hP3 : DPtr W3 c o (some ⟨g3, 0, none⟩) cp3 ia ic xa xc (addL cD k v) := ⟨hM3.lt, hM3.c0, by rw [hM3.c1, e1]; rfl, by rw [hM3.c2, e2]; rfl, hM3.c3, hM3.c4, hM3.c5, by obtain ⟨a, cp, e, h⟩ := hM3.log.at; cases e; exact h, hIA, hXA⟩
 subst e1 e2
 have HP3 := uy hP3
 have hlt3 := hM3.lt
 clear hM3 hs3 hS3 hIA hXA hP3 HBK2 HBV2 HM2 HS2
 dsimp only
 go_wp2_with fail
 refine (l1small_any c o (some ⟨g3, 0, none⟩) cp3 ia ic xa xc (addL cD k v) k _ (uh HP3) (uh HSm)).mono ?_
 rintro e w4 ⟨rfl, hb4⟩
 have HM4 := uy ((uh HM3).below hb4)
 have HS4 := uy ((uh HS3).trans (Stp.of_below hb4 hlt3))
 have HBK4 := uy ((uh HBK3).step (Stp.of_below (o := o) hb4 hlt3))
 have HBV4 := uy ((uh HBV3).step (Stp.of_below (o := o) hb4 hlt3))
 clear hb4 HM3 HS3 HBK3 HBV3 HP3 hlt3 bl k0 k1 k2 k3 k4
 obtain ⟨bl, k0, k1, k2, k3, k4⟩ := (uh HBK4).box
 have hlt := (uh HM4).lt
 have c1 := (uh HM4).c1
 by_cases hs : smallK cD.m k
 ·rw [show tells (smallK (addL cD k v).m k) = true from tells_yes hs]
  have HR : Hid (comeC hf cD k v = addSmall cD k v) := uy (by unfold comeC; rw [if_pos hs])
  obtain ⟨s1, s2, s3⟩ := hs
  obtain ⟨q, hq⟩ : ∃ q : Nat, k.num = (q : Int) + 1 := ⟨(k.num - 1).toNat, by omega⟩
  have hqm : q < cD.m := by omega
  obtain ⟨g, cp, eg⟩ := uh HF1 (by omega)
  cases eg
  obtain ⟨g', cp', eg', hBg, hgl, hcp, hcs, hfz⟩ := (uh HM4).ints.form (by show 0 < cD.m; omega)
  cases eg'
  have e0 := hcs q hqm
  have f0 := hfz q
  have hgc : g ≠ c := fun e => (uh HM4).nc (.inr (.inl (by rw [← e]; rfl)))
  have hwq : IntKind.i64.wrap (q : Int) = q := by rw [IntKind.wrap_i64]; omega
  have hd := DMut.putI (d := addL cD k v) (uh HM4) (i := q) hqm ((cD.n : Int) + 1)
  have hst := (uh HS4).trans (stp_row (q := q) (.int .i64 ((cD.n : Int) + 1)) (.inr (.inl rfl)) hgc)
  have HE : Hid ({ addL cD k v with I := upd (addL cD k v).I q ((cD.n : Int) + 1) } = addSmall cD k v) := uy (by unfold addSmall; rw [hq, show ((q : Int) + 1 - 1).toNat = q by omega]; rfl)
  have HD := uy hd
  have HST := uy hst
  rw [hq] at k1
  clear hd hst hcs hfz hq s1 s2 s3 HF1 HF2
  go_wp2_with fail
  go_region
  go_wp2
  refine bodyPost_ret (results_none rfl _ _ _) rfl ?_
  refine ⟨⟨_, rfl⟩, _, _, _, ?_, (uh HST).trans (Stp.of_below (Below.refl _ _).drew (by simpa using hlt))⟩
  rw [uh HCD, uh HR, ← uh HE]
  exact (uh HD).below (Below.refl _ _).drew
 rw [show tells (smallK (addL cD k v).m k) = false from tells_no hs]
 have HNS := uy hs
 clear hs
 have hwm : IntKind.i64.wrap ((cD.m : Int) + 1) = (cD.m : Int) + 1 := by rw [IntKind.wrap_i64]; omega
 by_cases hx : k.kind = 2 ∧ k.num = (cD.m : Int) + 1
 ·have HR : Hid (comeC hf cD k v = moveD hf (cD.x + 1) (addNext cD k v)) := uy (by unfold comeC; rw [if_neg (uh HNS), if_pos hx])
  have HIN : Hid (Inv0 K hf (addNext cD k v)) := uy (addNext_inv (uh HKL) (uh HIc) (uh HK).1 (uh HK).2.1 (uh HK).2.2.1 (uh HK).2.2.2 (uh HNO) hx.1 hx.2 hcl.1 hct.2)
  have hk2' : (k.kind == 2) = true := by simp [hx.1]
  have hnm' : (k.num == (cD.m : Int) + 1) = true := by simp [hx.2]
  clear hx
  go_wp2_with fail
  go_quiet (fail)
  obtain ⟨W5, hW5⟩ : ∃ W5, W5 = w4.drewN nq := ⟨_, rfl⟩
  rw [← hW5]
  have hb5 : Below w4.heap.size w4 W5 := by rw [hW5]; exact below_drewN' (Below.refl _ _) _
  clear hW5
  have HM5 := uy ((uh HM4).below hb5)
  have HS5 := uy ((uh HS4).trans (Stp.of_below hb5 hlt))
  clear hb5 HM4 HS4 HBK4 HBV4 c1 hlt bl k0 k1 k2 k3 k4 hk2' hnm'
  have c1 := (uh HM5).c1
  have f1 := (uh HM5).fz (o + 1)
  have hlt := (uh HM5).lt
  have hB5 := (uh HM5).base
  have hnc : (Value.slice ia cD.m ic).ownBlock ≠ some c := fun e => (uh HM5).nc (.inr (.inl e))
  have HNC := uy hnc
  clear hnc
  have HG : Hid (∀ (g4 cp4 : Nat) (w5 : World), w5.ownsRow B 3 1 (.slice (some ⟨g4, 0, none⟩) (cD.m + 1) cp4) (cD.m + 1) (iL cD.I cD.m ++ [.int .i64 ((cD.n : Int) + 1)]) → W5.grownBy w5 (Value.slice ia cD.m ic).ownBlock → ((Value.slice ia cD.m ic).ownBlock = some g4 ∨ W5.heap.size ≤ g4) →
    DMut (w5.setCell ⟨c, o + 1, none⟩ (.slice (some ⟨g4, 0, none⟩) (cD.m + 1) cp4)) c o B (.slice (some ⟨g3, 0, none⟩) (cD.n + 1) cp3) (.slice (some ⟨g4, 0, none⟩) (cD.m + 1) cp4) (.slice xa cD.x xc) (addNext cD k v) ∧ Stp c o (.slice (some ⟨g3, 0, none⟩) (cD.n + 1) cp3) (.slice ia cD.m ic) (.slice xa cD.x xc) W5 (.slice (some ⟨g3, 0, none⟩) (cD.n + 1) cp3) (.slice (some ⟨g4, 0, none⟩) (cD.m + 1) cp4) (.slice xa cD.x xc) (w5.setCell ⟨c, o + 1, none⟩ (.slice (some ⟨g4, 0, none⟩) (cD.m + 1) cp4))) := uy (fun g4 cp4 w5 h1 h2 h3 => by
   rw [iL_snoc] at h1
   exact (uh HM5).growI h2 h1 (fun b e => by rw [← ownB e]; exact h3))
  have HO5 := uy (uh HM5).ints
  have HZ5 : Hid (W5.heap.size = W5.heap.size) := uy rfl
  go_wp2_with (first | (at_builtin; refine wpList_append_lies _ rfl _ _ 24 rfl B 3 j0 (.int .i64 0) 1 8 Tryz.underlying24 ji jz0 jz1 jz2 rfl (by decide) (.slice ia cD.m ic) cD.m (iL cD.I cD.m) rfl ((uh HO5).alloc _) ⟨W5.heap.size, 0, none⟩ 1 1 [.int .i64 ((cD.n : Int) + 1)] rfl rfl (World.news_of_block (Deep.blk_alloc_new _ _)) (by simp [Value.oneCell']) (by decide) (by unfold maxLen; omega) (by omega) (by simp; omega) _ rfl ?_; intro g4 cp4 w5 hown4 hgr4 hloc4 hlt4; have hg4 := grown_from' hgr4; have hN4 := uh HG g4 cp4 w5 hown4 hg4 (hloc4.imp id (fun e => by rw [e]; simp)); have e4 : w5.heap[c]? = W5.heap[c]? := hg4.block c hlt (fun e => uh HNC e.symm); have x4 := (World.cell?_of_block (a := ⟨c, o + 1, none⟩) e4).trans c1; have f4 := (World.frozen?_of_block (a := ⟨c, o + 1, none⟩) e4).trans f1; have HN4 := uy hN4; have hcl4 : c < w5.heap.size := Nat.lt_of_lt_of_le hlt hg4.size; clear hown4 hgr4 hg4 hN4 e4 hloc4) | go_in)
  obtain ⟨WL, hWL⟩ : ∃ WL, WL = w5.setCell ⟨c, o + 1, none⟩ (.slice (some ⟨g4, 0, none⟩) (cD.m + 1) cp4) := ⟨_, rfl⟩
  rw [← hWL] at HN4
  rw [← hWL]
  clear hWL
  have HD6 := uy (uh HN4).1
  have HS6 := uy ((uh HS5).trans (uh HN4).2)
  clear HN4 HS5 HM5 HG HO5 HNC HZ5 x4 f4 hcl4 c1 f1 hlt hB5 hlt4 HF1 HF2
  have hcx : cD.x ≤ 4000 := by have h := (uh HIc).sz; unfold SizeX at h; omega
  go_loopw [7] (fun _ wr => ∃ (f : Nat) (dd : Dc) (u1 u2 : Value), moveD hf f dd = moveD hf (cD.x + 1) (addNext cD k v) ∧ posN dd.X dd.x < f ∧ dd.m + f = cD.m + 1 + (cD.x + 1) ∧ Inv0 K hf dd ∧ dd.n = cD.n + 1 ∧ DMut wr c o B (.slice (some ⟨g3, 0, none⟩) (cD.n + 1) cp3) u1 u2 dd ∧ Stp c o v0 (.slice ia cD.m ic) v2 w (.slice (some ⟨g3, 0, none⟩) (cD.n + 1) cp3) u1 u2 wr) (fun _ wr => (cD.m + 1 + (cD.x + 1)) - lenAt wr c o)
  case atStart => exact ⟨cD.x + 1, addNext cD k v, _, _, rfl, by have := posN_le cD.X cD.x; show posN cD.X cD.x < _; omega, rfl, uh HIN, rfl, uh HD6, uh HS6⟩
  case round =>
   clear HD6 HS6 HIN
   obtain ⟨f, dd, u1, u2, hmv, hpos, hmf, hinv, hdn, hd, hst⟩ := hrel
   obtain ⟨ia', ic', e1, hIA⟩ := hd.ints.at
   obtain ⟨xa', xc', e2, hXA⟩ := hd.index.at
   have hsx := hinv.sz
   have hdx : dd.x ≤ 4000 := by unfold SizeX at hsx; omega
   have HF2 : Hid (0 < dd.x → ∃ g cp, u2 = .slice (some ⟨g, 0, none⟩) dd.x cp) := uy (fun h => by obtain ⟨g, cp, h, _⟩ := hd.index.form h; exact ⟨g, cp, h⟩)
   have hP : DPtr wr c o (some ⟨g3, 0, none⟩) cp3 ia' ic' xa' xc' dd := ⟨hd.lt, by rw [hd.c0, hdn], by rw [hd.c1, e1], by rw [hd.c2, e2], hd.c3, hd.c4, hd.c5, by have hl := hd.log; rw [hdn] at hl; obtain ⟨a, cp, e, h⟩ := hl.at; cases e; rw [hdn]; exact h, hIA, hXA⟩
   have hsm : Small dd := ⟨by omega, by omega, by omega⟩
   subst e1 e2
   have HP := uy hP
   have HSM := uy hsm
   have HD := uy hd
   have HST := uy hst
   have HINV := uy hinv
   have HMV := uy hmv
   have c1 := hd.c1
   have hlt := hd.lt
   have HLEN := uy (lenAt_of hd.c1)
   have HHI := uy (uh HH _ ((uh HKL).own ((dd.m : Int) + 1)))
   have hwm' : IntKind.i64.wrap ((dd.m : Int) + 1) = (dd.m : Int) + 1 := by rw [IntKind.wrap_i64]; omega
   clear hIA hXA hP hsm hd hst hinv hmv hsx
   go_wp2_with fail
   refine (l1int_any ((dd.m : Int) + 1) _).mono ?_
   rintro e w6 ⟨rfl, hb6⟩
   have HP6 := uy ((uh HP).below hb6)
   have HD6 := uy ((uh HD).below hb6)
   have HST6 := uy ((uh HST).trans (Stp.of_below hb6 hlt))
   have hlt6 := Nat.lt_of_lt_of_le hlt hb6.size
   clear hb6 HP HD HST c1 hlt
   go_wp2_with fail
   refine (l1slot_any c o (some ⟨g3, 0, none⟩) cp3 ia' ic' xa' xc' dd (intV ((dd.m : Int) + 1)) (hf (intV ((dd.m : Int) + 1))) _ (uh HP6) (uh HSM) (uh HINV).d4 (uh HHI)).mono ?_
   rintro e w7 ⟨rfl, hb7⟩
   have HD7 := uy ((uh HD6).below hb7)
   have HST7 := uy ((uh HST6).trans (Stp.of_below hb7 hlt6))
   clear hb7 HP6 HD6 HST6 hlt6
   have c1 := (uh HD7).c1
   have c2 := (uh HD7).c2
   have f1 := (uh HD7).fz (o + 1)
   have hlt := (uh HD7).lt
   have hB7 := (uh HD7).base
   cases hsl : slotOf dd (intV ((dd.m : Int) + 1)) (hf (intV ((dd.m : Int) + 1))) with
   | none =>
    have HEND : Hid (dd = moveD hf (cD.x + 1) (addNext cD k v)) := uy (by rw [← uh HMV, moveD_none hsl])
    simp only [slotI]
    clear hsl c1 c2 f1
    go_wp2
    refine bodyPost_ret (results_none rfl _ _ _) rfl ?_
    refine ⟨⟨_, rfl⟩, _, _, _, ?_, uh HST7⟩
    rw [uh HCD, uh HR, ← uh HEND]
    exact uh HD7
   | some s =>
    obtain ⟨hs1, hs2, hs3, hs4⟩ := (uh HINV).slot hsl
    obtain ⟨f', rfl⟩ : ∃ f', f = f' + 1 := ⟨f - 1, by omega⟩
    have HMV' : Hid (moveD hf f' (moveS dd s) = moveD hf (cD.x + 1) (addNext cD k v)) := uy (by rw [← uh HMV, moveD_some hsl])
    have HINV' := uy (moveS_inv (uh HKL) (uh HINV) hsl)
    have hpl := posN_leave (X := dd.X) hs2 dd.x
    rw [if_pos hs1] at hpl
    have HPOS : Hid (posN (moveS dd s).X (moveS dd s).x < f') := uy (by show posN (upd dd.X s (-1)) dd.x < f'; omega)
    obtain ⟨g, cp, eg⟩ := uh HF2 (by omega)
    cases eg
    obtain ⟨g', cp', eg', hBg, hgl, hcp, hcs, hfz⟩ := (uh HD7).index.form (by omega)
    cases eg'
    have e0 := hcs s hs1
    have f0 := hfz s
    have hgc : g ≠ c := fun e => (uh HD7).nc (.inr (.inr (by rw [← e]; rfl)))
    have hXr : 0 < dd.X s ∧ dd.X s ≤ 1001 := ⟨hs2, by have := hs3.1; omega⟩
    simp only [slotI]
    have HXS := uy hXr
    clear hsl hs2 hs3 hs4 hcs hfz hpl hXr
    go_wp2_with fail
    have HOW : Hid (IOwn w7.drew B (.slice ia' dd.m ic') dd.m dd.I) := uy (uh HD7).ints.drew
    have hnc : (Value.slice ia' dd.m ic').ownBlock ≠ some c := fun e => (uh HD7).nc (.inr (.inl e))
    have hng : (Value.slice ia' dd.m ic').ownBlock ≠ some g := fun e => (uh HD7).ap g e rfl
    have HNC := uy (And.intro hnc hng)
    have HG : Hid (∀ (g5 cp5 : Nat) (w9 : World), w9.ownsRow B 3 1 (.slice (some ⟨g5, 0, none⟩) (dd.m + 1) cp5) (dd.m + 1) (iL dd.I dd.m ++ [.int .i64 (dd.X s)]) → w7.grownBy w9 (Value.slice ia' dd.m ic').ownBlock → ((Value.slice ia' dd.m ic').ownBlock = some g5 ∨ w7.heap.size ≤ g5) →
      DMut ((w9.setCell ⟨c, o + 1, none⟩ (.slice (some ⟨g5, 0, none⟩) (dd.m + 1) cp5)).setCell ⟨g, s, none⟩ (.int .i64 (-1))) c o B (.slice (some ⟨g3, 0, none⟩) (cD.n + 1) cp3) (.slice (some ⟨g5, 0, none⟩) (dd.m + 1) cp5) (.slice (some ⟨g, 0, none⟩) dd.x xc') (moveS dd s) ∧ Stp c o v0 (.slice ia cD.m ic) v2 w (.slice (some ⟨g3, 0, none⟩) (cD.n + 1) cp3) (.slice (some ⟨g5, 0, none⟩) (dd.m + 1) cp5) (.slice (some ⟨g, 0, none⟩) dd.x xc') ((w9.setCell ⟨c, o + 1, none⟩ (.slice (some ⟨g5, 0, none⟩) (dd.m + 1) cp5)).setCell ⟨g, s, none⟩ (.int .i64 (-1)))) := uy (fun g5 cp5 w9 h1 h2 h3 => by
     rw [iL_snoc] at h1
     obtain ⟨a1, a2⟩ := (uh HD7).growI h2 h1 (fun b e => by rw [← ownB e]; exact h3)
     exact ⟨DMut.putX (d := { dd with m := dd.m + 1, I := upd dd.I dd.m (dd.X s) }) a1 (i := s) hs1 (-1), ((uh HST7).trans a2).trans (stp_row (q := s) (.int .i64 (-1)) (.inr (.inr rfl)) hgc)⟩)
    clear hnc hng HD7 HST7 HINV HMV HF2
    go_region_law (refine step_append_lies _ rfl (.tmp 98) (.tmp 106) 24 rfl B 3 j0 (.int .i64 0) 1 8 Tryz.underlying24 ji jz0 jz1 jz2 rfl (by decide) (.slice ia' dd.m ic') dd.m (iL dd.I dd.m) (by simp [Act.eval]) ((uh HOW).alloc _) ⟨w7.heap.size, 0, none⟩ 1 1 [.int .i64 (dd.X s)] (by simp [Act.eval]) rfl (World.news_of_block (Deep.blk_alloc_new _ _)) (by simp [Value.oneCell']) (by decide) (by unfold maxLen; omega) (by omega) (by simp; omega) _ rfl ?_; intro g5 cp5 w9 hown5 hgr5 hloc5 hlt5; have hg5 := grown_from hgr5; have hN5 := uh HG g5 cp5 w9 hown5 hg5 (hloc5.imp id (fun e => by rw [e]; simp)); have e5 : w9.heap[c]? = w7.heap[c]? := hg5.block c hlt (fun e => (uh HNC).1 e.symm); have e6 : w9.heap[g]? = w7.heap[g]? := hg5.block g hgl (fun e => (uh HNC).2 e.symm); have x5 := (World.cell?_of_block (a := ⟨c, o + 1, none⟩) e5).trans c1; have x6 := (World.cell?_of_block (a := ⟨c, o + 2, none⟩) e5).trans c2; have y5 := (World.cell?_of_block (a := ⟨g, s, none⟩) e6).trans e0; have z5 := (World.frozen?_of_block (a := ⟨g, s, none⟩) e6).trans f0; have f5 := (World.frozen?_of_block (a := ⟨c, o + 1, none⟩) e5).trans f1; have hlc5 := Nat.lt_of_lt_of_le hlt hg5.size; have hlg5 := Nat.lt_of_lt_of_le hgl hg5.size; have HN5 := uy hN5; clear hown5 hgr5 hg5 hN5 e5 e6 hloc5 HG)
    all_goals
     go_wp2
     go_roundw
     case rel => exact ⟨f', moveS dd s, _, _, uh HMV', uh HPOS, by show dd.m + 1 + f' = _; omega, uh HINV', hdn, (uh HN5).1, (uh HN5).2⟩
     case measure =>
      rw [lenAt_of (uh HN5).1.c1, uh HLEN]
      omega
 have HR : Hid (comeC hf cD k v = enterD hf (addL (roomD hf cD) k v) k cD.n) := uy (by unfold comeC; rw [if_neg (uh HNS), if_neg hx])
 -- the test
 have hcx : cD.x ≤ 4000 := by have h := (uh HIc).sz; unfold SizeX at h; omega
 have hus : 0 ≤ cD.used ∧ cD.used ≤ 4000 := by have h1 := (uh HIc).used; have h2 := useN_le cD.X cD.x; omega
 have HTEST : Hid (∀ (Q : Prop), (k.kind ≠ 2 → Q) → (k.kind = 2 → k.num ≠ (cD.m : Int) + 1 → Q) → Q) := uy (fun Q h1 h2 => by
  by_cases e : k.kind = 2
  ·exact h2 e (fun e' => hx ⟨e, e'⟩)
  ·exact h1 e)
 clear hx
 have c2 := (uh HM4).c2
 have c3 := (uh HM4).c3
 have hused : (addL cD k v).used = cD.used := rfl
 rw [hused] at c3
 obtain ⟨lb, lcp, elb, hBl, hll, hlcp, hlpc, hlfz⟩ := (uh HM4).log.form (by show 0 < cD.n + 1; omega)
 cases elb
 have hPn := (hlpc cD.n (by show cD.n < cD.n + 1; omega)).tn
 have hL : (addL cD k v).L cD.n = ⟨k, v, cD.turns + 1⟩ := addL_new
 rw [hL] at hPn
 have hPn : w4.cell? ⟨g3, cD.n * 11 + 10, none⟩ = some (.int .i64 (cD.turns + 1)) := hPn
 have hPf := hlfz (cD.n * 11 + 10)
 have hw1 : IntKind.i64.wrap (cD.used + 1) = cD.used + 1 := by rw [IntKind.wrap_i64]; omega
 have hw2 : IntKind.i64.wrap (2 * (cD.used + 1)) = 2 * (cD.used + 1) := by rw [IntKind.wrap_i64]; omega
 have c0 := (uh HM4).c0
 have hc0 : (addL cD k v).n = cD.n + 1 := rfl
 have hg3c : g3 ≠ c := fun e => (uh HM4).nc (.inl (by rw [← e]; rfl))
 have HROOM := uy (roomD_inv (hf := hf) (uh HIc) hcl.1)
 have HNN : Hid (∀ (W5 : World), Below w4.heap.size w4 W5 → True) := uy (fun _ _ => trivial)
 clear HNN hlpc hlfz hL hused HF1 HF2
 refine uh HTEST _ (fun hk2 => ?_) (fun hk2 hnm => ?_)
 ·have hk2' : (k.kind == 2) = false := by simp [hk2]
  clear hk2 HTEST
  go_wp2_with fail
  go_quiet (fail)
  obtain ⟨W5, hW5⟩ : ∃ W5, W5 = w4.drewN nq := ⟨_, rfl⟩
  rw [← hW5]
  have hb5 : Below w4.heap.size w4 W5 := by rw [hW5]; exact below_drewN' (Below.refl _ _) _
  clear hW5
  have HM5 := uy ((uh HM4).below hb5)
  have HS5 := uy ((uh HS4).trans (Stp.of_below hb5 hlt))
  have HBK5 := uy ((uh HBK4).step (Stp.of_below (o := o) hb5 hlt))
  have c0 : W5.cell? ⟨c, o, none⟩ = some (.slice (some ⟨g3, 0, none⟩) (cD.n + 1) cp3) := (uh HM5).c0
  have c2 : W5.cell? ⟨c, o + 2, none⟩ = some (.slice xa cD.x xc) := (uh HM5).c2
  have c3 : W5.cell? ⟨c, o + 3, none⟩ = some (.int .i64 cD.used) := (uh HM5).c3
  have hPn := (hb5.cell (p := ⟨g3, cD.n * 11 + 10, none⟩) hll).trans hPn
  have hPf := (hb5.frozen (p := ⟨g3, cD.n * 11 + 10, none⟩) hll).trans hPf
  have hll := Nat.lt_of_lt_of_le hll hb5.size
  have hlt := Nat.lt_of_lt_of_le hlt hb5.size
  clear bl k0 k1 k2 k3 k4
  obtain ⟨bl, k0, k1, k2, k3, k4⟩ := (uh HBK5).box
  clear hb5 HM4 HS4 HBK4 HBV4 hk2'
  by_cases hroom : (cD.x : Int) < 2 * (cD.used + 1)
  ·have HRM : Hid (roomD hf cD = reindexD hf cD 1) := uy (if_pos hroom)
   have hdr : decide ((cD.x : Int) < 2 * (cD.used + 1)) = true := by simp [hroom]
   have hidx := (uh HIc).core.idx_le
   have hm1 : idxN cD cD.n + 1 ≤ 500 := by omega
   have hz : DMut (W5.setCell ⟨g3, cD.n * 11 + 10, none⟩ (.int .i64 0)) c o B (.slice (some ⟨g3, 0, none⟩) (cD.n + 1) cp3) (.slice ia cD.m ic) (.slice xa cD.x xc) (addZ cD k v) := by
    have h := DMut.putL (d := addL cD k v) (uh HM5) (i := cD.n) (by show cD.n < cD.n + 1; omega) 10 (by omega) (.int .i64 0) ⟨k, v, 0⟩ (by rw [addL_new]; rfl)
    refine h.of_same rfl (fun i _ => ?_) rfl (fun _ _ => rfl) rfl (fun _ _ => rfl) rfl rfl rfl
    show upd cD.L cD.n ⟨k, v, 0⟩ i = upd (upd cD.L cD.n ⟨k, v, cD.turns + 1⟩) cD.n ⟨k, v, 0⟩ i
    rw [upd_upd]
   have hsz := (uh HS5).trans (stp_row (v1 := .slice ia cD.m ic) (v2 := .slice xa cD.x xc) (q := cD.n * 11 + 10) (.int .i64 0) (.inl rfl) hg3c)
   have hstz : Stp c o (.slice (some ⟨g3, 0, none⟩) (cD.n + 1) cp3) (.slice ia cD.m ic) (.slice xa cD.x xc) W5 (.slice (some ⟨g3, 0, none⟩) (cD.n + 1) cp3) (.slice ia cD.m ic) (.slice xa cD.x xc) (W5.setCell ⟨g3, cD.n * 11 + 10, none⟩ (.int .i64 0)) := stp_row (q := cD.n * 11 + 10) (.int .i64 0) (.inl rfl) hg3c
   have HZ := uy (hz.below (Below.refl _ _).drew)
   have HSZ := uy (hsz.trans (Stp.of_below (Below.refl _ _).drew (by simpa using hlt)))
   have HBZ := uy (((uh HBK5).step hstz).step (Stp.of_below (o := o) (Below.refl _ _).drew (by simpa using hlt)))
   have hSZ : Small (addZ cD k v) := ⟨by show cD.n + 1 ≤ _; omega, by show cD.m ≤ _; omega, by show cD.x ≤ _; omega⟩
   have HSS := uy hSZ
   have HHZ : Hid (∀ i, i < (addZ cD k v).n → indexedK (addZ cD k v) i → HsS ((addZ cD k v).L i).key (hf ((addZ cD k v).L i).key)) := uy (fun i hi hx => by
    have hi : i < cD.n + 1 := hi
    by_cases e : i = cD.n
    ·subst e; exact absurd hx addZ_last
    ·have hi' : i < cD.n := by omega
     rw [addZ_old hi']
     exact uh HH _ ((uh HIc).keys i hi' (by have := ((addZ_indexed hi').1 hx).1; omega)))
   clear hz hsz hstz hSZ hroom HM5 HS5 HBK5 bl k0 k1 k2 k3 k4
   go_wp2_with fail
   go_region
   go_wp2_with fail
   refine (l1reindex_any hf c o B _ _ _ (addZ cD k v) 1 _ (uh HZ) (uh HSS) (by rw [addZ_idxN]; exact hm1) (uh HHZ)).mono ?_
   rintro e w6 ⟨⟨u9, rfl⟩, t9, hM6, hs6⟩
   have HBK6 := uy ((uh HBZ).step hs6)
   have HS6 := uy ((uh HSZ).trans hs6)
   have hsame := reindexD_same' (hf := hf) (d := addZ cD k v) (more := 1) (by rw [addZ_idxN]; exact hm1)
   have hn6 : (reindexD hf (addZ cD k v) 1).n = cD.n + 1 := hsame.n
   have hM7 : DMut w6 c o B (.slice (some ⟨g3, 0, none⟩) (cD.n + 1) cp3) (.slice ia cD.m ic) t9 { addZ cD k v with x := (reindexD hf (addZ cD k v) 1).x, X := (reindexD hf (addZ cD k v) 1).X, used := (reindexD hf (addZ cD k v) 1).used } := hM6.of_same hsame.n.symm (fun i _ => by rw [hsame.L]) hsame.m.symm (fun i _ => by rw [hsame.I]) rfl (fun _ _ => rfl) rfl hsame.live.symm hsame.turns.symm
   obtain ⟨lb, lcp, elb, hBl, hll6, hlcp, hlpc, hlfz⟩ := hM7.log.form (by show 0 < cD.n + 1; omega)
   cases elb
   have hPn6 := (hlpc cD.n (by show cD.n < cD.n + 1; omega)).tn
   have hPf6 := hlfz (cD.n * 11 + 10)
   have hP6 : w6.cell? ⟨g3, cD.n * 11 + 10, none⟩ = some (.int .i64 0) := by
    have hL : (addZ cD k v).L cD.n = ⟨k, v, 0⟩ := upd_same _ _ _
    have h := hPn6
    rw [hL] at h
    exact h
   have hlt6 := hM7.lt
   have c06 : w6.cell? ⟨c, o, none⟩ = some (.slice (some ⟨g3, 0, none⟩) (cD.n + 1) cp3) := hM7.c0
   have c56 : w6.cell? ⟨c, o + 5, none⟩ = some (.int .i64 (cD.turns + 1)) := hM7.c5
   have h8 : DMut (w6.setCell ⟨g3, cD.n * 11 + 10, none⟩ (.int .i64 (cD.turns + 1))) c o B (.slice (some ⟨g3, 0, none⟩) (cD.n + 1) cp3) (.slice ia cD.m ic) t9 (addL (roomD hf cD) k v) := by
    have h := DMut.putL (d := { addZ cD k v with x := (reindexD hf (addZ cD k v) 1).x, X := (reindexD hf (addZ cD k v) 1).X, used := (reindexD hf (addZ cD k v) 1).used }) hM7 (i := cD.n) (by show cD.n < cD.n + 1; omega) 10 (by omega) (.int .i64 (cD.turns + 1)) ⟨k, v, cD.turns + 1⟩ (by show _ = (prL ((addZ cD k v).L cD.n)).set 10 _; rw [show (addZ cD k v).L cD.n = ⟨k, v, 0⟩ from upd_same _ _ _]; rfl)
    rw [uh HRM, ← addZ_reindex hm1]
    refine h.of_same hsame.n (fun i _ => ?_) hsame.m (fun i _ => by rw [show ({ reindexD hf (addZ cD k v) 1 with L := upd cD.L cD.n ⟨k, v, cD.turns + 1⟩ } : Dc).I = (reindexD hf (addZ cD k v) 1).I from rfl, hsame.I]) rfl (fun _ _ => rfl) rfl hsame.live hsame.turns
    show upd cD.L cD.n ⟨k, v, cD.turns + 1⟩ i = upd (upd cD.L cD.n ⟨k, v, 0⟩) cD.n ⟨k, v, cD.turns + 1⟩ i
    rw [upd_upd]
   have hst8 : Stp c o (.slice (some ⟨g3, 0, none⟩) (cD.n + 1) cp3) (.slice ia cD.m ic) t9 w6 (.slice (some ⟨g3, 0, none⟩) (cD.n + 1) cp3) (.slice ia cD.m ic) t9 (w6.setCell ⟨g3, cD.n * 11 + 10, none⟩ (.int .i64 (cD.turns + 1))) := stp_row (q := cD.n * 11 + 10) (.int .i64 (cD.turns + 1)) (.inl rfl) hg3c
   have HM8 := uy (h8.below (Below.refl _ _).drew)
   have HS8 := uy (((uh HS6).trans hst8).trans (Stp.of_below (Below.refl _ _).drew (by simpa using hlt6)))
   have HBK8 := uy (((uh HBK6).step hst8).step (Stp.of_below (o := o) (Below.refl _ _).drew (by simpa using hlt6)))
   have hcl6 := (uh HBK6).nc
   clear hM6 hs6 hM7 h8 hst8 hlpc hlfz hPn6 hsame HZ HSZ HBZ HBK6 HS6 HHZ HSS
   go_wp2_with fail
   go_region
   obtain ⟨W8, hW8⟩ : ∃ W8, W8 = (w6.setCell ⟨g3, cD.n * 11 + 10, none⟩ (.int .i64 (cD.turns + 1))).drew := ⟨_, rfl⟩
   rw [← hW8]
   rw [← hW8] at HM8 HS8 HBK8
   clear hW8
   obtain ⟨bl, k0, k1, k2, k3, k4⟩ := (uh HBK8).box
   have hr1 := (uh HROOM).1
   have hr2 := (uh HROOM).2.1
   have hrs := hr1.sz
   have hru := hr1.used
   have hrx : 8 ≤ (roomD hf cD).x ∧ (roomD hf cD).x ≤ 4000 ∧ Pow2 (roomD hf cD).x := hrs.resolve_left (by omega)
   have hKh := uh HH k (uh HK).1
   have HCOND := uy (And.intro hrx (And.intro (show useN (roomD hf cD).X (roomD hf cD).x < (roomD hf cD).x by omega) (And.intro (show 0 ≤ (roomD hf cD).used ∧ (roomD hf cD).used ≤ 4000 by omega) hKh)))
   clear hr1 hr2 hrs hru hrx hKh
   go_wp2_with fail
   refine (l1enter_any hf c o B _ _ t9 (addL (roomD hf cD) k v) k cD.n _ (uh HM8) (uh HCOND).1 (uh HCOND).2.1 (uh HCOND).2.2.1 (by omega) (uh HCOND).2.2.2).mono ?_
   rintro e w9 ⟨⟨⟨u8, rfl⟩, hd9⟩, hs9⟩
   have HD9 := uy hd9
   have HS9 := uy ((uh HS8).trans hs9)
   clear hd9 hs9
   go_wp2
   go_end0
   exact ⟨⟨_, rfl⟩, _, _, _, by rw [uh HCD, uh HR]; exact uh HD9, uh HS9⟩
  ·have HRM : Hid (roomD hf cD = cD) := uy (if_neg hroom)
   have hdr : decide ((cD.x : Int) < 2 * (cD.used + 1)) = false := by simp [hroom]
   have hr1 := (uh HROOM).1
   have hr2 := (uh HROOM).2.1
   rw [uh HRM] at hr1 hr2
   have hrs := hr1.sz
   have hru := hr1.used
   have hrx : 8 ≤ cD.x ∧ cD.x ≤ 4000 ∧ Pow2 cD.x := hrs.resolve_left (by omega)
   have hKh := uh HH k (uh HK).1
   have HCOND := uy (And.intro hrx (And.intro (show useN cD.X cD.x < cD.x by omega) (And.intro (show 0 ≤ cD.used ∧ cD.used ≤ 4000 by omega) hKh)))
   have HM6 := uy ((uh HM5).below (Below.refl _ _).drew)
   have HS6 := uy ((uh HS5).trans (Stp.of_below (Below.refl _ _).drew hlt))
   clear hr1 hr2 hrs hru hrx hKh hroom HM5 HS5
   go_wp2_with fail
   go_region
   go_wp2_with fail
   refine (l1enter_any hf c o B _ _ (.slice xa cD.x xc) (addL cD k v) k cD.n _ (uh HM6) (uh HCOND).1 (uh HCOND).2.1 (uh HCOND).2.2.1 (by omega) (uh HCOND).2.2.2).mono ?_
   rintro e w9 ⟨⟨⟨u8, rfl⟩, hd9⟩, hs9⟩
   have HD9 := uy hd9
   have HS9 := uy ((uh HS6).trans hs9)
   clear hd9 hs9
   go_wp2
   go_end0
   exact ⟨⟨_, rfl⟩, _, _, _, by rw [uh HCD, uh HR, uh HRM]; exact uh HD9, uh HS9⟩
 ·have hk2' : (k.kind == 2) = true := by simp [hk2]
  have hnm' : (k.num == (cD.m : Int) + 1) = false := by simp [hnm]
  clear hk2 hnm HTEST
  go_wp2_with fail
  go_quiet (fail)
  clear hnm'
  obtain ⟨W5, hW5⟩ : ∃ W5, W5 = w4.drewN nq := ⟨_, rfl⟩
  rw [← hW5]
  have hb5 : Below w4.heap.size w4 W5 := by rw [hW5]; exact below_drewN' (Below.refl _ _) _
  clear hW5
  have HM5 := uy ((uh HM4).below hb5)
  have HS5 := uy ((uh HS4).trans (Stp.of_below hb5 hlt))
  have HBK5 := uy ((uh HBK4).step (Stp.of_below (o := o) hb5 hlt))
  have c0 : W5.cell? ⟨c, o, none⟩ = some (.slice (some ⟨g3, 0, none⟩) (cD.n + 1) cp3) := (uh HM5).c0
  have c2 : W5.cell? ⟨c, o + 2, none⟩ = some (.slice xa cD.x xc) := (uh HM5).c2
  have c3 : W5.cell? ⟨c, o + 3, none⟩ = some (.int .i64 cD.used) := (uh HM5).c3
  have hPn := (hb5.cell (p := ⟨g3, cD.n * 11 + 10, none⟩) hll).trans hPn
  have hPf := (hb5.frozen (p := ⟨g3, cD.n * 11 + 10, none⟩) hll).trans hPf
  have hll := Nat.lt_of_lt_of_le hll hb5.size
  have hlt := Nat.lt_of_lt_of_le hlt hb5.size
  clear bl k0 k1 k2 k3 k4
  obtain ⟨bl, k0, k1, k2, k3, k4⟩ := (uh HBK5).box
  clear hb5 HM4 HS4 HBK4 HBV4 hk2'
  by_cases hroom : (cD.x : Int) < 2 * (cD.used + 1)
  ·have HRM : Hid (roomD hf cD = reindexD hf cD 1) := uy (if_pos hroom)
   have hdr : decide ((cD.x : Int) < 2 * (cD.used + 1)) = true := by simp [hroom]
   have hidx := (uh HIc).core.idx_le
   have hm1 : idxN cD cD.n + 1 ≤ 500 := by omega
   have hz : DMut (W5.setCell ⟨g3, cD.n * 11 + 10, none⟩ (.int .i64 0)) c o B (.slice (some ⟨g3, 0, none⟩) (cD.n + 1) cp3) (.slice ia cD.m ic) (.slice xa cD.x xc) (addZ cD k v) := by
    have h := DMut.putL (d := addL cD k v) (uh HM5) (i := cD.n) (by show cD.n < cD.n + 1; omega) 10 (by omega) (.int .i64 0) ⟨k, v, 0⟩ (by rw [addL_new]; rfl)
    refine h.of_same rfl (fun i _ => ?_) rfl (fun _ _ => rfl) rfl (fun _ _ => rfl) rfl rfl rfl
    show upd cD.L cD.n ⟨k, v, 0⟩ i = upd (upd cD.L cD.n ⟨k, v, cD.turns + 1⟩) cD.n ⟨k, v, 0⟩ i
    rw [upd_upd]
   have hsz := (uh HS5).trans (stp_row (v1 := .slice ia cD.m ic) (v2 := .slice xa cD.x xc) (q := cD.n * 11 + 10) (.int .i64 0) (.inl rfl) hg3c)
   have hstz : Stp c o (.slice (some ⟨g3, 0, none⟩) (cD.n + 1) cp3) (.slice ia cD.m ic) (.slice xa cD.x xc) W5 (.slice (some ⟨g3, 0, none⟩) (cD.n + 1) cp3) (.slice ia cD.m ic) (.slice xa cD.x xc) (W5.setCell ⟨g3, cD.n * 11 + 10, none⟩ (.int .i64 0)) := stp_row (q := cD.n * 11 + 10) (.int .i64 0) (.inl rfl) hg3c
   have HZ := uy (hz.below (Below.refl _ _).drew)
   have HSZ := uy (hsz.trans (Stp.of_below (Below.refl _ _).drew (by simpa using hlt)))
   have HBZ := uy (((uh HBK5).step hstz).step (Stp.of_below (o := o) (Below.refl _ _).drew (by simpa using hlt)))
   have hSZ : Small (addZ cD k v) := ⟨by show cD.n + 1 ≤ _; omega, by show cD.m ≤ _; omega, by show cD.x ≤ _; omega⟩
   have HSS := uy hSZ
   have HHZ : Hid (∀ i, i < (addZ cD k v).n → indexedK (addZ cD k v) i → HsS ((addZ cD k v).L i).key (hf ((addZ cD k v).L i).key)) := uy (fun i hi hx => by
    have hi : i < cD.n + 1 := hi
    by_cases e : i = cD.n
    ·subst e; exact absurd hx addZ_last
    ·have hi' : i < cD.n := by omega
     rw [addZ_old hi']
     exact uh HH _ ((uh HIc).keys i hi' (by have := ((addZ_indexed hi').1 hx).1; omega)))
   clear hz hsz hstz hSZ hroom HM5 HS5 HBK5 bl k0 k1 k2 k3 k4
   go_wp2_with fail
   go_region
   go_wp2_with fail
   refine (l1reindex_any hf c o B _ _ _ (addZ cD k v) 1 _ (uh HZ) (uh HSS) (by rw [addZ_idxN]; exact hm1) (uh HHZ)).mono ?_
   rintro e w6 ⟨⟨u9, rfl⟩, t9, hM6, hs6⟩
   have HBK6 := uy ((uh HBZ).step hs6)
   have HS6 := uy ((uh HSZ).trans hs6)
   have hsame := reindexD_same' (hf := hf) (d := addZ cD k v) (more := 1) (by rw [addZ_idxN]; exact hm1)
   have hn6 : (reindexD hf (addZ cD k v) 1).n = cD.n + 1 := hsame.n
   have hM7 : DMut w6 c o B (.slice (some ⟨g3, 0, none⟩) (cD.n + 1) cp3) (.slice ia cD.m ic) t9 { addZ cD k v with x := (reindexD hf (addZ cD k v) 1).x, X := (reindexD hf (addZ cD k v) 1).X, used := (reindexD hf (addZ cD k v) 1).used } := hM6.of_same hsame.n.symm (fun i _ => by rw [hsame.L]) hsame.m.symm (fun i _ => by rw [hsame.I]) rfl (fun _ _ => rfl) rfl hsame.live.symm hsame.turns.symm
   obtain ⟨lb, lcp, elb, hBl, hll6, hlcp, hlpc, hlfz⟩ := hM7.log.form (by show 0 < cD.n + 1; omega)
   cases elb
   have hPn6 := (hlpc cD.n (by show cD.n < cD.n + 1; omega)).tn
   have hPf6 := hlfz (cD.n * 11 + 10)
   have hP6 : w6.cell? ⟨g3, cD.n * 11 + 10, none⟩ = some (.int .i64 0) := by
    have hL : (addZ cD k v).L cD.n = ⟨k, v, 0⟩ := upd_same _ _ _
    have h := hPn6
    rw [hL] at h
    exact h
   have hlt6 := hM7.lt
   have c06 : w6.cell? ⟨c, o, none⟩ = some (.slice (some ⟨g3, 0, none⟩) (cD.n + 1) cp3) := hM7.c0
   have c56 : w6.cell? ⟨c, o + 5, none⟩ = some (.int .i64 (cD.turns + 1)) := hM7.c5
   have h8 : DMut (w6.setCell ⟨g3, cD.n * 11 + 10, none⟩ (.int .i64 (cD.turns + 1))) c o B (.slice (some ⟨g3, 0, none⟩) (cD.n + 1) cp3) (.slice ia cD.m ic) t9 (addL (roomD hf cD) k v) := by
    have h := DMut.putL (d := { addZ cD k v with x := (reindexD hf (addZ cD k v) 1).x, X := (reindexD hf (addZ cD k v) 1).X, used := (reindexD hf (addZ cD k v) 1).used }) hM7 (i := cD.n) (by show cD.n < cD.n + 1; omega) 10 (by omega) (.int .i64 (cD.turns + 1)) ⟨k, v, cD.turns + 1⟩ (by show _ = (prL ((addZ cD k v).L cD.n)).set 10 _; rw [show (addZ cD k v).L cD.n = ⟨k, v, 0⟩ from upd_same _ _ _]; rfl)
    rw [uh HRM, ← addZ_reindex hm1]
    refine h.of_same hsame.n (fun i _ => ?_) hsame.m (fun i _ => by rw [show ({ reindexD hf (addZ cD k v) 1 with L := upd cD.L cD.n ⟨k, v, cD.turns + 1⟩ } : Dc).I = (reindexD hf (addZ cD k v) 1).I from rfl, hsame.I]) rfl (fun _ _ => rfl) rfl hsame.live hsame.turns
    show upd cD.L cD.n ⟨k, v, cD.turns + 1⟩ i = upd (upd cD.L cD.n ⟨k, v, 0⟩) cD.n ⟨k, v, cD.turns + 1⟩ i
    rw [upd_upd]
   have hst8 : Stp c o (.slice (some ⟨g3, 0, none⟩) (cD.n + 1) cp3) (.slice ia cD.m ic) t9 w6 (.slice (some ⟨g3, 0, none⟩) (cD.n + 1) cp3) (.slice ia cD.m ic) t9 (w6.setCell ⟨g3, cD.n * 11 + 10, none⟩ (.int .i64 (cD.turns + 1))) := stp_row (q := cD.n * 11 + 10) (.int .i64 (cD.turns + 1)) (.inl rfl) hg3c
   have HM8 := uy (h8.below (Below.refl _ _).drew)
   have HS8 := uy (((uh HS6).trans hst8).trans (Stp.of_below (Below.refl _ _).drew (by simpa using hlt6)))
   have HBK8 := uy (((uh HBK6).step hst8).step (Stp.of_below (o := o) (Below.refl _ _).drew (by simpa using hlt6)))
   have hcl6 := (uh HBK6).nc
   clear hM6 hs6 hM7 h8 hst8 hlpc hlfz hPn6 hsame HZ HSZ HBZ HBK6 HS6 HHZ HSS
   go_wp2_with fail
   go_region
   obtain ⟨W8, hW8⟩ : ∃ W8, W8 = (w6.setCell ⟨g3, cD.n * 11 + 10, none⟩ (.int .i64 (cD.turns + 1))).drew := ⟨_, rfl⟩
   rw [← hW8]
   rw [← hW8] at HM8 HS8 HBK8
   clear hW8
   obtain ⟨bl, k0, k1, k2, k3, k4⟩ := (uh HBK8).box
   have hr1 := (uh HROOM).1
   have hr2 := (uh HROOM).2.1
   have hrs := hr1.sz
   have hru := hr1.used
   have hrx : 8 ≤ (roomD hf cD).x ∧ (roomD hf cD).x ≤ 4000 ∧ Pow2 (roomD hf cD).x := hrs.resolve_left (by omega)
   have hKh := uh HH k (uh HK).1
   have HCOND := uy (And.intro hrx (And.intro (show useN (roomD hf cD).X (roomD hf cD).x < (roomD hf cD).x by omega) (And.intro (show 0 ≤ (roomD hf cD).used ∧ (roomD hf cD).used ≤ 4000 by omega) hKh)))
   clear hr1 hr2 hrs hru hrx hKh
   go_wp2_with fail
   refine (l1enter_any hf c o B _ _ t9 (addL (roomD hf cD) k v) k cD.n _ (uh HM8) (uh HCOND).1 (uh HCOND).2.1 (uh HCOND).2.2.1 (by omega) (uh HCOND).2.2.2).mono ?_
   rintro e w9 ⟨⟨⟨u8, rfl⟩, hd9⟩, hs9⟩
   have HD9 := uy hd9
   have HS9 := uy ((uh HS8).trans hs9)
   clear hd9 hs9
   go_wp2
   go_end0
   exact ⟨⟨_, rfl⟩, _, _, _, by rw [uh HCD, uh HR]; exact uh HD9, uh HS9⟩
  ·have HRM : Hid (roomD hf cD = cD) := uy (if_neg hroom)
   have hdr : decide ((cD.x : Int) < 2 * (cD.used + 1)) = false := by simp [hroom]
   have hr1 := (uh HROOM).1
   have hr2 := (uh HROOM).2.1
   rw [uh HRM] at hr1 hr2
   have hrs := hr1.sz
   have hru := hr1.used
   have hrx : 8 ≤ cD.x ∧ cD.x ≤ 4000 ∧ Pow2 cD.x := hrs.resolve_left (by omega)
   have hKh := uh HH k (uh HK).1
   have HCOND := uy (And.intro hrx (And.intro (show useN cD.X cD.x < cD.x by omega) (And.intro (show 0 ≤ cD.used ∧ cD.used ≤ 4000 by omega) hKh)))
   have HM6 := uy ((uh HM5).below (Below.refl _ _).drew)
   have HS6 := uy ((uh HS5).trans (Stp.of_below (Below.refl _ _).drew hlt))
   clear hr1 hr2 hrs hru hrx hKh hroom HM5 HS5
   go_wp2_with fail
   go_region
   go_wp2_with fail
   refine (l1enter_any hf c o B _ _ (.slice xa cD.x xc) (addL cD k v) k cD.n _ (uh HM6) (uh HCOND).1 (uh HCOND).2.1 (uh HCOND).2.2.1 (by omega) (uh HCOND).2.2.2).mono ?_
   rintro e w9 ⟨⟨⟨u8, rfl⟩, hd9⟩, hs9⟩
   have HD9 := uy hd9
   have HS9 := uy ((uh HS6).trans hs9)
   clear hd9 hs9
   go_wp2
   go_end0
   exact ⟨⟨_, rfl⟩, _, _, _, by rw [uh HCD, uh HR, uh HRM]; exact uh HD9, uh HS9⟩
end
end Go.Proofs.YtglcaejddckleaaGreatDoor
