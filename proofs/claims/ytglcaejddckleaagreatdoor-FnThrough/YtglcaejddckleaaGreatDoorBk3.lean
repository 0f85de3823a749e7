/-
  DsE, DsF, DpL, DsG, DsH, DsI, DsR, CurA, CurW, CurB in one text.
-/
import Derived.Test.YtglcaejddckleaaGreatDoorBk2
import Derived.Test.YtglcaejddckleaaGreatDoorBk1
import Derived.Laws.OwnMore
import Derived.Deep.RegionHeld3
import Derived.Test.YtglcaejddckleaaGreatDoorChecked
import GoSem.Claim
import GoSem.ClaimJoined
import GoSem.ClaimMapViews
import Derived.JoinedTies
import Derived.KernelRfl
import Derived.RowKit
import Derived.WalkKit
import Derived.WalkSpells
import Derived.WalkLawsBesides
import Derived.Deep.QuietTactic
import Derived.BigQuiet
import Derived.Test.YtglcaejddckleaaGreatDoorHashA
import Derived.Laws.BitsAllLaws
import Derived.Test.YtglcaejddckleaaGreatDoorHide
import Derived.Laws.BytesString
import Derived.Laws.IdiomStrings
import Derived.Test.YtglcaejddckleaaGreatDoorHashE
import Derived.Test.YtglcaejddckleaaGreatDoorKeyD
namespace Go.Proofs.YtglcaejddckleaaGreatDoor
open Go.RowKit
set_option linter.unusedVariables false
attribute [local go_sem] run_store_float run_equalIn_float

theorem upd_upd {α : Type} (f : Nat → α) (i : Nat) (a b : α) : upd (upd f i a) i b = upd f i b := by
  funext j
  by_cases e : j = i
  · subst e; rw [upd_same, upd_same]
  · rw [upd_other _ _ e, upd_other _ _ e, upd_other _ _ e]
theorem pL_set (f : Nat → Pr) (n i j : Nat) (u : Value) (p : Pr) (hi : i < n) (hj : j < 11) (hp : prL p = (prL (f i)).set j u) : (pL f n).set (i * 11 + j) u = pL (upd f i p) n := by
  apply List.ext_getElem?
  intro q
  rw [List.getElem?_set]
  by_cases hq : q < n * 11
  · have e1 : q = q / 11 * 11 + q % 11 := by omega
    have h1 : q / 11 < n := by omega
    have h2 : q % 11 < 11 := Nat.mod_lt _ (by omega)
    have g1 : (pL f n)[q]? = (prL (f (q / 11)))[q % 11]? := by have := pL_get (f := f) h1 h2; rwa [← e1] at this
    have g2 : (pL (upd f i p) n)[q]? = (prL (upd f i p (q / 11)))[q % 11]? := by have := pL_get (f := upd f i p) h1 h2; rwa [← e1] at this
    rw [g1, g2]
    by_cases e : q / 11 = i
    · rw [e, upd_same, hp, List.getElem?_set]
      by_cases e2 : i * 11 + j = q
      · rw [if_pos e2, if_pos (by rw [pL_length]; omega), if_pos (by omega), if_pos (by simp [prL]; omega)]
      · rw [if_neg e2, if_neg (by omega)]
    · rw [upd_other _ _ e, if_neg (by omega)]
  · rw [if_neg (by omega), List.getElem?_eq_none (by rw [pL_length]; omega), List.getElem?_eq_none (by rw [pL_length]; omega)]
theorem POwn.setF {w : World} {B g n cp : Nat} {f : Nat → Pr} (h : POwn w B (.slice (some ⟨g, 0, none⟩) n cp) n f) {i : Nat} (hi : i < n) (j : Nat) (hj : j < 11) (u : Value) (p : Pr) (hp : prL p = (prL (f i)).set j u) : POwn (w.setCell ⟨g, i * 11 + j, none⟩ u) B (.slice (some ⟨g, 0, none⟩) n cp) n (upd f i p) := by
  have h1 := (World.ownsRow.stored h (i * 11 + j) u).1
  rw [pL_set f n i j u p hi hj hp] at h1
  exact h1
/-- A cell of a pair is written. -/
theorem DMut.putL {w : World} {c o B g cp : Nat} {v1 v2 : Value} {d : Dc} (h : DMut w c o B (.slice (some ⟨g, 0, none⟩) d.n cp) v1 v2 d) {i : Nat} (hi : i < d.n) (j : Nat) (hj : j < 11) (u : Value) (p : Pr) (hp : prL p = (prL (d.L i)).set j u) : DMut (w.setCell ⟨g, i * 11 + j, none⟩ u) c o B (.slice (some ⟨g, 0, none⟩) d.n cp) v1 v2 { d with L := upd d.L i p } :=
  h.rowc (.inl rfl) rfl rfl rfl (h.log.setF hi j hj u p hp) (own_setOther h.ints _ (fun e => own_apart h.log h.ints rfl e)) (own_setOther h.index _ (fun e => own_apart h.log h.index rfl e))

theorem enterD_X {hf : Vl → Nat} {a b : Dc} {k : Vl} {p : Nat} (hx : a.x = b.x) (hX : a.X = b.X) (hu : a.used = b.used) : (enterD hf a k p).X = (enterD hf b k p).X ∧ (enterD hf a k p).used = (enterD hf b k p).used := by
  unfold enterD
  rw [hx, hX, hu]
  cases freeSlot b.x b.X (hf k % b.x) with
  | none => exact ⟨hX, hu⟩
  | some s => exact ⟨rfl, rfl⟩
theorem refill_X {hf : Vl → Nat} {a b : Dc} {x : Nat} : ∀ k, idxN a k < x → idxN b k < x → (∀ i, i < k → (indexedK a i ↔ indexedK b i)) → (∀ i, i < k → (a.L i).key = (b.L i).key) → (refill hf a x k).X = (refill hf b x k).X ∧ (refill hf a x k).used = (refill hf b x k).used := by
  intro k
  induction k with
  | zero => intro _ _ _ _; exact ⟨rfl, rfl⟩
  | succ k ih =>
    intro ha hb hi hk
    have ha' := Nat.lt_of_le_of_lt (idxN_mono a (k := k) (n := k + 1) (by omega)) ha
    have hb' := Nat.lt_of_le_of_lt (idxN_mono b (k := k) (n := k + 1) (by omega)) hb
    obtain ⟨i1, i2⟩ := ih ha' hb' (fun i h => hi i (by omega)) (fun i h => hk i (by omega))
    by_cases h : indexedK a k
    · rw [refill_yes h, refill_yes ((hi k (by omega)).1 h), hk k (by omega)]
      exact enterD_X ((refill_says k ha').2.2.2.1.trans (refill_says k hb').2.2.2.1.symm) i1 i2
    · rw [refill_no h, refill_no (fun h' => h ((hi k (by omega)).2 h'))]
      exact ⟨i1, i2⟩
theorem idxN_congr {a b : Dc} : ∀ k, (∀ i, i < k → (indexedK a i ↔ indexedK b i)) → idxN a k = idxN b k := by
  intro k
  induction k with
  | zero => intro _; rfl
  | succ k ih =>
    intro h
    have e := ih (fun i hi => h i (by omega))
    by_cases hh : indexedK a k
    · rw [idxN_yes hh, idxN_yes ((h k (by omega)).1 hh), e]
    · rw [idxN_no hh, idxN_no (fun h' => hh ((h k (by omega)).2 h')), e]

/-- A pair that is not there yet for the index. -/
def addZ (c : Dc) (k v : Vl) : Dc := { addL c k v with L := upd c.L c.n ⟨k, v, 0⟩ }
theorem addZ_old {c : Dc} {k v : Vl} {i : Nat} (h : i < c.n) : (addZ c k v).L i = c.L i := upd_other _ _ (by omega)
theorem addZ_indexed {c : Dc} {k v : Vl} {i : Nat} (h : i < c.n) : indexedK (addZ c k v) i ↔ indexedK c i := by
  unfold indexedK
  rw [addZ_old h]
  exact Iff.rfl
theorem addZ_last {c : Dc} {k v : Vl} : ¬ indexedK (addZ c k v) c.n := by
  unfold indexedK
  rw [show (addZ c k v).L c.n = ⟨k, v, 0⟩ from upd_same _ _ _]
  intro h
  exact absurd h.1 (by show ¬ (0 : Int) < 0; omega)
theorem addZ_idxN {c : Dc} {k v : Vl} : idxN (addZ c k v) (addZ c k v).n = idxN c c.n := by
  show idxN (addZ c k v) (c.n + 1) = _
  rw [idxN_no addZ_last]
  exact idxN_congr _ (fun i hi => addZ_indexed hi)
/-- The index made anew with the pair on its way is the one made anew without it. -/
theorem addZ_reindex {hf : Vl → Nat} {c : Dc} {k v : Vl} (hm : idxN c c.n + 1 ≤ 500) : { reindexD hf (addZ c k v) 1 with L := upd c.L c.n ⟨k, v, c.turns + 1⟩ } = addL (reindexD hf c 1) k v := by
  have e := addZ_idxN (c := c) (k := k) (v := v)
  rw [reindexD_some (d := c) (by omega), reindexD_some (d := addZ c k v) (by omega), e]
  obtain ⟨s1, s2, s3, s4⟩ := sizeFor_says hm
  have hn : (addZ c k v).n = c.n + 1 := rfl
  obtain ⟨_, _, _, a4, a5, a6, a7, a8, a9, a10⟩ := refill_says (hf := hf) (d := addZ c k v) (x := sizeFor (idxN c c.n + 1)) (addZ c k v).n (by omega)
  obtain ⟨_, _, _, b4, b5, b6, b7, b8, b9, b10⟩ := refill_says (hf := hf) (d := c) (x := sizeFor (idxN c c.n + 1)) c.n (by omega)
  have hX : (refill hf (addZ c k v) (sizeFor (idxN c c.n + 1)) (addZ c k v).n).X = (refill hf c (sizeFor (idxN c c.n + 1)) c.n).X ∧ (refill hf (addZ c k v) (sizeFor (idxN c c.n + 1)) (addZ c k v).n).used = (refill hf c (sizeFor (idxN c c.n + 1)) c.n).used := by
    rw [hn, refill_no addZ_last]
    refine refill_X c.n ?_ (by omega) (fun i hi => addZ_indexed hi) (fun i hi => by rw [addZ_old hi])
    rw [idxN_congr c.n (fun i hi => addZ_indexed hi)]
    omega
  refine Dc.eq_of ?_ ?_ ?_ ?_ ?_ hX.1 hX.2 ?_ ?_
  · show (refill hf (addZ c k v) _ _).n = (refill hf c _ _).n + 1; rw [a5, b5]; rfl
  · show _ = upd (refill hf c _ _).L (refill hf c _ _).n ⟨k, v, (refill hf c _ _).turns + 1⟩; rw [b5, b6, b10]
  · show (refill hf (addZ c k v) _ _).m = (refill hf c _ _).m; rw [a7, b7]; rfl
  · show (refill hf (addZ c k v) _ _).I = (refill hf c _ _).I; rw [a8, b8]; rfl
  · show (refill hf (addZ c k v) _ _).x = (refill hf c _ _).x; rw [a4, b4]
  · show (refill hf (addZ c k v) _ _).live = (refill hf c _ _).live + 1; rw [a9, b9]; rfl
  · show (refill hf (addZ c k v) _ _).turns = (refill hf c _ _).turns + 1; rw [a10, b10]; rfl
end Go.Proofs.YtglcaejddckleaaGreatDoor
namespace Go.Proofs.YtglcaejddckleaaGreatDoor
open Go.RowKit
set_option linter.unusedVariables false
attribute [local go_sem] run_store_float run_equalIn_float

/-- A block that is none of the dict's lies as it lay. -/
theorem Stp.far {c o : Nat} {v0 v1 v2 u0 u1 u2 : Value} {w w' : World} (h : Stp c o v0 v1 v2 w u0 u1 u2 w') {b : Nat} (hb : b < w.heap.size) (hc : b ≠ c) (ho : ¬ Own3 v0 v1 v2 b) : w'.heap[b]? = w.heap[b]? ∧ b < w'.heap.size ∧ ¬ Own3 u0 u1 u2 b :=
  ⟨h.block b hb hc ho, Nat.lt_of_lt_of_le hb h.size, fun e => (h.sub b e).elim ho (fun e' => by omega)⟩
/-- A value in its box. -/
structure Box (w : World) (b : Nat) (v : Vl) : Prop where
  lt : b < w.heap.size
  k0 : w.cell? ⟨b, 0, none⟩ = some (.int .i64 v.kind)
  k1 : w.cell? ⟨b, 1, none⟩ = some (.int .i64 v.num)
  k2 : w.cell? ⟨b, 2, none⟩ = some (.float .f64 v.flt)
  k3 : w.cell? ⟨b, 3, none⟩ = some (.string v.str)
  k4 : w.cell? ⟨b, 4, none⟩ = some (.int .i64 v.ref)
theorem Box.keep {w w' : World} {b : Nat} {v : Vl} (h : Box w b v) (hs : w.heap.size ≤ w'.heap.size) (e : w'.heap[b]? = w.heap[b]?) : Box w' b v := by
  have e' : ∀ q, w'.cell? ⟨b, q, none⟩ = w.cell? ⟨b, q, none⟩ := fun q => World.cell?_of_block e
  exact ⟨Nat.lt_of_lt_of_le h.lt hs, (e' _).trans h.k0, (e' _).trans h.k1, (e' _).trans h.k2, (e' _).trans h.k3, (e' _).trans h.k4⟩
/-- What is asked at a normal end alone. -/
def NQ (R : Act → World → Prop) : Exit → Act → World → Prop
  | .normal, a, w => R a w
  | _, _, _ => False
theorem NQ.intro {R : Act → World → Prop} {Q : Exit → Act → World → Prop} (h : ∀ a w, R a w → Q .normal a w) : ∀ e a w, NQ R e a w → Q e a w := by
  intro e a w hq
  cases e <;> first | exact h a w hq | exact hq.elim
/-- How many ints a dict has, read off memory. -/
def lenAt (w : World) (c o : Nat) : Nat := match w.cell? ⟨c, o + 1, none⟩ with
  | some (.slice _ n _) => n
  | _ => 0
theorem lenAt_of {w : World} {c o n cp : Nat} {a : Option Addr} (h : w.cell? ⟨c, o + 1, none⟩ = some (.slice a n cp)) : lenAt w c o = n := by unfold lenAt; rw [h]
theorem reindexD_same' {hf : Vl → Nat} {d : Dc} {more : Nat} (hm : idxN d d.n + more ≤ 500) : SameLog (reindexD hf d more) d := by
  by_cases e : idxN d d.n + more = 0
  · rw [reindexD_none e]; exact ⟨rfl, rfl, rfl, rfl, rfl, rfl⟩
  · rw [reindexD_some e]
    obtain ⟨s1, s2, s3, s4⟩ := sizeFor_says hm
    obtain ⟨h1, h2, h3, h4, h5, h6, h7, h8, h9, h10⟩ := refill_says (hf := hf) (d := d) (x := sizeFor (idxN d d.n + more)) d.n (by omega)
    exact ⟨h5, h6, h7, h8, h9, h10⟩
/-- A box beside a dict. -/
structure BoxD (w : World) (c : Nat) (v0 v1 v2 : Value) (b : Nat) (v : Vl) : Prop where
  box : Box w b v
  nc : b ≠ c
  no : ¬ Own3 v0 v1 v2 b
theorem BoxD.step {c o : Nat} {v0 v1 v2 u0 u1 u2 : Value} {w w' : World} {b : Nat} {v : Vl} (h : BoxD w c v0 v1 v2 b v) (k : Stp c o v0 v1 v2 w u0 u1 u2 w') : BoxD w' c u0 u1 u2 b v := by
  obtain ⟨h1, h2, h3⟩ := k.far h.box.lt h.nc h.no
  exact ⟨h.box.keep k.size h1, h.nc, h3⟩

theorem grown_from {W w3 : World} {o : Obj} {row : Option Nat} (h : (W.drew.alloc o).grownBy w3 row) : W.grownBy w3 row :=
  ⟨h.os, h.tape, h.output, by have := h.size; simp at this; omega, fun b hb hr => (h.block b (by simp; omega) hr).trans (Deep.blk_alloc_lt _ _ _ hb)⟩
theorem grown_from' {W w3 : World} {o : Obj} {row : Option Nat} (h : (W.alloc o).grownBy w3 row) : W.grownBy w3 row :=
  ⟨h.os, h.tape, h.output, by have := h.size; simp at this; omega, fun b hb hr => (h.block b (by simp; omega) hr).trans (Deep.blk_alloc_lt _ _ _ hb)⟩
theorem pL_snoc (f : Nat → Pr) (n : Nat) (p : Pr) : pL f n ++ prL p = pL (upd f n p) (n + 1) := by
  show _ = pL (upd f n p) n ++ prL (upd f n p n)
  rw [upd_same]
  congr 1
  have : ∀ m, m ≤ n → pL f m = pL (upd f n p) m := by
    intro m
    induction m with
    | zero => intro _; rfl
    | succ m ih => intro hm; show pL f m ++ prL (f m) = pL (upd f n p) m ++ prL (upd f n p m); rw [ih (by omega), upd_other _ _ (by omega)]
  exact this n (Nat.le_refl _)
theorem iL_snoc (f : Nat → Int) (n : Nat) (x : Int) : iL f n ++ [.int .i64 x] = iL (upd f n x) (n + 1) := by
  show _ = iL (upd f n x) n ++ [.int .i64 (upd f n x n)]
  rw [upd_same]
  congr 1
  have : ∀ m, m ≤ n → iL f m = iL (upd f n x) m := by
    intro m
    induction m with
    | zero => intro _; rfl
    | succ m ih => intro hm; show iL f m ++ [_] = iL (upd f n x) m ++ [_]; rw [ih (by omega), upd_other _ _ (by omega)]
  exact this n (Nat.le_refl _)
theorem kept_ne {w w3 : World} {B e size n : Nat} {v : Value} {xs : List Value} {row : Option Nat} (h : w.ownsRow B e size v n xs) (hg : w.grownBy w3 row) (hr : ∀ b, row = some b → v.ownBlock ≠ some b) : w3.ownsRow B e size v n xs := by
  cases hv : v.ownBlock with
  | none => exact h.kept hg (.inl hv)
  | some b => exact h.kept hg (.inr (by rw [hv]; intro e; exact hr b e.symm hv))
section
variable {w w3 : World} {c o B : Nat} {v0 v1 v2 u : Value} {d : Dc}
/-- Behind an append to the log. -/
theorem DMut.growL (h : DMut w c o B v0 v1 v2 d) (hg : w.grownBy w3 v0.ownBlock) {n : Nat} {L : Nat → Pr} (hu : POwn w3 B u n L) (hs : ∀ b, u.ownBlock = some b → v0.ownBlock = some b ∨ w.heap.size ≤ b) :
    DMut (w3.setCell ⟨c, o, none⟩ u) c o B u v1 v2 { d with n := n, L := L } ∧ Stp c o v0 v1 v2 w u v1 v2 (w3.setCell ⟨c, o, none⟩ u) := by
  have hc : v0.ownBlock ≠ some c := fun e => h.nc (.inl e)
  have e3 : w3.heap[c]? = w.heap[c]? := hg.block c h.lt (fun e => hc e.symm)
  have ec : ∀ q, w3.cell? ⟨c, q, none⟩ = w.cell? ⟨c, q, none⟩ := fun q => World.cell?_of_block e3
  have nu : u.ownBlock ≠ some c := fun e => (hs c e).elim hc (fun e' => by have := h.lt; omega)
  have hi : IOwn w3 B v1 d.m d.I := kept_ne h.ints hg (fun b e => own_apart h.log h.ints e)
  have hx : IOwn w3 B v2 d.x d.X := kept_ne h.index hg (fun b e => own_apart h.log h.index e)
  refine ⟨⟨by simpa using Nat.lt_of_lt_of_le h.lt hg.size, cell_set_same ((ec _).trans h.c0), (cell_set_other (by omega)).trans ((ec _).trans h.c1), (cell_set_other (by omega)).trans ((ec _).trans h.c2), (cell_set_other (by omega)).trans ((ec _).trans h.c3), (cell_set_other (by omega)).trans ((ec _).trans h.c4), (cell_set_other (by omega)).trans ((ec _).trans h.c5), fun q => by rw [World.frozen?_setCell]; exact (World.frozen?_of_block e3).trans (h.fz q), own_setOther hu _ nu, own_setOther hi _ (fun e => h.nc (.inr (.inl e))), own_setOther hx _ (fun e => h.nc (.inr (.inr e))), h.ap, fun e => e.elim nu (fun e => h.nc (.inr e)), by simpa using Nat.le_trans h.base hg.size⟩, ?_⟩
  exact stp_grown u hg (fun b e => .inl (.inl e)) h.lt hc (by omega) (fun b e => e.elim (fun e => (hs b e).elim (fun e => .inl (.inl e)) .inr) (fun e => .inl (.inr e)))
/-- Behind an append to the ints. -/
theorem DMut.growI (h : DMut w c o B v0 v1 v2 d) (hg : w.grownBy w3 v1.ownBlock) {m : Nat} {I : Nat → Int} (hu : IOwn w3 B u m I) (hs : ∀ b, u.ownBlock = some b → v1.ownBlock = some b ∨ w.heap.size ≤ b) :
    DMut (w3.setCell ⟨c, o + 1, none⟩ u) c o B v0 u v2 { d with m := m, I := I } ∧ Stp c o v0 v1 v2 w v0 u v2 (w3.setCell ⟨c, o + 1, none⟩ u) := by
  have hc : v1.ownBlock ≠ some c := fun e => h.nc (.inr (.inl e))
  have e3 : w3.heap[c]? = w.heap[c]? := hg.block c h.lt (fun e => hc e.symm)
  have ec : ∀ q, w3.cell? ⟨c, q, none⟩ = w.cell? ⟨c, q, none⟩ := fun q => World.cell?_of_block e3
  have nu : u.ownBlock ≠ some c := fun e => (hs c e).elim hc (fun e' => by have := h.lt; omega)
  have hl : POwn w3 B v0 d.n d.L := kept_ne h.log hg (fun b e e' => own_apart h.log h.ints e' e)
  have hx : IOwn w3 B v2 d.x d.X := kept_ne h.index hg (fun b e => h.ap b e)
  refine ⟨⟨by simpa using Nat.lt_of_lt_of_le h.lt hg.size, (cell_set_other (by omega)).trans ((ec _).trans h.c0), cell_set_same ((ec _).trans h.c1), (cell_set_other (by omega)).trans ((ec _).trans h.c2), (cell_set_other (by omega)).trans ((ec _).trans h.c3), (cell_set_other (by omega)).trans ((ec _).trans h.c4), (cell_set_other (by omega)).trans ((ec _).trans h.c5), fun q => by rw [World.frozen?_setCell]; exact (World.frozen?_of_block e3).trans (h.fz q), own_setOther hl _ (fun e => h.nc (.inl e)), own_setOther hu _ nu, own_setOther hx _ (fun e => h.nc (.inr (.inr e))), ?_, fun e => e.elim (fun e => h.nc (.inl e)) (fun e => e.elim nu (fun e => h.nc (.inr (.inr e)))), by simpa using Nat.le_trans h.base hg.size⟩, ?_⟩
  · intro q e e'
    exact (hs q e).elim (fun e1 => h.ap q e1 e') (fun e1 => by have := (h.index.lt q e').2; omega)
  · exact stp_grown u hg (fun b e => .inl (.inr (.inl e))) h.lt hc (by omega) (fun b e => e.elim (fun e => .inl (.inl e)) (fun e => e.elim (fun e => (hs b e).elim (fun e => .inl (.inr (.inl e))) .inr) (fun e => .inl (.inr (.inr e)))))
end

set_option maxRecDepth 100000 in
set_option maxHeartbeats 8000000 in
theorem l1come_any (hf : Vl → Nat) (K : Vl → Prop) (KL : KeyLaw K hf) (c o B : Nat) (v0 v1 v2 : Value) (d : Dc) (k v : Vl) (w : World) (hM : DMut w c o B v0 v1 v2 d) (hS : Small d) (hI : Inv0 K hf d) (hN : Next d) (hh : ∀ v, K v → HsS v (hf v))
    (hk : K k) (hkb : keyB k = true) (hv : v.ok = true) (hv0 : v.kind ≠ 0) (hno : ∀ i, i < d.n → (d.L i).turn ≠ 0 → likeB (d.L i).key k = false) (hl : d.live < 500) (ht : d.turns < 1000000000000) (hmm : d.m ≤ 4000000) :
    Calls Tryz.prog 105 #[Pc c o, V k.kind k.num k.flt k.str k.ref, V v.kind v.num v.flt v.str v.ref] w fun e w' => ((∃ u, e = .returned u) ∧ ∃ u0 u1 u2, DMut w' c o B u0 u1 u2 (comeD hf d k v) ∧ Stp c o v0 v1 v2 w u0 u1 u2 w') := by
  obtain ⟨i0, hi, hz0, hz1, hz2⟩ := info_parts infoPair
  obtain ⟨j0, ji, jz0, jz1, jz2⟩ := info_parts infoInt
  have hB0 : Below w.heap.size w ((w.alloc (.cells #[.int .i64 k.kind, .int .i64 k.num, .float .f64 k.flt, .string k.str, .int .i64 k.ref] 30)).alloc (.cells #[.int .i64 v.kind, .int .i64 v.num, .float .f64 v.flt, .string v.str, .int .i64 v.ref] 30)) := ((Below.refl _ _).alloc (Nat.le_refl _) _).alloc (by simp) _
  obtain ⟨W, hW⟩ : ∃ W, W = (w.alloc (.cells #[.int .i64 k.kind, .int .i64 k.num, .float .f64 k.flt, .string k.str, .int .i64 k.ref] 30)).alloc (.cells #[.int .i64 v.kind, .int .i64 v.num, .float .f64 v.flt, .string v.str, .int .i64 v.ref] 30) := ⟨_, rfl⟩
  rw [← hW] at hB0
  have hMW := hM.below hB0
  have bk : BoxD W c v0 v1 v2 w.heap.size k := ⟨⟨by rw [hW]; simp; omega, by rw [hW]; simp [go_sem], by rw [hW]; simp [go_sem], by rw [hW]; simp [go_sem], by rw [hW]; simp [go_sem], by rw [hW]; simp [go_sem]⟩, fun e => by have := hM.lt; omega, fun e => by have := (hM.own3 e).2; omega⟩
  have bv : BoxD W c v0 v1 v2 (w.heap.size + 1) v := ⟨⟨by rw [hW]; simp, by rw [hW]; simp [go_sem], by rw [hW]; simp [go_sem], by rw [hW]; simp [go_sem], by rw [hW]; simp [go_sem], by rw [hW]; simp [go_sem]⟩, fun e => by have := hM.lt; omega, fun e => by have := (hM.own3 e).2; omega⟩
  have hsW : Stp c o v0 v1 v2 w v0 v1 v2 W := Stp.of_below hB0 hM.lt
  have hIc := compactD_inv (hf := hf) hI
  have hNc := compactD_next (hf := hf) hI.core hN
  obtain ⟨cl1, cl2, cl3, cl4⟩ := compactD_live (hf := hf) hI.core
  have hno' : ∀ i, i < (compactD hf d).n → ((compactD hf d).L i).turn ≠ 0 → likeB ((compactD hf d).L i).key k = false := by
    intro i hi hti
    cases e : likeB ((compactD hf d).L i).key k
    · rfl
    · obtain ⟨j, g1, g2, g3⟩ := (compactD_pairs (hf := hf) hI.core (fun p => likeB p.key k = true)).1 ⟨i, hi, hti, e⟩
      rw [hno j g1 g2] at g3
      cases g3
  have hcore := hI.core
  have hm := hmm
  have HIc := hide hIc
  have HNc := hide hNc
  have HNO := hide hno'
  have HMW := hide hMW
  have HBK := hide bk
  have HBV := hide bv
  have HSW := hide hsW
  have HS := hide hS
  have HCO := hide hcore
  have HH := hide hh
  have HKL := hide KL
  have HK := hide (And.intro hk (And.intro hkb (And.intro hv hv0)))
  have HCD : Hid (comeD hf d k v = comeC hf (compactD hf d) k v) := hide rfl
  clear hM hMW bk bv hsW hS hI hN hh KL hk hkb hv hv0 hno hno' hIc hNc hB0 hcore
  go_enter Tryz.func105, Tryz.ntmps105
  go_wp2_with fail
  rw [← hW]
  clear hW
  refine (l1compact_any hf K c o B v0 v1 v2 d _ (unhide HMW) (unhide HS) (unhide HCO) (unhide HH)).mono ?_
  rintro e w1 ⟨⟨u, rfl⟩, t0, t2, hM1, hs1⟩
  have HBK1 := hide ((unhide HBK).step hs1)
  have HBV1 := hide ((unhide HBV).step hs1)
  have HS1 := hide ((unhide HSW).trans hs1)
  generalize hcc : compactD hf d = cD at hM1 HIc HNc HNO HCD cl1 cl2 cl3 cl4
  have hcn : cD.n ≤ 1000 := by omega
  have hct : 0 ≤ cD.turns ∧ cD.turns < 1000000000000 := ⟨(unhide HIc).turns.1, by omega⟩
  have hcl : cD.live < 500 ∧ 0 ≤ cD.live := ⟨by omega, by have := (unhide HIc).log.cnt; omega⟩
  have hcm : cD.m ≤ 4000000 := by rw [cl3]; exact hm
  obtain ⟨la, lc, e0, _⟩ := hM1.log.at
  subst e0
  have c0 := hM1.c0
  have c4 := hM1.c4
  have c5 := hM1.c5
  have f0 := hM1.fz o
  have f4 := hM1.fz (o + 4)
  have f5 := hM1.fz (o + 5)
  have hlt := hM1.lt
  have HM1 := hide hM1
  clear hs1 hM1 hcc HBK HBV HSW HMW cl1 cl2 cl3 cl4 hl ht hm hmm
  -- the turn, the number that live
  obtain ⟨W2, hW2⟩ : ∃ W2, W2 = (w1.setCell ⟨c, o + 5, none⟩ (.int .i64 (cD.turns + 1))).setCell ⟨c, o + 4, none⟩ (.int .i64 (cD.live + 1)) := ⟨_, rfl⟩
  have hM2 := ((unhide HM1).setTurns (cD.turns + 1)).setLive (cD.live + 1)
  have hs2 := ((unhide HS1).trans (stp_field (c := c) (o := o) (v0 := .slice la cD.n lc) (v1 := v1) (v2 := t2) (w := w1) (q := o + 5) (.int .i64 (cD.turns + 1)) (by omega) (fun b e => .inl e))).trans (stp_field (q := o + 4) (.int .i64 (cD.live + 1)) (by omega) (fun b e => .inl e))
  have hst12 : Stp c o (.slice la cD.n lc) v1 t2 w1 (.slice la cD.n lc) v1 t2 ((w1.setCell ⟨c, o + 5, none⟩ (.int .i64 (cD.turns + 1))).setCell ⟨c, o + 4, none⟩ (.int .i64 (cD.live + 1))) := (stp_field (q := o + 5) (.int .i64 (cD.turns + 1)) (by omega) (fun b e => .inl e)).trans (stp_field (q := o + 4) (.int .i64 (cD.live + 1)) (by omega) (fun b e => .inl e))
  have HBK2 := hide ((unhide HBK1).step hst12)
  have HBV2 := hide ((unhide HBV1).step hst12)
  rw [← hW2] at hM2 hs2 HBK2 HBV2
  have HM2 := hide hM2
  have HS2 := hide hs2
  clear hM2 hs2 hst12 HM1 HS1 HBK1 HBV1
  go_wp2_with fail
  rw [← hW2]
  clear hW2 c0 c4 c5 f0 f4 f5 hlt
  have c0 := (unhide HM2).c0
  have c5 := (unhide HM2).c5
  have f0 := (unhide HM2).fz o
  have hlt := (unhide HM2).lt
  obtain ⟨bl, k0, k1, k2, k3, k4⟩ := (unhide HBK2).box
  obtain ⟨bl', q0, q1, q2, q3, q4⟩ := (unhide HBV2).box
  have HOW : Hid (POwn W2.drew B (.slice la cD.n lc) cD.n cD.L) := hide (unhide HM2).log.drew
  have hBz := (unhide HM2).base
  have HG : Hid (∀ (g3 cp3 : Nat) (w3 : World), w3.ownsRow B 43 11 (.slice (some ⟨g3, 0, none⟩) (cD.n + 1) cp3) (cD.n + 1) (pL cD.L cD.n ++ prL ⟨k, v, cD.turns + 1⟩) → W2.grownBy w3 (Value.slice la cD.n lc).ownBlock → ((Value.slice la cD.n lc).ownBlock = some g3 ∨ W2.heap.size ≤ g3) →
      DMut (w3.setCell ⟨c, o, none⟩ (.slice (some ⟨g3, 0, none⟩) (cD.n + 1) cp3)) c o B (.slice (some ⟨g3, 0, none⟩) (cD.n + 1) cp3) v1 t2 (addL cD k v) ∧ Stp c o (.slice la cD.n lc) v1 t2 W2 (.slice (some ⟨g3, 0, none⟩) (cD.n + 1) cp3) v1 t2 (w3.setCell ⟨c, o, none⟩ (.slice (some ⟨g3, 0, none⟩) (cD.n + 1) cp3))) := hide (fun g3 cp3 w3 h1 h2 h3 => by
    rw [pL_snoc] at h1
    exact (unhide HM2).growL h2 h1 (fun b e => by rw [← ownB e]; exact h3))
  have hnc : (Value.slice la cD.n lc).ownBlock ≠ some c := fun e => (unhide HM2).nc (.inl e)
  have HNC := hide hnc
  clear hnc
  refine Code.wp_mono (Q := NQ fun a' w' => ∃ (g3 cp3 : Nat), a' = { tmps := #[Pc c o, V k.kind k.num k.flt k.str k.ref, V v.kind v.num v.flt v.str v.ref, undef, Value.pointer (some { block := w.heap.size, off := 0 }), Value.pointer (some { block := w.heap.size + 1, off := 0 }), Value.int IntKind.i64 ↑cD.n, undef, Pc c o, u, Pc c o, Value.pointer (some { block := c, off := o }), Value.pointer (some { block := c, off := o }), Value.slice la cD.n lc, Value.int IntKind.i64 ↑cD.n, Pc c o, Value.pointer (some { block := c, off := o }), Value.pointer (some { block := c, off := o + 5 }), Value.int IntKind.i64 cD.turns, Value.int IntKind.i64 (cD.turns + 1), Value.pointer (some { block := c, off := o }), Value.pointer (some { block := c, off := o + 5 }), Pc c o, Value.pointer (some { block := c, off := o }), Value.pointer (some { block := c, off := o + 4 }), Value.int IntKind.i64 cD.live, Value.int IntKind.i64 (cD.live + 1), Value.pointer (some { block := c, off := o }), Value.pointer (some { block := c, off := o + 4 }), Pc c o, Pc c o, Value.pointer (some { block := c, off := o }), Value.pointer (some { block := c, off := o }), Value.slice la cD.n lc, V k.kind k.num k.flt k.str k.ref, V v.kind v.num v.flt v.str v.ref, Pc c o, Value.pointer (some { block := c, off := o }), Value.pointer (some { block := c, off := o + 5 }), Value.int IntKind.i64 (cD.turns + 1), PV ⟨k, v, cD.turns + 1⟩, Value.slice (some { block := W2.heap.size, off := 0 }) 1 1, Value.slice (some { block := g3, off := 0 }) (cD.n + 1) cp3, Value.pointer (some { block := c, off := o }), Value.pointer (some { block := c, off := o }), undef, undef, undef, undef, undef, undef, undef, undef, undef, undef, undef, undef, undef, undef, undef, undef, undef, undef, undef, undef, undef, undef, undef, undef, undef, undef, undef, undef, undef, undef, undef, undef, undef, undef, undef, undef, undef, undef, undef, undef, undef, undef, undef, undef, undef, undef, undef, undef, undef, undef, undef, undef, undef, undef, undef, undef, undef, undef, undef, undef, undef, undef, undef, undef, undef, undef, undef, undef, undef, undef, undef, undef, undef, undef, undef, undef, undef, undef, undef, undef, undef, undef, undef, undef, undef, undef, undef, undef, undef, undef, undef, undef, undef, undef, undef, undef, undef, undef, undef, undef, undef, undef, undef, undef, undef, undef, undef], defers := [] } ∧ DMut w' c o B (.slice (some ⟨g3, 0, none⟩) (cD.n + 1) cp3) v1 t2 (addL cD k v) ∧ Stp c o (.slice la cD.n lc) v1 t2 W2 (.slice (some ⟨g3, 0, none⟩) (cD.n + 1) cp3) v1 t2 w') ?cont ?reg
  case reg =>
    clear HIc HNc HNO HS HCO HH HKL HK HCD HS2 HBK2 HBV2 HM2 hcl hcm j0 ji jz0 jz1 jz2
    go_region_law (refine step_append_lies _ rfl (.tmp 33) (.tmp 41) 23 rfl B 43 i0 PZ 11 104 Tryz.underlying23 hi hz0 hz1 hz2 rfl (by decide) (.slice la cD.n lc) cD.n (pL cD.L cD.n) (by simp [Act.eval]) ((unhide HOW).alloc _) ⟨W2.heap.size, 0, none⟩ 1 1 (prL ⟨k, v, cD.turns + 1⟩) (by simp [Act.eval]) rfl (World.news_of_block (Deep.blk_alloc_new _ _)) (prL_one _) (by decide) (by unfold maxLen; omega) (by omega) (by simp; omega) _ rfl ?_; intro g3 cp3 w3 hown3 hgr3 hloc3 hlt3; have hg3' := grown_from hgr3; have hN3 := unhide HG g3 cp3 w3 hown3 hg3' (hloc3.imp id (fun e => by rw [e]; simp)); have e3 : w3.heap[c]? = W2.heap[c]? := hg3'.block c hlt (fun e => unhide HNC e.symm); have x3 := (World.cell?_of_block (a := ⟨c, o, none⟩) e3).trans c0; have f3 := (World.frozen?_of_block (a := ⟨c, o, none⟩) e3).trans f0; have HN3 := hide hN3; clear hown3 hgr3 hg3' hN3 e3 hloc3 HG HOW hi hz0 hz1 hz2 k0 k1 k2 k3 k4 q0 q1 q2 q3 q4 c0 c5)
    all_goals exact ⟨_, _, rfl, (unhide HN3).1, (unhide HN3).2⟩
  case cont =>
  refine NQ.intro ?_
  rintro a' W3 ⟨g3, cp3, rfl, hM3, hs3⟩
  clear HG HOW HNC c0 c5 f0 hlt k0 k1 k2 k3 k4 q0 q1 q2 q3 q4 bl bl' hBz
  have HBK3 := hide ((unhide HBK2).step hs3)
  have HBV3 := hide ((unhide HBV2).step hs3)
  have HS3 := hide ((unhide HS2).trans hs3)
  have hS3 : Small (addL cD k v) := ⟨by show cD.n + 1 ≤ _; omega, by show cD.m ≤ _; omega, by show cD.x ≤ _; have h := (unhide HIc).sz; unfold SizeX at h; omega⟩
  have HSm := hide hS3
  obtain ⟨ia, ic, e1, hIA⟩ := hM3.ints.at
  obtain ⟨xa, xc, e2, hXA⟩ := hM3.index.at
  have e1 : v1 = .slice ia cD.m ic := e1
  have e2 : t2 = .slice xa cD.x xc := e2
  have HF1 : Hid (0 < cD.m → ∃ g cp, v1 = .slice (some ⟨g, 0, none⟩) cD.m cp) := hide (fun h => by obtain ⟨g, cp, h, _⟩ := hM3.ints.form h; exact ⟨g, cp, h⟩)
  have HF2 : Hid (0 < cD.x → ∃ g cp, t2 = .slice (some ⟨g, 0, none⟩) cD.x cp) := hide (fun h => by obtain ⟨g, cp, h, _⟩ := hM3.index.form h; exact ⟨g, cp, h⟩)
  have HM3 := hide hM3
  obtain ⟨bl, k0, k1, k2, k3, k4⟩ := (unhide HBK3).box
  have hP3 : DPtr W3 c o (some ⟨g3, 0, none⟩) cp3 ia ic xa xc (addL cD k v) := ⟨hM3.lt, hM3.c0, by rw [hM3.c1, e1]; rfl, by rw [hM3.c2, e2]; rfl, hM3.c3, hM3.c4, hM3.c5, by obtain ⟨a, cp, e, h⟩ := hM3.log.at; cases e; exact h, hIA, hXA⟩
  subst e1 e2
  have HP3 := hide hP3
  have hlt3 := hM3.lt
  clear hM3 hs3 hS3 hIA hXA hP3 HBK2 HBV2 HM2 HS2
  dsimp only
  go_wp2_with fail
  refine (l1small_any c o (some ⟨g3, 0, none⟩) cp3 ia ic xa xc (addL cD k v) k _ (unhide HP3) (unhide HSm)).mono ?_
  rintro e w4 ⟨rfl, hb4⟩
  have HM4 := hide ((unhide HM3).below hb4)
  have HS4 := hide ((unhide HS3).trans (Stp.of_below hb4 hlt3))
  have HBK4 := hide ((unhide HBK3).step (Stp.of_below (o := o) hb4 hlt3))
  have HBV4 := hide ((unhide HBV3).step (Stp.of_below (o := o) hb4 hlt3))
  clear hb4 HM3 HS3 HBK3 HBV3 HP3 hlt3 bl k0 k1 k2 k3 k4
  obtain ⟨bl, k0, k1, k2, k3, k4⟩ := (unhide HBK4).box
  have hlt := (unhide HM4).lt
  have c1 := (unhide HM4).c1
  by_cases hs : smallK cD.m k
  · rw [show tells (smallK (addL cD k v).m k) = true from tells_yes hs]
    have HR : Hid (comeC hf cD k v = addSmall cD k v) := hide (by unfold comeC; rw [if_pos hs])
    obtain ⟨s1, s2, s3⟩ := hs
    obtain ⟨q, hq⟩ : ∃ q : Nat, k.num = (q : Int) + 1 := ⟨(k.num - 1).toNat, by omega⟩
    have hqm : q < cD.m := by omega
    obtain ⟨g, cp, eg⟩ := unhide HF1 (by omega)
    cases eg
    obtain ⟨g', cp', eg', hBg, hgl, hcp, hcs, hfz⟩ := (unhide HM4).ints.form (by show 0 < cD.m; omega)
    cases eg'
    have e0 := hcs q hqm
    have f0 := hfz q
    have hgc : g ≠ c := fun e => (unhide HM4).nc (.inr (.inl (by rw [← e]; rfl)))
    have hwq : IntKind.i64.wrap (q : Int) = q := by rw [IntKind.wrap_i64]; omega
    have hd := DMut.putI (d := addL cD k v) (unhide HM4) (i := q) hqm ((cD.n : Int) + 1)
    have hst := (unhide HS4).trans (stp_row (q := q) (.int .i64 ((cD.n : Int) + 1)) (.inr (.inl rfl)) hgc)
    have HE : Hid ({ addL cD k v with I := upd (addL cD k v).I q ((cD.n : Int) + 1) } = addSmall cD k v) := hide (by unfold addSmall; rw [hq, show ((q : Int) + 1 - 1).toNat = q by omega]; rfl)
    have HD := hide hd
    have HST := hide hst
    rw [hq] at k1
    clear hd hst hcs hfz hq s1 s2 s3 HF1 HF2
    go_wp2_with fail
    go_region
    go_wp2
    refine bodyPost_ret (results_none rfl _ _ _) rfl ?_
    refine ⟨⟨_, rfl⟩, _, _, _, ?_, (unhide HST).trans (Stp.of_below (Below.refl _ _).drew (by simpa using hlt))⟩
    rw [unhide HCD, unhide HR, ← unhide HE]
    exact (unhide HD).below (Below.refl _ _).drew
  rw [show tells (smallK (addL cD k v).m k) = false from tells_no hs]
  have HNS := hide hs
  clear hs
  have hwm : IntKind.i64.wrap ((cD.m : Int) + 1) = (cD.m : Int) + 1 := by rw [IntKind.wrap_i64]; omega
  by_cases hx : k.kind = 2 ∧ k.num = (cD.m : Int) + 1
  · have HR : Hid (comeC hf cD k v = moveD hf (cD.x + 1) (addNext cD k v)) := hide (by unfold comeC; rw [if_neg (unhide HNS), if_pos hx])
    have HIN : Hid (Inv0 K hf (addNext cD k v)) := hide (addNext_inv (unhide HKL) (unhide HIc) (unhide HK).1 (unhide HK).2.1 (unhide HK).2.2.1 (unhide HK).2.2.2 (unhide HNO) hx.1 hx.2 hcl.1 hct.2)
    have hk2' : (k.kind == 2) = true := by simp [hx.1]
    have hnm' : (k.num == (cD.m : Int) + 1) = true := by simp [hx.2]
    clear hx
    go_wp2_with fail
    go_quiet (fail)
    obtain ⟨W5, hW5⟩ : ∃ W5, W5 = w4.drewN nq := ⟨_, rfl⟩
    rw [← hW5]
    have hb5 : Below w4.heap.size w4 W5 := by rw [hW5]; exact below_drewN' (Below.refl _ _) _
    clear hW5
    have HM5 := hide ((unhide HM4).below hb5)
    have HS5 := hide ((unhide HS4).trans (Stp.of_below hb5 hlt))
    clear hb5 HM4 HS4 HBK4 HBV4 c1 hlt bl k0 k1 k2 k3 k4 hk2' hnm'
    have c1 := (unhide HM5).c1
    have f1 := (unhide HM5).fz (o + 1)
    have hlt := (unhide HM5).lt
    have hB5 := (unhide HM5).base
    have hnc : (Value.slice ia cD.m ic).ownBlock ≠ some c := fun e => (unhide HM5).nc (.inr (.inl e))
    have HNC := hide hnc
    clear hnc
    have HG : Hid (∀ (g4 cp4 : Nat) (w5 : World), w5.ownsRow B 3 1 (.slice (some ⟨g4, 0, none⟩) (cD.m + 1) cp4) (cD.m + 1) (iL cD.I cD.m ++ [.int .i64 ((cD.n : Int) + 1)]) → W5.grownBy w5 (Value.slice ia cD.m ic).ownBlock → ((Value.slice ia cD.m ic).ownBlock = some g4 ∨ W5.heap.size ≤ g4) →
        DMut (w5.setCell ⟨c, o + 1, none⟩ (.slice (some ⟨g4, 0, none⟩) (cD.m + 1) cp4)) c o B (.slice (some ⟨g3, 0, none⟩) (cD.n + 1) cp3) (.slice (some ⟨g4, 0, none⟩) (cD.m + 1) cp4) (.slice xa cD.x xc) (addNext cD k v) ∧ Stp c o (.slice (some ⟨g3, 0, none⟩) (cD.n + 1) cp3) (.slice ia cD.m ic) (.slice xa cD.x xc) W5 (.slice (some ⟨g3, 0, none⟩) (cD.n + 1) cp3) (.slice (some ⟨g4, 0, none⟩) (cD.m + 1) cp4) (.slice xa cD.x xc) (w5.setCell ⟨c, o + 1, none⟩ (.slice (some ⟨g4, 0, none⟩) (cD.m + 1) cp4))) := hide (fun g4 cp4 w5 h1 h2 h3 => by
      rw [iL_snoc] at h1
      exact (unhide HM5).growI h2 h1 (fun b e => by rw [← ownB e]; exact h3))
    have HO5 := hide (unhide HM5).ints
    have HZ5 : Hid (W5.heap.size = W5.heap.size) := hide rfl
    go_wp2_with (first | (at_builtin; refine wpList_append_lies _ rfl _ _ 24 rfl B 3 j0 (.int .i64 0) 1 8 Tryz.underlying24 ji jz0 jz1 jz2 rfl (by decide) (.slice ia cD.m ic) cD.m (iL cD.I cD.m) rfl ((unhide HO5).alloc _) ⟨W5.heap.size, 0, none⟩ 1 1 [.int .i64 ((cD.n : Int) + 1)] rfl rfl (World.news_of_block (Deep.blk_alloc_new _ _)) (by simp [Value.oneCell']) (by decide) (by unfold maxLen; omega) (by omega) (by simp; omega) _ rfl ?_; intro g4 cp4 w5 hown4 hgr4 hloc4 hlt4; have hg4 := grown_from' hgr4; have hN4 := unhide HG g4 cp4 w5 hown4 hg4 (hloc4.imp id (fun e => by rw [e]; simp)); have e4 : w5.heap[c]? = W5.heap[c]? := hg4.block c hlt (fun e => unhide HNC e.symm); have x4 := (World.cell?_of_block (a := ⟨c, o + 1, none⟩) e4).trans c1; have f4 := (World.frozen?_of_block (a := ⟨c, o + 1, none⟩) e4).trans f1; have HN4 := hide hN4; have hcl4 : c < w5.heap.size := Nat.lt_of_lt_of_le hlt hg4.size; clear hown4 hgr4 hg4 hN4 e4 hloc4) | go_in)
    obtain ⟨WL, hWL⟩ : ∃ WL, WL = w5.setCell ⟨c, o + 1, none⟩ (.slice (some ⟨g4, 0, none⟩) (cD.m + 1) cp4) := ⟨_, rfl⟩
    rw [← hWL] at HN4
    rw [← hWL]
    clear hWL
    have HD6 := hide (unhide HN4).1
    have HS6 := hide ((unhide HS5).trans (unhide HN4).2)
    clear HN4 HS5 HM5 HG HO5 HNC HZ5 x4 f4 hcl4 c1 f1 hlt hB5 hlt4 HF1 HF2
    have hcx : cD.x ≤ 4000 := by have h := (unhide HIc).sz; unfold SizeX at h; omega
    go_loopw [7] (fun _ wr => ∃ (f : Nat) (dd : Dc) (u1 u2 : Value), moveD hf f dd = moveD hf (cD.x + 1) (addNext cD k v) ∧ posN dd.X dd.x < f ∧ dd.m + f = cD.m + 1 + (cD.x + 1) ∧ Inv0 K hf dd ∧ dd.n = cD.n + 1 ∧ DMut wr c o B (.slice (some ⟨g3, 0, none⟩) (cD.n + 1) cp3) u1 u2 dd ∧ Stp c o v0 (.slice ia cD.m ic) v2 w (.slice (some ⟨g3, 0, none⟩) (cD.n + 1) cp3) u1 u2 wr) (fun _ wr => (cD.m + 1 + (cD.x + 1)) - lenAt wr c o)
    case atStart => exact ⟨cD.x + 1, addNext cD k v, _, _, rfl, by have := posN_le cD.X cD.x; show posN cD.X cD.x < _; omega, rfl, unhide HIN, rfl, unhide HD6, unhide HS6⟩
    case round =>
      clear HD6 HS6 HIN
      obtain ⟨f, dd, u1, u2, hmv, hpos, hmf, hinv, hdn, hd, hst⟩ := hrel
      obtain ⟨ia', ic', e1, hIA⟩ := hd.ints.at
      obtain ⟨xa', xc', e2, hXA⟩ := hd.index.at
      have hsx := hinv.sz
      have hdx : dd.x ≤ 4000 := by unfold SizeX at hsx; omega
      have HF2 : Hid (0 < dd.x → ∃ g cp, u2 = .slice (some ⟨g, 0, none⟩) dd.x cp) := hide (fun h => by obtain ⟨g, cp, h, _⟩ := hd.index.form h; exact ⟨g, cp, h⟩)
      have hP : DPtr wr c o (some ⟨g3, 0, none⟩) cp3 ia' ic' xa' xc' dd := ⟨hd.lt, by rw [hd.c0, hdn], by rw [hd.c1, e1], by rw [hd.c2, e2], hd.c3, hd.c4, hd.c5, by have hl := hd.log; rw [hdn] at hl; obtain ⟨a, cp, e, h⟩ := hl.at; cases e; rw [hdn]; exact h, hIA, hXA⟩
      have hsm : Small dd := ⟨by omega, by omega, by omega⟩
      subst e1 e2
      have HP := hide hP
      have HSM := hide hsm
      have HD := hide hd
      have HST := hide hst
      have HINV := hide hinv
      have HMV := hide hmv
      have c1 := hd.c1
      have hlt := hd.lt
      have HLEN := hide (lenAt_of hd.c1)
      have HHI := hide (unhide HH _ ((unhide HKL).own ((dd.m : Int) + 1)))
      have hwm' : IntKind.i64.wrap ((dd.m : Int) + 1) = (dd.m : Int) + 1 := by rw [IntKind.wrap_i64]; omega
      clear hIA hXA hP hsm hd hst hinv hmv hsx
      go_wp2_with fail
      refine (l1int_any ((dd.m : Int) + 1) _).mono ?_
      rintro e w6 ⟨rfl, hb6⟩
      have HP6 := hide ((unhide HP).below hb6)
      have HD6 := hide ((unhide HD).below hb6)
      have HST6 := hide ((unhide HST).trans (Stp.of_below hb6 hlt))
      have hlt6 := Nat.lt_of_lt_of_le hlt hb6.size
      clear hb6 HP HD HST c1 hlt
      go_wp2_with fail
      refine (l1slot_any c o (some ⟨g3, 0, none⟩) cp3 ia' ic' xa' xc' dd (intV ((dd.m : Int) + 1)) (hf (intV ((dd.m : Int) + 1))) _ (unhide HP6) (unhide HSM) (unhide HINV).d4 (unhide HHI)).mono ?_
      rintro e w7 ⟨rfl, hb7⟩
      have HD7 := hide ((unhide HD6).below hb7)
      have HST7 := hide ((unhide HST6).trans (Stp.of_below hb7 hlt6))
      clear hb7 HP6 HD6 HST6 hlt6
      have c1 := (unhide HD7).c1
      have c2 := (unhide HD7).c2
      have f1 := (unhide HD7).fz (o + 1)
      have hlt := (unhide HD7).lt
      have hB7 := (unhide HD7).base
      cases hsl : slotOf dd (intV ((dd.m : Int) + 1)) (hf (intV ((dd.m : Int) + 1))) with
      | none =>
        have HEND : Hid (dd = moveD hf (cD.x + 1) (addNext cD k v)) := hide (by rw [← unhide HMV, moveD_none hsl])
        simp only [slotI]
        clear hsl c1 c2 f1
        go_wp2
        refine bodyPost_ret (results_none rfl _ _ _) rfl ?_
        refine ⟨⟨_, rfl⟩, _, _, _, ?_, unhide HST7⟩
        rw [unhide HCD, unhide HR, ← unhide HEND]
        exact unhide HD7
      | some s =>
        obtain ⟨hs1, hs2, hs3, hs4⟩ := (unhide HINV).slot hsl
        obtain ⟨f', rfl⟩ : ∃ f', f = f' + 1 := ⟨f - 1, by omega⟩
        have HMV' : Hid (moveD hf f' (moveS dd s) = moveD hf (cD.x + 1) (addNext cD k v)) := hide (by rw [← unhide HMV, moveD_some hsl])
        have HINV' := hide (moveS_inv (unhide HKL) (unhide HINV) hsl)
        have hpl := posN_leave (X := dd.X) hs2 dd.x
        rw [if_pos hs1] at hpl
        have HPOS : Hid (posN (moveS dd s).X (moveS dd s).x < f') := hide (by show posN (upd dd.X s (-1)) dd.x < f'; omega)
        obtain ⟨g, cp, eg⟩ := unhide HF2 (by omega)
        cases eg
        obtain ⟨g', cp', eg', hBg, hgl, hcp, hcs, hfz⟩ := (unhide HD7).index.form (by omega)
        cases eg'
        have e0 := hcs s hs1
        have f0 := hfz s
        have hgc : g ≠ c := fun e => (unhide HD7).nc (.inr (.inr (by rw [← e]; rfl)))
        have hXr : 0 < dd.X s ∧ dd.X s ≤ 1001 := ⟨hs2, by have := hs3.1; omega⟩
        simp only [slotI]
        have HXS := hide hXr
        clear hsl hs2 hs3 hs4 hcs hfz hpl hXr
        go_wp2_with fail
        have HOW : Hid (IOwn w7.drew B (.slice ia' dd.m ic') dd.m dd.I) := hide (unhide HD7).ints.drew
        have hnc : (Value.slice ia' dd.m ic').ownBlock ≠ some c := fun e => (unhide HD7).nc (.inr (.inl e))
        have hng : (Value.slice ia' dd.m ic').ownBlock ≠ some g := fun e => (unhide HD7).ap g e rfl
        have HNC := hide (And.intro hnc hng)
        have HG : Hid (∀ (g5 cp5 : Nat) (w9 : World), w9.ownsRow B 3 1 (.slice (some ⟨g5, 0, none⟩) (dd.m + 1) cp5) (dd.m + 1) (iL dd.I dd.m ++ [.int .i64 (dd.X s)]) → w7.grownBy w9 (Value.slice ia' dd.m ic').ownBlock → ((Value.slice ia' dd.m ic').ownBlock = some g5 ∨ w7.heap.size ≤ g5) →
            DMut ((w9.setCell ⟨c, o + 1, none⟩ (.slice (some ⟨g5, 0, none⟩) (dd.m + 1) cp5)).setCell ⟨g, s, none⟩ (.int .i64 (-1))) c o B (.slice (some ⟨g3, 0, none⟩) (cD.n + 1) cp3) (.slice (some ⟨g5, 0, none⟩) (dd.m + 1) cp5) (.slice (some ⟨g, 0, none⟩) dd.x xc') (moveS dd s) ∧ Stp c o v0 (.slice ia cD.m ic) v2 w (.slice (some ⟨g3, 0, none⟩) (cD.n + 1) cp3) (.slice (some ⟨g5, 0, none⟩) (dd.m + 1) cp5) (.slice (some ⟨g, 0, none⟩) dd.x xc') ((w9.setCell ⟨c, o + 1, none⟩ (.slice (some ⟨g5, 0, none⟩) (dd.m + 1) cp5)).setCell ⟨g, s, none⟩ (.int .i64 (-1)))) := hide (fun g5 cp5 w9 h1 h2 h3 => by
          rw [iL_snoc] at h1
          obtain ⟨a1, a2⟩ := (unhide HD7).growI h2 h1 (fun b e => by rw [← ownB e]; exact h3)
          exact ⟨DMut.putX (d := { dd with m := dd.m + 1, I := upd dd.I dd.m (dd.X s) }) a1 (i := s) hs1 (-1), ((unhide HST7).trans a2).trans (stp_row (q := s) (.int .i64 (-1)) (.inr (.inr rfl)) hgc)⟩)
        clear hnc hng HD7 HST7 HINV HMV HF2
        go_region_law (refine step_append_lies _ rfl (.tmp 98) (.tmp 106) 24 rfl B 3 j0 (.int .i64 0) 1 8 Tryz.underlying24 ji jz0 jz1 jz2 rfl (by decide) (.slice ia' dd.m ic') dd.m (iL dd.I dd.m) (by simp [Act.eval]) ((unhide HOW).alloc _) ⟨w7.heap.size, 0, none⟩ 1 1 [.int .i64 (dd.X s)] (by simp [Act.eval]) rfl (World.news_of_block (Deep.blk_alloc_new _ _)) (by simp [Value.oneCell']) (by decide) (by unfold maxLen; omega) (by omega) (by simp; omega) _ rfl ?_; intro g5 cp5 w9 hown5 hgr5 hloc5 hlt5; have hg5 := grown_from hgr5; have hN5 := unhide HG g5 cp5 w9 hown5 hg5 (hloc5.imp id (fun e => by rw [e]; simp)); have e5 : w9.heap[c]? = w7.heap[c]? := hg5.block c hlt (fun e => (unhide HNC).1 e.symm); have e6 : w9.heap[g]? = w7.heap[g]? := hg5.block g hgl (fun e => (unhide HNC).2 e.symm); have x5 := (World.cell?_of_block (a := ⟨c, o + 1, none⟩) e5).trans c1; have x6 := (World.cell?_of_block (a := ⟨c, o + 2, none⟩) e5).trans c2; have y5 := (World.cell?_of_block (a := ⟨g, s, none⟩) e6).trans e0; have z5 := (World.frozen?_of_block (a := ⟨g, s, none⟩) e6).trans f0; have f5 := (World.frozen?_of_block (a := ⟨c, o + 1, none⟩) e5).trans f1; have hlc5 := Nat.lt_of_lt_of_le hlt hg5.size; have hlg5 := Nat.lt_of_lt_of_le hgl hg5.size; have HN5 := hide hN5; clear hown5 hgr5 hg5 hN5 e5 e6 hloc5 HG)
        all_goals
          go_wp2
          go_roundw
          case rel => exact ⟨f', moveS dd s, _, _, unhide HMV', unhide HPOS, by show dd.m + 1 + f' = _; omega, unhide HINV', hdn, (unhide HN5).1, (unhide HN5).2⟩
          case measure =>
            rw [lenAt_of (unhide HN5).1.c1, unhide HLEN]
            omega
  have HR : Hid (comeC hf cD k v = enterD hf (addL (roomD hf cD) k v) k cD.n) := hide (by unfold comeC; rw [if_neg (unhide HNS), if_neg hx])
  -- the test
  have hcx : cD.x ≤ 4000 := by have h := (unhide HIc).sz; unfold SizeX at h; omega
  have hus : 0 ≤ cD.used ∧ cD.used ≤ 4000 := by have h1 := (unhide HIc).used; have h2 := useN_le cD.X cD.x; omega
  have HTEST : Hid (∀ (Q : Prop), (k.kind ≠ 2 → Q) → (k.kind = 2 → k.num ≠ (cD.m : Int) + 1 → Q) → Q) := hide (fun Q h1 h2 => by
    by_cases e : k.kind = 2
    · exact h2 e (fun e' => hx ⟨e, e'⟩)
    · exact h1 e)
  clear hx
  have c2 := (unhide HM4).c2
  have c3 := (unhide HM4).c3
  have hused : (addL cD k v).used = cD.used := rfl
  rw [hused] at c3
  obtain ⟨lb, lcp, elb, hBl, hll, hlcp, hlpc, hlfz⟩ := (unhide HM4).log.form (by show 0 < cD.n + 1; omega)
  cases elb
  have hPn := (hlpc cD.n (by show cD.n < cD.n + 1; omega)).tn
  have hL : (addL cD k v).L cD.n = ⟨k, v, cD.turns + 1⟩ := addL_new
  rw [hL] at hPn
  have hPn : w4.cell? ⟨g3, cD.n * 11 + 10, none⟩ = some (.int .i64 (cD.turns + 1)) := hPn
  have hPf := hlfz (cD.n * 11 + 10)
  have hw1 : IntKind.i64.wrap (cD.used + 1) = cD.used + 1 := by rw [IntKind.wrap_i64]; omega
  have hw2 : IntKind.i64.wrap (2 * (cD.used + 1)) = 2 * (cD.used + 1) := by rw [IntKind.wrap_i64]; omega
  have c0 := (unhide HM4).c0
  have hc0 : (addL cD k v).n = cD.n + 1 := rfl
  have hg3c : g3 ≠ c := fun e => (unhide HM4).nc (.inl (by rw [← e]; rfl))
  have HROOM := hide (roomD_inv (hf := hf) (unhide HIc) hcl.1)
  have HNN : Hid (∀ (W5 : World), Below w4.heap.size w4 W5 → True) := hide (fun _ _ => trivial)
  clear HNN hlpc hlfz hL hused HF1 HF2
  refine unhide HTEST _ (fun hk2 => ?_) (fun hk2 hnm => ?_)
  · have hk2' : (k.kind == 2) = false := by simp [hk2]
    clear hk2 HTEST
    go_wp2_with fail
    go_quiet (fail)
    obtain ⟨W5, hW5⟩ : ∃ W5, W5 = w4.drewN nq := ⟨_, rfl⟩
    rw [← hW5]
    have hb5 : Below w4.heap.size w4 W5 := by rw [hW5]; exact below_drewN' (Below.refl _ _) _
    clear hW5
    have HM5 := hide ((unhide HM4).below hb5)
    have HS5 := hide ((unhide HS4).trans (Stp.of_below hb5 hlt))
    have HBK5 := hide ((unhide HBK4).step (Stp.of_below (o := o) hb5 hlt))
    have c0 : W5.cell? ⟨c, o, none⟩ = some (.slice (some ⟨g3, 0, none⟩) (cD.n + 1) cp3) := (unhide HM5).c0
    have c2 : W5.cell? ⟨c, o + 2, none⟩ = some (.slice xa cD.x xc) := (unhide HM5).c2
    have c3 : W5.cell? ⟨c, o + 3, none⟩ = some (.int .i64 cD.used) := (unhide HM5).c3
    have hPn := (hb5.cell (p := ⟨g3, cD.n * 11 + 10, none⟩) hll).trans hPn
    have hPf := (hb5.frozen (p := ⟨g3, cD.n * 11 + 10, none⟩) hll).trans hPf
    have hll := Nat.lt_of_lt_of_le hll hb5.size
    have hlt := Nat.lt_of_lt_of_le hlt hb5.size
    clear bl k0 k1 k2 k3 k4
    obtain ⟨bl, k0, k1, k2, k3, k4⟩ := (unhide HBK5).box
    clear hb5 HM4 HS4 HBK4 HBV4 hk2'
    by_cases hroom : (cD.x : Int) < 2 * (cD.used + 1)
    · have HRM : Hid (roomD hf cD = reindexD hf cD 1) := hide (if_pos hroom)
      have hdr : decide ((cD.x : Int) < 2 * (cD.used + 1)) = true := by simp [hroom]
      have hidx := (unhide HIc).core.idx_le
      have hm1 : idxN cD cD.n + 1 ≤ 500 := by omega
      have hz : DMut (W5.setCell ⟨g3, cD.n * 11 + 10, none⟩ (.int .i64 0)) c o B (.slice (some ⟨g3, 0, none⟩) (cD.n + 1) cp3) (.slice ia cD.m ic) (.slice xa cD.x xc) (addZ cD k v) := by
        have h := DMut.putL (d := addL cD k v) (unhide HM5) (i := cD.n) (by show cD.n < cD.n + 1; omega) 10 (by omega) (.int .i64 0) ⟨k, v, 0⟩ (by rw [addL_new]; rfl)
        refine h.of_same rfl (fun i _ => ?_) rfl (fun _ _ => rfl) rfl (fun _ _ => rfl) rfl rfl rfl
        show upd cD.L cD.n ⟨k, v, 0⟩ i = upd (upd cD.L cD.n ⟨k, v, cD.turns + 1⟩) cD.n ⟨k, v, 0⟩ i
        rw [upd_upd]
      have hsz := (unhide HS5).trans (stp_row (v1 := .slice ia cD.m ic) (v2 := .slice xa cD.x xc) (q := cD.n * 11 + 10) (.int .i64 0) (.inl rfl) hg3c)
      have hstz : Stp c o (.slice (some ⟨g3, 0, none⟩) (cD.n + 1) cp3) (.slice ia cD.m ic) (.slice xa cD.x xc) W5 (.slice (some ⟨g3, 0, none⟩) (cD.n + 1) cp3) (.slice ia cD.m ic) (.slice xa cD.x xc) (W5.setCell ⟨g3, cD.n * 11 + 10, none⟩ (.int .i64 0)) := stp_row (q := cD.n * 11 + 10) (.int .i64 0) (.inl rfl) hg3c
      have HZ := hide (hz.below (Below.refl _ _).drew)
      have HSZ := hide (hsz.trans (Stp.of_below (Below.refl _ _).drew (by simpa using hlt)))
      have HBZ := hide (((unhide HBK5).step hstz).step (Stp.of_below (o := o) (Below.refl _ _).drew (by simpa using hlt)))
      have hSZ : Small (addZ cD k v) := ⟨by show cD.n + 1 ≤ _; omega, by show cD.m ≤ _; omega, by show cD.x ≤ _; omega⟩
      have HSS := hide hSZ
      have HHZ : Hid (∀ i, i < (addZ cD k v).n → indexedK (addZ cD k v) i → HsS ((addZ cD k v).L i).key (hf ((addZ cD k v).L i).key)) := hide (fun i hi hx => by
        have hi : i < cD.n + 1 := hi
        by_cases e : i = cD.n
        · subst e; exact absurd hx addZ_last
        · have hi' : i < cD.n := by omega
          rw [addZ_old hi']
          exact unhide HH _ ((unhide HIc).keys i hi' (by have := ((addZ_indexed hi').1 hx).1; omega)))
      clear hz hsz hstz hSZ hroom HM5 HS5 HBK5 bl k0 k1 k2 k3 k4
      go_wp2_with fail
      go_region
      go_wp2_with fail
      refine (l1reindex_any hf c o B _ _ _ (addZ cD k v) 1 _ (unhide HZ) (unhide HSS) (by rw [addZ_idxN]; exact hm1) (unhide HHZ)).mono ?_
      rintro e w6 ⟨⟨u9, rfl⟩, t9, hM6, hs6⟩
      have HBK6 := hide ((unhide HBZ).step hs6)
      have HS6 := hide ((unhide HSZ).trans hs6)
      have hsame := reindexD_same' (hf := hf) (d := addZ cD k v) (more := 1) (by rw [addZ_idxN]; exact hm1)
      have hn6 : (reindexD hf (addZ cD k v) 1).n = cD.n + 1 := hsame.n
      have hM7 : DMut w6 c o B (.slice (some ⟨g3, 0, none⟩) (cD.n + 1) cp3) (.slice ia cD.m ic) t9 { addZ cD k v with x := (reindexD hf (addZ cD k v) 1).x, X := (reindexD hf (addZ cD k v) 1).X, used := (reindexD hf (addZ cD k v) 1).used } := hM6.of_same hsame.n.symm (fun i _ => by rw [hsame.L]) hsame.m.symm (fun i _ => by rw [hsame.I]) rfl (fun _ _ => rfl) rfl hsame.live.symm hsame.turns.symm
      obtain ⟨lb, lcp, elb, hBl, hll6, hlcp, hlpc, hlfz⟩ := hM7.log.form (by show 0 < cD.n + 1; omega)
      cases elb
      have hPn6 := (hlpc cD.n (by show cD.n < cD.n + 1; omega)).tn
      have hPf6 := hlfz (cD.n * 11 + 10)
      have hP6 : w6.cell? ⟨g3, cD.n * 11 + 10, none⟩ = some (.int .i64 0) := by
        have hL : (addZ cD k v).L cD.n = ⟨k, v, 0⟩ := upd_same _ _ _
        have h := hPn6
        rw [hL] at h
        exact h
      have hlt6 := hM7.lt
      have c06 : w6.cell? ⟨c, o, none⟩ = some (.slice (some ⟨g3, 0, none⟩) (cD.n + 1) cp3) := hM7.c0
      have c56 : w6.cell? ⟨c, o + 5, none⟩ = some (.int .i64 (cD.turns + 1)) := hM7.c5
      have h8 : DMut (w6.setCell ⟨g3, cD.n * 11 + 10, none⟩ (.int .i64 (cD.turns + 1))) c o B (.slice (some ⟨g3, 0, none⟩) (cD.n + 1) cp3) (.slice ia cD.m ic) t9 (addL (roomD hf cD) k v) := by
        have h := DMut.putL (d := { addZ cD k v with x := (reindexD hf (addZ cD k v) 1).x, X := (reindexD hf (addZ cD k v) 1).X, used := (reindexD hf (addZ cD k v) 1).used }) hM7 (i := cD.n) (by show cD.n < cD.n + 1; omega) 10 (by omega) (.int .i64 (cD.turns + 1)) ⟨k, v, cD.turns + 1⟩ (by show _ = (prL ((addZ cD k v).L cD.n)).set 10 _; rw [show (addZ cD k v).L cD.n = ⟨k, v, 0⟩ from upd_same _ _ _]; rfl)
        rw [unhide HRM, ← addZ_reindex hm1]
        refine h.of_same hsame.n (fun i _ => ?_) hsame.m (fun i _ => by rw [show ({ reindexD hf (addZ cD k v) 1 with L := upd cD.L cD.n ⟨k, v, cD.turns + 1⟩ } : Dc).I = (reindexD hf (addZ cD k v) 1).I from rfl, hsame.I]) rfl (fun _ _ => rfl) rfl hsame.live hsame.turns
        show upd cD.L cD.n ⟨k, v, cD.turns + 1⟩ i = upd (upd cD.L cD.n ⟨k, v, 0⟩) cD.n ⟨k, v, cD.turns + 1⟩ i
        rw [upd_upd]
      have hst8 : Stp c o (.slice (some ⟨g3, 0, none⟩) (cD.n + 1) cp3) (.slice ia cD.m ic) t9 w6 (.slice (some ⟨g3, 0, none⟩) (cD.n + 1) cp3) (.slice ia cD.m ic) t9 (w6.setCell ⟨g3, cD.n * 11 + 10, none⟩ (.int .i64 (cD.turns + 1))) := stp_row (q := cD.n * 11 + 10) (.int .i64 (cD.turns + 1)) (.inl rfl) hg3c
      have HM8 := hide (h8.below (Below.refl _ _).drew)
      have HS8 := hide (((unhide HS6).trans hst8).trans (Stp.of_below (Below.refl _ _).drew (by simpa using hlt6)))
      have HBK8 := hide (((unhide HBK6).step hst8).step (Stp.of_below (o := o) (Below.refl _ _).drew (by simpa using hlt6)))
      have hcl6 := (unhide HBK6).nc
      clear hM6 hs6 hM7 h8 hst8 hlpc hlfz hPn6 hsame HZ HSZ HBZ HBK6 HS6 HHZ HSS
      go_wp2_with fail
      go_region
      obtain ⟨W8, hW8⟩ : ∃ W8, W8 = (w6.setCell ⟨g3, cD.n * 11 + 10, none⟩ (.int .i64 (cD.turns + 1))).drew := ⟨_, rfl⟩
      rw [← hW8]
      rw [← hW8] at HM8 HS8 HBK8
      clear hW8
      obtain ⟨bl, k0, k1, k2, k3, k4⟩ := (unhide HBK8).box
      have hr1 := (unhide HROOM).1
      have hr2 := (unhide HROOM).2.1
      have hrs := hr1.sz
      have hru := hr1.used
      have hrx : 8 ≤ (roomD hf cD).x ∧ (roomD hf cD).x ≤ 4000 ∧ Pow2 (roomD hf cD).x := hrs.resolve_left (by omega)
      have hKh := unhide HH k (unhide HK).1
      have HCOND := hide (And.intro hrx (And.intro (show useN (roomD hf cD).X (roomD hf cD).x < (roomD hf cD).x by omega) (And.intro (show 0 ≤ (roomD hf cD).used ∧ (roomD hf cD).used ≤ 4000 by omega) hKh)))
      clear hr1 hr2 hrs hru hrx hKh
      go_wp2_with fail
      refine (l1enter_any hf c o B _ _ t9 (addL (roomD hf cD) k v) k cD.n _ (unhide HM8) (unhide HCOND).1 (unhide HCOND).2.1 (unhide HCOND).2.2.1 (by omega) (unhide HCOND).2.2.2).mono ?_
      rintro e w9 ⟨⟨⟨u8, rfl⟩, hd9⟩, hs9⟩
      have HD9 := hide hd9
      have HS9 := hide ((unhide HS8).trans hs9)
      clear hd9 hs9
      go_wp2
      go_end0
      exact ⟨⟨_, rfl⟩, _, _, _, by rw [unhide HCD, unhide HR]; exact unhide HD9, unhide HS9⟩
    · have HRM : Hid (roomD hf cD = cD) := hide (if_neg hroom)
      have hdr : decide ((cD.x : Int) < 2 * (cD.used + 1)) = false := by simp [hroom]
      have hr1 := (unhide HROOM).1
      have hr2 := (unhide HROOM).2.1
      rw [unhide HRM] at hr1 hr2
      have hrs := hr1.sz
      have hru := hr1.used
      have hrx : 8 ≤ cD.x ∧ cD.x ≤ 4000 ∧ Pow2 cD.x := hrs.resolve_left (by omega)
      have hKh := unhide HH k (unhide HK).1
      have HCOND := hide (And.intro hrx (And.intro (show useN cD.X cD.x < cD.x by omega) (And.intro (show 0 ≤ cD.used ∧ cD.used ≤ 4000 by omega) hKh)))
      have HM6 := hide ((unhide HM5).below (Below.refl _ _).drew)
      have HS6 := hide ((unhide HS5).trans (Stp.of_below (Below.refl _ _).drew hlt))
      clear hr1 hr2 hrs hru hrx hKh hroom HM5 HS5
      go_wp2_with fail
      go_region
      go_wp2_with fail
      refine (l1enter_any hf c o B _ _ (.slice xa cD.x xc) (addL cD k v) k cD.n _ (unhide HM6) (unhide HCOND).1 (unhide HCOND).2.1 (unhide HCOND).2.2.1 (by omega) (unhide HCOND).2.2.2).mono ?_
      rintro e w9 ⟨⟨⟨u8, rfl⟩, hd9⟩, hs9⟩
      have HD9 := hide hd9
      have HS9 := hide ((unhide HS6).trans hs9)
      clear hd9 hs9
      go_wp2
      go_end0
      exact ⟨⟨_, rfl⟩, _, _, _, by rw [unhide HCD, unhide HR, unhide HRM]; exact unhide HD9, unhide HS9⟩
  · have hk2' : (k.kind == 2) = true := by simp [hk2]
    have hnm' : (k.num == (cD.m : Int) + 1) = false := by simp [hnm]
    clear hk2 hnm HTEST
    go_wp2_with fail
    go_quiet (fail)
    clear hnm'
    obtain ⟨W5, hW5⟩ : ∃ W5, W5 = w4.drewN nq := ⟨_, rfl⟩
    rw [← hW5]
    have hb5 : Below w4.heap.size w4 W5 := by rw [hW5]; exact below_drewN' (Below.refl _ _) _
    clear hW5
    have HM5 := hide ((unhide HM4).below hb5)
    have HS5 := hide ((unhide HS4).trans (Stp.of_below hb5 hlt))
    have HBK5 := hide ((unhide HBK4).step (Stp.of_below (o := o) hb5 hlt))
    have c0 : W5.cell? ⟨c, o, none⟩ = some (.slice (some ⟨g3, 0, none⟩) (cD.n + 1) cp3) := (unhide HM5).c0
    have c2 : W5.cell? ⟨c, o + 2, none⟩ = some (.slice xa cD.x xc) := (unhide HM5).c2
    have c3 : W5.cell? ⟨c, o + 3, none⟩ = some (.int .i64 cD.used) := (unhide HM5).c3
    have hPn := (hb5.cell (p := ⟨g3, cD.n * 11 + 10, none⟩) hll).trans hPn
    have hPf := (hb5.frozen (p := ⟨g3, cD.n * 11 + 10, none⟩) hll).trans hPf
    have hll := Nat.lt_of_lt_of_le hll hb5.size
    have hlt := Nat.lt_of_lt_of_le hlt hb5.size
    clear bl k0 k1 k2 k3 k4
    obtain ⟨bl, k0, k1, k2, k3, k4⟩ := (unhide HBK5).box
    clear hb5 HM4 HS4 HBK4 HBV4 hk2'
    by_cases hroom : (cD.x : Int) < 2 * (cD.used + 1)
    · have HRM : Hid (roomD hf cD = reindexD hf cD 1) := hide (if_pos hroom)
      have hdr : decide ((cD.x : Int) < 2 * (cD.used + 1)) = true := by simp [hroom]
      have hidx := (unhide HIc).core.idx_le
      have hm1 : idxN cD cD.n + 1 ≤ 500 := by omega
      have hz : DMut (W5.setCell ⟨g3, cD.n * 11 + 10, none⟩ (.int .i64 0)) c o B (.slice (some ⟨g3, 0, none⟩) (cD.n + 1) cp3) (.slice ia cD.m ic) (.slice xa cD.x xc) (addZ cD k v) := by
        have h := DMut.putL (d := addL cD k v) (unhide HM5) (i := cD.n) (by show cD.n < cD.n + 1; omega) 10 (by omega) (.int .i64 0) ⟨k, v, 0⟩ (by rw [addL_new]; rfl)
        refine h.of_same rfl (fun i _ => ?_) rfl (fun _ _ => rfl) rfl (fun _ _ => rfl) rfl rfl rfl
        show upd cD.L cD.n ⟨k, v, 0⟩ i = upd (upd cD.L cD.n ⟨k, v, cD.turns + 1⟩) cD.n ⟨k, v, 0⟩ i
        rw [upd_upd]
      have hsz := (unhide HS5).trans (stp_row (v1 := .slice ia cD.m ic) (v2 := .slice xa cD.x xc) (q := cD.n * 11 + 10) (.int .i64 0) (.inl rfl) hg3c)
      have hstz : Stp c o (.slice (some ⟨g3, 0, none⟩) (cD.n + 1) cp3) (.slice ia cD.m ic) (.slice xa cD.x xc) W5 (.slice (some ⟨g3, 0, none⟩) (cD.n + 1) cp3) (.slice ia cD.m ic) (.slice xa cD.x xc) (W5.setCell ⟨g3, cD.n * 11 + 10, none⟩ (.int .i64 0)) := stp_row (q := cD.n * 11 + 10) (.int .i64 0) (.inl rfl) hg3c
      have HZ := hide (hz.below (Below.refl _ _).drew)
      have HSZ := hide (hsz.trans (Stp.of_below (Below.refl _ _).drew (by simpa using hlt)))
      have HBZ := hide (((unhide HBK5).step hstz).step (Stp.of_below (o := o) (Below.refl _ _).drew (by simpa using hlt)))
      have hSZ : Small (addZ cD k v) := ⟨by show cD.n + 1 ≤ _; omega, by show cD.m ≤ _; omega, by show cD.x ≤ _; omega⟩
      have HSS := hide hSZ
      have HHZ : Hid (∀ i, i < (addZ cD k v).n → indexedK (addZ cD k v) i → HsS ((addZ cD k v).L i).key (hf ((addZ cD k v).L i).key)) := hide (fun i hi hx => by
        have hi : i < cD.n + 1 := hi
        by_cases e : i = cD.n
        · subst e; exact absurd hx addZ_last
        · have hi' : i < cD.n := by omega
          rw [addZ_old hi']
          exact unhide HH _ ((unhide HIc).keys i hi' (by have := ((addZ_indexed hi').1 hx).1; omega)))
      clear hz hsz hstz hSZ hroom HM5 HS5 HBK5 bl k0 k1 k2 k3 k4
      go_wp2_with fail
      go_region
      go_wp2_with fail
      refine (l1reindex_any hf c o B _ _ _ (addZ cD k v) 1 _ (unhide HZ) (unhide HSS) (by rw [addZ_idxN]; exact hm1) (unhide HHZ)).mono ?_
      rintro e w6 ⟨⟨u9, rfl⟩, t9, hM6, hs6⟩
      have HBK6 := hide ((unhide HBZ).step hs6)
      have HS6 := hide ((unhide HSZ).trans hs6)
      have hsame := reindexD_same' (hf := hf) (d := addZ cD k v) (more := 1) (by rw [addZ_idxN]; exact hm1)
      have hn6 : (reindexD hf (addZ cD k v) 1).n = cD.n + 1 := hsame.n
      have hM7 : DMut w6 c o B (.slice (some ⟨g3, 0, none⟩) (cD.n + 1) cp3) (.slice ia cD.m ic) t9 { addZ cD k v with x := (reindexD hf (addZ cD k v) 1).x, X := (reindexD hf (addZ cD k v) 1).X, used := (reindexD hf (addZ cD k v) 1).used } := hM6.of_same hsame.n.symm (fun i _ => by rw [hsame.L]) hsame.m.symm (fun i _ => by rw [hsame.I]) rfl (fun _ _ => rfl) rfl hsame.live.symm hsame.turns.symm
      obtain ⟨lb, lcp, elb, hBl, hll6, hlcp, hlpc, hlfz⟩ := hM7.log.form (by show 0 < cD.n + 1; omega)
      cases elb
      have hPn6 := (hlpc cD.n (by show cD.n < cD.n + 1; omega)).tn
      have hPf6 := hlfz (cD.n * 11 + 10)
      have hP6 : w6.cell? ⟨g3, cD.n * 11 + 10, none⟩ = some (.int .i64 0) := by
        have hL : (addZ cD k v).L cD.n = ⟨k, v, 0⟩ := upd_same _ _ _
        have h := hPn6
        rw [hL] at h
        exact h
      have hlt6 := hM7.lt
      have c06 : w6.cell? ⟨c, o, none⟩ = some (.slice (some ⟨g3, 0, none⟩) (cD.n + 1) cp3) := hM7.c0
      have c56 : w6.cell? ⟨c, o + 5, none⟩ = some (.int .i64 (cD.turns + 1)) := hM7.c5
      have h8 : DMut (w6.setCell ⟨g3, cD.n * 11 + 10, none⟩ (.int .i64 (cD.turns + 1))) c o B (.slice (some ⟨g3, 0, none⟩) (cD.n + 1) cp3) (.slice ia cD.m ic) t9 (addL (roomD hf cD) k v) := by
        have h := DMut.putL (d := { addZ cD k v with x := (reindexD hf (addZ cD k v) 1).x, X := (reindexD hf (addZ cD k v) 1).X, used := (reindexD hf (addZ cD k v) 1).used }) hM7 (i := cD.n) (by show cD.n < cD.n + 1; omega) 10 (by omega) (.int .i64 (cD.turns + 1)) ⟨k, v, cD.turns + 1⟩ (by show _ = (prL ((addZ cD k v).L cD.n)).set 10 _; rw [show (addZ cD k v).L cD.n = ⟨k, v, 0⟩ from upd_same _ _ _]; rfl)
        rw [unhide HRM, ← addZ_reindex hm1]
        refine h.of_same hsame.n (fun i _ => ?_) hsame.m (fun i _ => by rw [show ({ reindexD hf (addZ cD k v) 1 with L := upd cD.L cD.n ⟨k, v, cD.turns + 1⟩ } : Dc).I = (reindexD hf (addZ cD k v) 1).I from rfl, hsame.I]) rfl (fun _ _ => rfl) rfl hsame.live hsame.turns
        show upd cD.L cD.n ⟨k, v, cD.turns + 1⟩ i = upd (upd cD.L cD.n ⟨k, v, 0⟩) cD.n ⟨k, v, cD.turns + 1⟩ i
        rw [upd_upd]
      have hst8 : Stp c o (.slice (some ⟨g3, 0, none⟩) (cD.n + 1) cp3) (.slice ia cD.m ic) t9 w6 (.slice (some ⟨g3, 0, none⟩) (cD.n + 1) cp3) (.slice ia cD.m ic) t9 (w6.setCell ⟨g3, cD.n * 11 + 10, none⟩ (.int .i64 (cD.turns + 1))) := stp_row (q := cD.n * 11 + 10) (.int .i64 (cD.turns + 1)) (.inl rfl) hg3c
      have HM8 := hide (h8.below (Below.refl _ _).drew)
      have HS8 := hide (((unhide HS6).trans hst8).trans (Stp.of_below (Below.refl _ _).drew (by simpa using hlt6)))
      have HBK8 := hide (((unhide HBK6).step hst8).step (Stp.of_below (o := o) (Below.refl _ _).drew (by simpa using hlt6)))
      have hcl6 := (unhide HBK6).nc
      clear hM6 hs6 hM7 h8 hst8 hlpc hlfz hPn6 hsame HZ HSZ HBZ HBK6 HS6 HHZ HSS
      go_wp2_with fail
      go_region
      obtain ⟨W8, hW8⟩ : ∃ W8, W8 = (w6.setCell ⟨g3, cD.n * 11 + 10, none⟩ (.int .i64 (cD.turns + 1))).drew := ⟨_, rfl⟩
      rw [← hW8]
      rw [← hW8] at HM8 HS8 HBK8
      clear hW8
      obtain ⟨bl, k0, k1, k2, k3, k4⟩ := (unhide HBK8).box
      have hr1 := (unhide HROOM).1
      have hr2 := (unhide HROOM).2.1
      have hrs := hr1.sz
      have hru := hr1.used
      have hrx : 8 ≤ (roomD hf cD).x ∧ (roomD hf cD).x ≤ 4000 ∧ Pow2 (roomD hf cD).x := hrs.resolve_left (by omega)
      have hKh := unhide HH k (unhide HK).1
      have HCOND := hide (And.intro hrx (And.intro (show useN (roomD hf cD).X (roomD hf cD).x < (roomD hf cD).x by omega) (And.intro (show 0 ≤ (roomD hf cD).used ∧ (roomD hf cD).used ≤ 4000 by omega) hKh)))
      clear hr1 hr2 hrs hru hrx hKh
      go_wp2_with fail
      refine (l1enter_any hf c o B _ _ t9 (addL (roomD hf cD) k v) k cD.n _ (unhide HM8) (unhide HCOND).1 (unhide HCOND).2.1 (unhide HCOND).2.2.1 (by omega) (unhide HCOND).2.2.2).mono ?_
      rintro e w9 ⟨⟨⟨u8, rfl⟩, hd9⟩, hs9⟩
      have HD9 := hide hd9
      have HS9 := hide ((unhide HS8).trans hs9)
      clear hd9 hs9
      go_wp2
      go_end0
      exact ⟨⟨_, rfl⟩, _, _, _, by rw [unhide HCD, unhide HR]; exact unhide HD9, unhide HS9⟩
    · have HRM : Hid (roomD hf cD = cD) := hide (if_neg hroom)
      have hdr : decide ((cD.x : Int) < 2 * (cD.used + 1)) = false := by simp [hroom]
      have hr1 := (unhide HROOM).1
      have hr2 := (unhide HROOM).2.1
      rw [unhide HRM] at hr1 hr2
      have hrs := hr1.sz
      have hru := hr1.used
      have hrx : 8 ≤ cD.x ∧ cD.x ≤ 4000 ∧ Pow2 cD.x := hrs.resolve_left (by omega)
      have hKh := unhide HH k (unhide HK).1
      have HCOND := hide (And.intro hrx (And.intro (show useN cD.X cD.x < cD.x by omega) (And.intro (show 0 ≤ cD.used ∧ cD.used ≤ 4000 by omega) hKh)))
      have HM6 := hide ((unhide HM5).below (Below.refl _ _).drew)
      have HS6 := hide ((unhide HS5).trans (Stp.of_below (Below.refl _ _).drew hlt))
      clear hr1 hr2 hrs hru hrx hKh hroom HM5 HS5
      go_wp2_with fail
      go_region
      go_wp2_with fail
      refine (l1enter_any hf c o B _ _ (.slice xa cD.x xc) (addL cD k v) k cD.n _ (unhide HM6) (unhide HCOND).1 (unhide HCOND).2.1 (unhide HCOND).2.2.1 (by omega) (unhide HCOND).2.2.2).mono ?_
      rintro e w9 ⟨⟨⟨u8, rfl⟩, hd9⟩, hs9⟩
      have HD9 := hide hd9
      have HS9 := hide ((unhide HS6).trans hs9)
      clear hd9 hs9
      go_wp2
      go_end0
      exact ⟨⟨_, rfl⟩, _, _, _, by rw [unhide HCD, unhide HR, unhide HRM]; exact unhide HD9, unhide HS9⟩
end Go.Proofs.YtglcaejddckleaaGreatDoor
namespace Go.Proofs.YtglcaejddckleaaGreatDoor
open Go.RowKit
set_option linter.unusedVariables false

/-- A list written over, from a place on. -/
def setL : List Value → Nat → List Value → List Value
  | xs, _, [] => xs
  | xs, q, u :: us => setL (xs.set q u) (q + 1) us
def setW (g : Nat) : World → Nat → List Value → World
  | w, _, [] => w
  | w, q, u :: us => setW g (w.setCell ⟨g, q, none⟩ u) (q + 1) us
theorem setL_get : ∀ (us xs : List Value) (q j : Nat), q + us.length ≤ xs.length → (setL xs q us)[j]? = if q ≤ j ∧ j < q + us.length then us[j - q]? else xs[j]? := by
  intro us
  induction us with
  | nil => intro xs q j _; rw [if_neg (by simp)]; rfl
  | cons u us ih =>
    intro xs q j h
    simp only [List.length_cons] at h ⊢
    show (setL (xs.set q u) (q + 1) us)[j]? = _
    rw [ih _ _ _ (by simp; omega), List.getElem?_set]
    by_cases e : j = q
    · subst e
      rw [if_neg (by omega), if_pos rfl, if_pos (by omega), if_pos (by omega), Nat.sub_self]
      rfl
    · by_cases e2 : q + 1 ≤ j ∧ j < q + 1 + us.length
      · rw [if_pos e2, if_pos (by omega)]
        obtain ⟨i, hi⟩ : ∃ i, j - q = i + 1 := ⟨j - q - 1, by omega⟩
        rw [hi, show j - (q + 1) = i by omega]
        rfl
      · rw [if_neg e2, if_neg (fun e' => e e'.symm), if_neg (by omega)]
theorem own_setW {B e size g n cap : Nat} : ∀ (us : List Value) (w : World) (q : Nat) (xs : List Value), w.ownsRow B e size (.slice (some ⟨g, 0, none⟩) n cap) n xs → (setW g w q us).ownsRow B e size (.slice (some ⟨g, 0, none⟩) n cap) n (setL xs q us) := by
  intro us
  induction us with
  | nil => intro w q xs h; exact h
  | cons u us ih => intro w q xs h; exact ih _ _ _ (World.ownsRow.stored h q u).1
theorem setW_other {g : Nat} : ∀ (us : List Value) (w : World) (q b : Nat), b ≠ g → (setW g w q us).heap[b]? = w.heap[b]? := by
  intro us
  induction us with
  | nil => intro w q b _; rfl
  | cons u us ih => intro w q b hb; exact (ih _ _ _ hb).trans (Deep.blk_setCell_other _ _ _ _ (by exact hb))
theorem setW_size {g : Nat} : ∀ (us : List Value) (w : World) (q : Nat), (setW g w q us).heap.size = w.heap.size ∧ (setW g w q us).os = w.os ∧ (setW g w q us).tape = w.tape ∧ (setW g w q us).output = w.output := by
  intro us
  induction us with
  | nil => intro w q; exact ⟨rfl, rfl, rfl, rfl⟩
  | cons u us ih => intro w q; obtain ⟨h1, h2, h3, h4⟩ := ih (w.setCell ⟨g, q, none⟩ u) (q + 1); exact ⟨h1.trans (by simp), h2, h3, h4⟩
theorem pL_setL (f : Nat → Pr) (n i a : Nat) (us : List Value) (p : Pr) (hi : i < n) (ha : a + us.length ≤ 11) (hp : ∀ j, (prL p)[j]? = if a ≤ j ∧ j < a + us.length then us[j - a]? else (prL (f i))[j]?) : setL (pL f n) (i * 11 + a) us = pL (upd f i p) n := by
  apply List.ext_getElem?
  intro q
  rw [setL_get _ _ _ _ (by rw [pL_length]; omega)]
  by_cases hq : q < n * 11
  · have e1 : q = q / 11 * 11 + q % 11 := by omega
    have h1 : q / 11 < n := by omega
    have h2 : q % 11 < 11 := Nat.mod_lt _ (by omega)
    have g1 : (pL f n)[q]? = (prL (f (q / 11)))[q % 11]? := by have := pL_get (f := f) h1 h2; rwa [← e1] at this
    have g2 : (pL (upd f i p) n)[q]? = (prL (upd f i p (q / 11)))[q % 11]? := by have := pL_get (f := upd f i p) h1 h2; rwa [← e1] at this
    rw [g2]
    by_cases e : q / 11 = i
    · rw [e, upd_same, hp (q % 11)]
      by_cases e2 : a ≤ q % 11 ∧ q % 11 < a + us.length
      · rw [if_pos (by omega), if_pos e2, show q - (i * 11 + a) = q % 11 - a by omega]
      · rw [if_neg (by omega), if_neg e2, g1, e]
    · rw [upd_other _ _ e, if_neg (by omega), g1]
  · rw [if_neg (by omega), List.getElem?_eq_none (by rw [pL_length]; omega), List.getElem?_eq_none (by rw [pL_length]; omega)]
end Go.Proofs.YtglcaejddckleaaGreatDoor
namespace Go.Proofs.YtglcaejddckleaaGreatDoor
open Go.RowKit
set_option linter.unusedVariables false

/-- Cells of a pair written one after the other. -/
theorem DMut.putLs {w : World} {c o B g cp : Nat} {v1 v2 : Value} {d : Dc} (h : DMut w c o B (.slice (some ⟨g, 0, none⟩) d.n cp) v1 v2 d) {i : Nat} (hi : i < d.n) (a : Nat) (us : List Value) (p : Pr) (ha : a + us.length ≤ 11) (hp : ∀ j, (prL p)[j]? = if a ≤ j ∧ j < a + us.length then us[j - a]? else (prL (d.L i))[j]?) :
    DMut (setW g w (i * 11 + a) us) c o B (.slice (some ⟨g, 0, none⟩) d.n cp) v1 v2 { d with L := upd d.L i p } ∧ Stp c o (.slice (some ⟨g, 0, none⟩) d.n cp) v1 v2 w (.slice (some ⟨g, 0, none⟩) d.n cp) v1 v2 (setW g w (i * 11 + a) us) := by
  obtain ⟨s1, s2, s3, s4⟩ := setW_size (g := g) us w (i * 11 + a)
  have hc : c ≠ g := fun e => h.nc (.inl (by rw [e]; rfl))
  have eb := setW_other (g := g) us w (i * 11 + a)
  have ec : ∀ q, (setW g w (i * 11 + a) us).cell? ⟨c, q, none⟩ = w.cell? ⟨c, q, none⟩ := fun q => World.cell?_of_block (eb c hc)
  have hl := own_setW (g := g) us w (i * 11 + a) _ h.log
  rw [pL_setL d.L d.n i a us p hi ha hp] at hl
  have hg : w.grownBy (setW g w (i * 11 + a) us) (some g) := ⟨s2, s3, s4, Nat.le_of_eq s1.symm, fun b _ hb => eb b (fun e => hb (by rw [e]))⟩
  have ki := kept_ne h.ints hg (fun b e => by cases e; exact own_apart h.log h.ints rfl)
  have kx := kept_ne h.index hg (fun b e => by cases e; exact own_apart h.log h.index rfl)
  exact ⟨⟨by rw [s1]; exact h.lt, (ec _).trans h.c0, (ec _).trans h.c1, (ec _).trans h.c2, (ec _).trans h.c3, (ec _).trans h.c4, (ec _).trans h.c5, fun q => (World.frozen?_of_block (eb c hc)).trans (h.fz q), hl, ki, kx, h.ap, h.nc, by rw [s1]; exact h.base⟩, ⟨s2, s3, s4, Nat.le_of_eq s1.symm, fun b _ _ ho => eb b (fun e => ho (.inl (by rw [e]; rfl))), fun q _ => ec q, fun b e => .inl e⟩⟩
/-- A pair dies. -/
theorem DMut.kill {w : World} {c o B g cp : Nat} {v1 v2 : Value} {d : Dc} (h : DMut w c o B (.slice (some ⟨g, 0, none⟩) d.n cp) v1 v2 d) {i : Nat} (hi : i < d.n) :
    DMut (setW g w (i * 11 + 0) (prL default)) c o B (.slice (some ⟨g, 0, none⟩) d.n cp) v1 v2 { d with L := upd d.L i default } ∧ Stp c o (.slice (some ⟨g, 0, none⟩) d.n cp) v1 v2 w (.slice (some ⟨g, 0, none⟩) d.n cp) v1 v2 (setW g w (i * 11 + 0) (prL default)) :=
  h.putLs hi 0 (prL default) default (by simp [prL]) (fun j => by
    by_cases e : j < 11
    · rw [if_pos (by simp [prL]; omega), Nat.sub_zero]
    · rw [List.getElem?_eq_none (by simp [prL]; omega), if_neg (by simp [prL]; omega), List.getElem?_eq_none (by simp [prL]; omega)])
/-- The five cells of a value. -/
abbrev vL (v : Vl) : List Value := [.int .i64 v.kind, .int .i64 v.num, .float .f64 v.flt, .string v.str, .int .i64 v.ref]
/-- A pair's value is written. -/
theorem DMut.putV {w : World} {c o B g cp : Nat} {v1 v2 : Value} {d : Dc} (h : DMut w c o B (.slice (some ⟨g, 0, none⟩) d.n cp) v1 v2 d) {i : Nat} (hi : i < d.n) (v : Vl) :
    DMut (setW g w (i * 11 + 5) (vL v)) c o B (.slice (some ⟨g, 0, none⟩) d.n cp) v1 v2 (setV d i v) ∧ Stp c o (.slice (some ⟨g, 0, none⟩) d.n cp) v1 v2 w (.slice (some ⟨g, 0, none⟩) d.n cp) v1 v2 (setW g w (i * 11 + 5) (vL v)) :=
  h.putLs hi 5 (vL v) ⟨(d.L i).key, v, (d.L i).turn⟩ (by simp) (fun j => by
    match j with
    | 0 | 1 | 2 | 3 | 4 | 5 | 6 | 7 | 8 | 9 | 10 => rfl
    | n + 11 => rw [if_neg (by simp), List.getElem?_eq_none (by simp [prL]), List.getElem?_eq_none (by simp [prL])])
end Go.Proofs.YtglcaejddckleaaGreatDoor
namespace Go.Proofs.YtglcaejddckleaaGreatDoor
open Go.RowKit
set_option linter.unusedVariables false
attribute [local go_sem] run_store_float run_equalIn_float

set_option maxRecDepth 100000 in
set_option maxHeartbeats 8000000 in
theorem l1go_any (hf : Vl → Nat) (K : Vl → Prop) (KL : KeyLaw K hf) (c o B : Nat) (v0 v1 v2 : Value) (d : Dc) (p : Nat) (w : World) (hM : DMut w c o B v0 v1 v2 d) (hS : Small d) (hI : Inv0 K hf d) (hN : Next d) (hh : ∀ v, K v → HsS v (hf v)) (hp : p < d.n) (hpt : (d.L p).turn ≠ 0) :
    Calls Tryz.prog 104 #[Pc c o, .int .i64 (p : Int)] w fun e w' => ((∃ u, e = .returned u) ∧ ∃ u0 u1 u2, DMut w' c o B u0 u1 u2 (goD hf d p) ∧ Stp c o v0 v1 v2 w u0 u1 u2 w') := by
  obtain ⟨g, cp, rfl, hBg, hgl, hcp, hpc, hfz⟩ := hM.log.form (by omega)
  obtain ⟨p0, p1, p2, p3, p4, _, _, _, _, _, _⟩ := hpc p hp
  have hn := hS.n
  have hm := hS.m
  have hlv5 := hI.le
  have hlv0 : 0 ≤ d.live := by have := hI.log.cnt; omega
  have hgc : g ≠ c := fun e => hM.nc (.inl (by rw [← e]; rfl))
  obtain ⟨k, hk⟩ : ∃ k, k = (d.L p).key := ⟨_, rfl⟩
  rw [← hk] at p0 p1 p2 p3 p4
  have hK : K k := by rw [hk]; exact hI.keys p hp hpt
  obtain ⟨W, hW⟩ : ∃ W, W = w.alloc (.cells #[.int .i64 k.kind, .int .i64 k.num, .float .f64 k.flt, .string k.str, .int .i64 k.ref] 30) := ⟨_, rfl⟩
  have hBW : Below w.heap.size w W := by rw [hW]; exact (Below.refl _ _).alloc (Nat.le_refl _) _
  have bk : BoxD W c (.slice (some ⟨g, 0, none⟩) d.n cp) v1 v2 w.heap.size k := ⟨⟨by rw [hW]; simp, by rw [hW]; simp [go_sem], by rw [hW]; simp [go_sem], by rw [hW]; simp [go_sem], by rw [hW]; simp [go_sem], by rw [hW]; simp [go_sem]⟩, fun e => by have := hM.lt; omega, fun e => by have := (hM.own3 e).2; omega⟩
  have c0 := hM.c0
  have hlt := hM.lt
  have HMW := hide (hM.below hBW)
  have HSW : Hid (Stp c o (.slice (some ⟨g, 0, none⟩) d.n cp) v1 v2 w (.slice (some ⟨g, 0, none⟩) d.n cp) v1 v2 W) := hide (Stp.of_below hBW hM.lt)
  have HBK := hide bk
  have HS := hide hS
  have HI := hide hI
  have HN := hide hN
  have HH := hide hh
  have HKL := hide KL
  have HK := hide hK
  have HPT := hide hpt
  obtain ⟨ia, ic, e1, hIA⟩ := (unhide HMW).ints.at
  obtain ⟨xa, xc, e2, hXA⟩ := (unhide HMW).index.at
  have HF1 : Hid (0 < d.m → ∃ g cp, v1 = .slice (some ⟨g, 0, none⟩) d.m cp) := hide (fun h => by obtain ⟨g, cp, h, _⟩ := (unhide HMW).ints.form h; exact ⟨g, cp, h⟩)
  have HF2 : Hid (0 < d.x → ∃ g cp, v2 = .slice (some ⟨g, 0, none⟩) d.x cp) := hide (fun h => by obtain ⟨g, cp, h, _⟩ := (unhide HMW).index.form h; exact ⟨g, cp, h⟩)
  have HPW : Hid (DPtr W c o (some ⟨g, 0, none⟩) cp ia ic xa xc d) := hide ⟨(unhide HMW).lt, (unhide HMW).c0, by rw [(unhide HMW).c1, e1], by rw [(unhide HMW).c2, e2], (unhide HMW).c3, (unhide HMW).c4, (unhide HMW).c5, by obtain ⟨a, cp, e, h⟩ := (unhide HMW).log.at; cases e; exact h, hIA, hXA⟩
  subst e1 e2
  have HKK := hide hk
  clear hM hBW bk hS hI hN hh KL hK hpt hIA hXA hpc hfz hk
  go_enter Tryz.func104, Tryz.ntmps104
  go_wp2_with fail
  rw [← hW]
  clear hW p0 p1 p2 p3 p4 c0 hlt
  obtain ⟨bl, k0, k1, k2, k3, k4⟩ := (unhide HBK).box
  refine (l1small_any c o (some ⟨g, 0, none⟩) cp ia ic xa xc d k _ (unhide HPW) (unhide HS)).mono ?_
  rintro e w1 ⟨rfl, hb1⟩
  have hstp1 : Stp c o (.slice (some ⟨g, 0, none⟩) d.n cp) (.slice ia d.m ic) (.slice xa d.x xc) W (.slice (some ⟨g, 0, none⟩) d.n cp) (.slice ia d.m ic) (.slice xa d.x xc) w1 := Stp.of_below hb1 (unhide HMW).lt
  have HM1 := hide ((unhide HMW).below hb1)
  have HS1 := hide ((unhide HSW).trans hstp1)
  have HBK1 := hide ((unhide HBK).step hstp1)
  have HP1 := hide ((unhide HPW).below hb1)
  clear hb1 hstp1 HMW HSW HBK HPW bl k0 k1 k2 k3 k4
  obtain ⟨bl, k0, k1, k2, k3, k4⟩ := (unhide HBK1).box
  have hlt := (unhide HM1).lt
  have c1 := (unhide HM1).c1
  have c2 := (unhide HM1).c2
  by_cases hs : smallK d.m k
  · rw [tells_yes hs]
    have HR : Hid (goC hf d p = goSmall d p) := hide (goC_small (by rw [← unhide HKK]; exact hs))
    obtain ⟨s1, s2, s3⟩ := hs
    obtain ⟨q, hq⟩ : ∃ q : Nat, k.num = (q : Int) + 1 := ⟨(k.num - 1).toNat, by omega⟩
    have hqm : q < d.m := by omega
    have hqq : ((d.L p).key.num - 1).toNat = q := by rw [← unhide HKK, hq]; omega
    obtain ⟨gi, cpi, eg⟩ := unhide HF1 (by omega)
    cases eg
    obtain ⟨g', cp', eg', hBi, hil, hcpi, hcs, hfz⟩ := (unhide HM1).ints.form (by omega)
    cases eg'
    have e0 := hcs q hqm
    have f0 := hfz q
    have hic : gi ≠ c := fun e => (unhide HM1).nc (.inr (.inl (by rw [← e]; rfl)))
    have hwq : IntKind.i64.wrap (q : Int) = q := by rw [IntKind.wrap_i64]; omega
    have hd2 := (unhide HM1).putI hqm 0
    have hst2 : Stp c o (.slice (some ⟨g, 0, none⟩) d.n cp) (.slice (some ⟨gi, 0, none⟩) d.m ic) (.slice xa d.x xc) w1 (.slice (some ⟨g, 0, none⟩) d.n cp) (.slice (some ⟨gi, 0, none⟩) d.m ic) (.slice xa d.x xc) (w1.setCell ⟨gi, q, none⟩ (.int .i64 0)) := stp_row (q := q) (.int .i64 0) (.inr (.inl rfl)) hic
    obtain ⟨W2, hW2⟩ : ∃ W2, W2 = (w1.setCell ⟨gi, q, none⟩ (.int .i64 0)).drew := ⟨_, rfl⟩
    have hM2 : DMut W2 c o B (.slice (some ⟨g, 0, none⟩) d.n cp) (.slice (some ⟨gi, 0, none⟩) d.m ic) (.slice xa d.x xc) { d with I := upd d.I q 0 } := by rw [hW2]; exact hd2.below (Below.refl _ _).drew
    have hs2 := (unhide HS1).trans (hst2.trans (Stp.of_below (Below.refl _ _).drew (by simpa using hlt)))
    rw [← hW2] at hs2
    have HM2 := hide hM2
    have HS2 := hide hs2
    rw [hq] at k1
    clear hd2 hst2 hM2 hs2 hcs hfz hq s1 s2 s3 HF1 HF2 HP1 HM1 HS1
    go_wp2_with fail
    go_region
    rw [← hW2]
    clear hW2 e0 f0 c1 c2 hlt bl k0 k1 k2 k3 k4
    have c1 := (unhide HM2).c1
    have hlt := (unhide HM2).lt
    obtain ⟨g', cp', eg', hBi, hil, hcpi, hcs, hfz⟩ := (unhide HM2).ints.form (by show 0 < d.m; omega)
    cases eg'
    have hcs : ∀ i, i < d.m → W2.cell? ⟨gi, i, none⟩ = some (.int .i64 (upd d.I q 0 i)) := hcs
    have HCS := hide hcs
    clear hcs hfz
    go_wp2_with fail
    go_loopw [5] (fun a wr => ∃ j : Nat, a = .int .i64 (j : Int) ∧ j ≤ d.m ∧ shrink (upd d.I q 0) d.m = shrink (upd d.I q 0) j ∧ wr = W2) (fun a _ => (intOf a).toNat)
    case atStart => exact ⟨d.m, rfl, Nat.le_refl _, rfl, rfl⟩
    case round =>
      obtain ⟨j, rfl, hj, hsh, rfl⟩ := hrel
      by_cases hgo : ∃ i, j = i + 1 ∧ upd d.I q 0 i = 0
      · obtain ⟨i, rfl, hz⟩ := hgo
        have e0 := unhide HCS i (by omega)
        rw [hz] at e0
        have HSH := hide (hsh.trans (shrink_zero hz))
        have hpos : decide ((0 : Int) < ((i + 1 : Nat) : Int)) = true := by simp
        clear hz hsh
        go_wp2
        go_roundw
        case rel => exact ⟨i, by go_num, by omega, unhide HSH, by first | rfl | trivial⟩
        case measure => simp [intOf]
      · have HSH : Hid (shrink (upd d.I q 0) d.m = j) := hide (by
          rw [hsh]
          cases j with
          | zero => rfl
          | succ i => exact shrink_stop (fun e => hgo ⟨i, rfl, e⟩))
        have HTT : Hid (∀ (Q : Prop), (j = 0 → Q) → (∀ i, j = i + 1 → upd d.I q 0 i ≠ 0 → Q) → Q) := hide (fun Q h1 h2 => by
          cases j with
          | zero => exact h1 rfl
          | succ i => exact h2 i rfl (fun e => hgo ⟨i, rfl, e⟩))
        clear hsh hgo
        have hd3 := DMut.setInts (unhide HM2) (u := .slice (some ⟨gi, 0, none⟩) j ic) (IOwn.cut (unhide HM2).ints (n := j) hj) (fun e => hic (ownB e)) (fun q' e e' => (unhide HM2).ap q' (by rw [← ownB e]; rfl) e')
        have hs3 := (unhide HS2).trans (stp_field (c := c) (o := o) (v0 := .slice (some ⟨g, 0, none⟩) d.n cp) (v1 := .slice (some ⟨gi, 0, none⟩) d.m ic) (v2 := .slice xa d.x xc) (u0 := .slice (some ⟨g, 0, none⟩) d.n cp) (u1 := .slice (some ⟨gi, 0, none⟩) j ic) (u2 := .slice xa d.x xc) (w := wr) (q := o + 1) (.slice (some ⟨gi, 0, none⟩) j ic) (by omega) (fun b e => .inl (e.elim .inl (fun e => e.elim (fun e => .inr (.inl (by rw [← ownB e]; rfl))) (fun e => .inr (.inr e))))))
        have HMt := hide hd3
        have HSt := hide hs3
        have HRt : Hid (goC hf d p = { d with I := upd d.I q 0, m := j, L := upd d.L p default, live := d.live - 1 }) := hide (by
          rw [unhide HR]
          unfold goSmall
          rw [hqq, unhide HSH]
          rfl)
        have HMM : Hid ((goC hf d p).m ≤ d.m) := hide (by rw [unhide HRt]; exact hj)
        have f1w := (unhide HM2).fz (o + 1)
        clear hd3 hs3
        refine unhide HTT _ (fun hj0 => ?_) (fun i hji hz => ?_)
        · clear HTT HSH HCS
          subst hj0
          obtain ⟨g', cp', eg', hBg', hgl', hcp', hpc, hpf⟩ := (unhide HMt).log.form (by show 0 < d.n; omega)
          cases eg'
          obtain ⟨y0, y1, y2, y3, y4, y5, y6, y7, y8, y9, y10⟩ := hpc p hp
          have z0 := hpf (p * 11)
          have z1 := hpf (p * 11 + 1)
          have z2 := hpf (p * 11 + 2)
          have z3 := hpf (p * 11 + 3)
          have z4 := hpf (p * 11 + 4)
          have z5 := hpf (p * 11 + 5)
          have z6 := hpf (p * 11 + 6)
          have z7 := hpf (p * 11 + 7)
          have z8 := hpf (p * 11 + 8)
          have z9 := hpf (p * 11 + 9)
          have z10 := hpf (p * 11 + 10)
          have c0 : (wr.setCell ⟨c, o + 1, none⟩ (.slice (some ⟨gi, 0, none⟩) 0 ic)).cell? ⟨c, o, none⟩ = some (.slice (some ⟨g, 0, none⟩) d.n cp) := (unhide HMt).c0
          have c4 : (wr.setCell ⟨c, o + 1, none⟩ (.slice (some ⟨gi, 0, none⟩) 0 ic)).cell? ⟨c, o + 4, none⟩ = some (.int .i64 d.live) := (unhide HMt).c4
          have f4 := (unhide HMt).fz (o + 4)
          have hlt := (unhide HMt).lt
          obtain ⟨hk1, hk2⟩ := DMut.kill (d := { d with I := upd d.I q 0, m := 0 }) (unhide HMt) (i := p) hp
          have hk3 := DMut.setLive hk1 (d.live - 1)
          have hk4 := ((unhide HSt).trans hk2).trans (stp_field (c := c) (o := o) (v0 := .slice (some ⟨g, 0, none⟩) d.n cp) (q := o + 4) (.int .i64 (d.live - 1)) (by omega) (fun b e => .inl e))
          have hk3' : DMut ((setW g (wr.setCell ⟨c, o + 1, none⟩ (.slice (some ⟨gi, 0, none⟩) 0 ic)) (p * 11 + 0) (prL default)).setCell ⟨c, o + 4, none⟩ (.int .i64 (d.live - 1))) c o B (.slice (some ⟨g, 0, none⟩) d.n cp) (.slice (some ⟨gi, 0, none⟩) 0 ic) (.slice xa d.x xc) (goC hf d p) := by rw [unhide HRt]; exact hk3
          obtain ⟨W9, hW9⟩ : ∃ W9, W9 = ((((((((((((wr.setCell ⟨c, o + 1, none⟩ (.slice (some ⟨gi, 0, none⟩) 0 ic)).setCell ⟨g, p * 11, none⟩ (.int .i64 0)).setCell ⟨g, p * 11 + 1, none⟩ (.int .i64 0)).setCell ⟨g, p * 11 + 2, none⟩ (.float .f64 0)).setCell ⟨g, p * 11 + 3, none⟩ (.string ⟨#[]⟩)).setCell ⟨g, p * 11 + 4, none⟩ (.int .i64 0)).setCell ⟨g, p * 11 + 5, none⟩ (.int .i64 0)).setCell ⟨g, p * 11 + 6, none⟩ (.int .i64 0)).setCell ⟨g, p * 11 + 7, none⟩ (.float .f64 0)).setCell ⟨g, p * 11 + 8, none⟩ (.string ⟨#[]⟩)).setCell ⟨g, p * 11 + 9, none⟩ (.int .i64 0)).setCell ⟨g, p * 11 + 10, none⟩ (.int .i64 0)).setCell ⟨c, o + 4, none⟩ (.int .i64 (d.live - 1)) := ⟨_, rfl⟩
          have HM9 : Hid (DMut W9 c o B (.slice (some ⟨g, 0, none⟩) d.n cp) (.slice (some ⟨gi, 0, none⟩) 0 ic) (.slice xa d.x xc) (goC hf d p)) := hide (by rw [hW9]; exact hk3')
          have HS9 : Hid (Stp c o (.slice (some ⟨g, 0, none⟩) d.n cp) (.slice (some ⟨gi, 0, none⟩) d.m ic) (.slice xa d.x xc) w (.slice (some ⟨g, 0, none⟩) d.n cp) (.slice (some ⟨gi, 0, none⟩) 0 ic) (.slice xa d.x xc) W9) := hide (by rw [hW9]; exact hk4)
          have hcore := (goC_inv (unhide HKL) (unhide HI) (unhide HN) hp (unhide HPT)).1
          have HCO := hide hcore.core
          have hx9 := hcore.sz
          have hn9 := (goC_inv (unhide HKL) (unhide HI) (unhide HN) hp (unhide HPT)).2.2.1
          have hm9 : (goC hf d p).m ≤ d.m := unhide HMM
          have HSM : Hid (Small (goC hf d p)) := hide ⟨by rw [hn9]; exact hn, by omega, by unfold SizeX at hx9; omega⟩
          clear hpc hpf hk1 hk2 hk3 hk3' hk4 hcore hx9 hn9 hm9 HRt HSt
          go_wp2_with fail
          rw [← hW9]
          clear hW9 y0 y1 y2 y3 y4 y5 y6 y7 y8 y9 y10 z0 z1 z2 z3 z4 z5 z6 z7 z8 z9 z10 c0 c4 f4
          refine (l1compact_any hf K c o B _ _ _ (goC hf d p) _ (unhide HM9) (unhide HSM) (unhide HCO) (unhide HH)).mono ?_
          rintro e w10 ⟨⟨u, rfl⟩, t0, t2, hM10, hs10⟩
          have HM10 := hide hM10
          have HS10 := hide ((unhide HS9).trans hs10)
          clear hM10 hs10
          go_wp2
          go_end0
          exact ⟨⟨_, rfl⟩, _, _, _, unhide HM10, unhide HS10⟩
        · have e0 := unhide HCS i (by omega)
          have hz' : (upd d.I q 0 i == 0) = false := by simp [hz]
          have hposn : decide ((0 : Int) < (j : Int)) = true := by simp; omega
          have hwi : IntKind.i64.wrap ((j : Int) - 1) = (i : Int) := by rw [IntKind.wrap_i64]; omega
          have hji' : (j : Int) - 1 = (i : Int) := by omega
          clear HTT HSH HCS hji hz
          obtain ⟨g', cp', eg', hBg', hgl', hcp', hpc, hpf⟩ := (unhide HMt).log.form (by show 0 < d.n; omega)
          cases eg'
          obtain ⟨y0, y1, y2, y3, y4, y5, y6, y7, y8, y9, y10⟩ := hpc p hp
          have z0 := hpf (p * 11)
          have z1 := hpf (p * 11 + 1)
          have z2 := hpf (p * 11 + 2)
          have z3 := hpf (p * 11 + 3)
          have z4 := hpf (p * 11 + 4)
          have z5 := hpf (p * 11 + 5)
          have z6 := hpf (p * 11 + 6)
          have z7 := hpf (p * 11 + 7)
          have z8 := hpf (p * 11 + 8)
          have z9 := hpf (p * 11 + 9)
          have z10 := hpf (p * 11 + 10)
          have c0 : (wr.setCell ⟨c, o + 1, none⟩ (.slice (some ⟨gi, 0, none⟩) j ic)).cell? ⟨c, o, none⟩ = some (.slice (some ⟨g, 0, none⟩) d.n cp) := (unhide HMt).c0
          have c4 : (wr.setCell ⟨c, o + 1, none⟩ (.slice (some ⟨gi, 0, none⟩) j ic)).cell? ⟨c, o + 4, none⟩ = some (.int .i64 d.live) := (unhide HMt).c4
          have f4 := (unhide HMt).fz (o + 4)
          have hlt := (unhide HMt).lt
          obtain ⟨hk1, hk2⟩ := DMut.kill (d := { d with I := upd d.I q 0, m := j }) (unhide HMt) (i := p) hp
          have hk3 := DMut.setLive hk1 (d.live - 1)
          have hk4 := ((unhide HSt).trans hk2).trans (stp_field (c := c) (o := o) (v0 := .slice (some ⟨g, 0, none⟩) d.n cp) (q := o + 4) (.int .i64 (d.live - 1)) (by omega) (fun b e => .inl e))
          have hk3' : DMut ((setW g (wr.setCell ⟨c, o + 1, none⟩ (.slice (some ⟨gi, 0, none⟩) j ic)) (p * 11 + 0) (prL default)).setCell ⟨c, o + 4, none⟩ (.int .i64 (d.live - 1))) c o B (.slice (some ⟨g, 0, none⟩) d.n cp) (.slice (some ⟨gi, 0, none⟩) j ic) (.slice xa d.x xc) (goC hf d p) := by rw [unhide HRt]; exact hk3
          obtain ⟨W9, hW9⟩ : ∃ W9, W9 = ((((((((((((wr.setCell ⟨c, o + 1, none⟩ (.slice (some ⟨gi, 0, none⟩) j ic)).setCell ⟨g, p * 11, none⟩ (.int .i64 0)).setCell ⟨g, p * 11 + 1, none⟩ (.int .i64 0)).setCell ⟨g, p * 11 + 2, none⟩ (.float .f64 0)).setCell ⟨g, p * 11 + 3, none⟩ (.string ⟨#[]⟩)).setCell ⟨g, p * 11 + 4, none⟩ (.int .i64 0)).setCell ⟨g, p * 11 + 5, none⟩ (.int .i64 0)).setCell ⟨g, p * 11 + 6, none⟩ (.int .i64 0)).setCell ⟨g, p * 11 + 7, none⟩ (.float .f64 0)).setCell ⟨g, p * 11 + 8, none⟩ (.string ⟨#[]⟩)).setCell ⟨g, p * 11 + 9, none⟩ (.int .i64 0)).setCell ⟨g, p * 11 + 10, none⟩ (.int .i64 0)).setCell ⟨c, o + 4, none⟩ (.int .i64 (d.live - 1)) := ⟨_, rfl⟩
          have HM9 : Hid (DMut W9 c o B (.slice (some ⟨g, 0, none⟩) d.n cp) (.slice (some ⟨gi, 0, none⟩) j ic) (.slice xa d.x xc) (goC hf d p)) := hide (by rw [hW9]; exact hk3')
          have HS9 : Hid (Stp c o (.slice (some ⟨g, 0, none⟩) d.n cp) (.slice (some ⟨gi, 0, none⟩) d.m ic) (.slice xa d.x xc) w (.slice (some ⟨g, 0, none⟩) d.n cp) (.slice (some ⟨gi, 0, none⟩) j ic) (.slice xa d.x xc) W9) := hide (by rw [hW9]; exact hk4)
          have hcore := (goC_inv (unhide HKL) (unhide HI) (unhide HN) hp (unhide HPT)).1
          have HCO := hide hcore.core
          have hx9 := hcore.sz
          have hn9 := (goC_inv (unhide HKL) (unhide HI) (unhide HN) hp (unhide HPT)).2.2.1
          have hm9 : (goC hf d p).m ≤ d.m := unhide HMM
          have HSM : Hid (Small (goC hf d p)) := hide ⟨by rw [hn9]; exact hn, by omega, by unfold SizeX at hx9; omega⟩
          clear hpc hpf hk1 hk2 hk3 hk3' hk4 hcore hx9 hn9 hm9 HRt HSt
          go_wp2_with fail
          rw [← hW9]
          clear hW9 y0 y1 y2 y3 y4 y5 y6 y7 y8 y9 y10 z0 z1 z2 z3 z4 z5 z6 z7 z8 z9 z10 c0 c4 f4
          refine (l1compact_any hf K c o B _ _ _ (goC hf d p) _ (unhide HM9) (unhide HSM) (unhide HCO) (unhide HH)).mono ?_
          rintro e w10 ⟨⟨u, rfl⟩, t0, t2, hM10, hs10⟩
          have HM10 := hide hM10
          have HS10 := hide ((unhide HS9).trans hs10)
          clear hM10 hs10
          go_wp2
          go_end0
          exact ⟨⟨_, rfl⟩, _, _, _, unhide HM10, unhide HS10⟩
  · rw [tells_no hs]
    obtain ⟨s, hs1, hs2, hs3⟩ := (unhide HI).found (unhide HKL) (unhide HK) ⟨hp, unhide HPT, by rw [← unhide HKK]; exact hs⟩ (by rw [← unhide HKK]; exact (unhide HKL).refl _ (unhide HK))
    have HR : Hid (goC hf d p = goSlot d p s) := hide (goC_slot (by rw [← unhide HKK]; exact hs) (by rw [← unhide HKK]; exact hs3))
    obtain ⟨gx, cpx, eg⟩ := unhide HF2 (by omega)
    cases eg
    obtain ⟨g', cp', eg', hBx, hxl, hcpx, hcs, hfz⟩ := (unhide HM1).index.form (by omega)
    cases eg'
    have e0 := hcs s hs1
    have f0 := hfz s
    have hxc : gx ≠ c := fun e => (unhide HM1).nc (.inr (.inr (by rw [← e]; rfl)))
    have hcx : c ≠ gx := fun e => hxc e.symm
    have hxb : w.heap.size ≠ gx := fun e => (unhide HBK1).no (.inr (.inr (by rw [e]; rfl)))
    have hbx : gx ≠ w.heap.size := fun e => hxb e.symm
    have HCALL : Hid (∀ W : World, DPtr W c o (some ⟨g, 0, none⟩) cp ia ic (some ⟨gx, 0, none⟩) xc d → Calls Tryz.prog 114 #[Pc c o, V k.kind k.num k.flt k.str k.ref] W fun e w' => e = .returned (.int .i64 (s : Int)) ∧ Below W.heap.size W w') := hide (fun W hP => by
      have h := l1slot_any c o (some ⟨g, 0, none⟩) cp ia ic (some ⟨gx, 0, none⟩) xc d k (hf k) W hP (unhide HS) (unhide HI).d4 (unhide HH k (unhide HK))
      rw [hs3] at h
      exact h)
    have HM1d : Hid (DMut w1.drew c o B (.slice (some ⟨g, 0, none⟩) d.n cp) (.slice ia d.m ic) (.slice (some ⟨gx, 0, none⟩) d.x xc) d) := hide ((unhide HM1).below (Below.refl _ _).drew)
    have HS1d := hide ((unhide HS1).trans (Stp.of_below (Below.refl _ _).drew hlt))
    have HP1d := hide ((unhide HP1).below (Below.refl _ _).drew)
    have c2d : w1.drew.cell? ⟨c, o + 2, none⟩ = some (.slice (some ⟨gx, 0, none⟩) d.x xc) := c2
    have k0d : w1.drew.cell? ⟨w.heap.size, 0, none⟩ = some (.int .i64 k.kind) := k0
    have k1d : w1.drew.cell? ⟨w.heap.size, 1, none⟩ = some (.int .i64 k.num) := k1
    have k2d : w1.drew.cell? ⟨w.heap.size, 2, none⟩ = some (.float .f64 k.flt) := k2
    have k3d : w1.drew.cell? ⟨w.heap.size, 3, none⟩ = some (.string k.str) := k3
    have k4d : w1.drew.cell? ⟨w.heap.size, 4, none⟩ = some (.int .i64 k.ref) := k4
    have hltd : c < w1.drew.heap.size := hlt
    have bld : w.heap.size < w1.drew.heap.size := bl
    have hxld : gx < w1.drew.heap.size := hxl
    have HE0 := hide (show w1.drew.cell? ⟨gx, s, none⟩ = some (.int .i64 (d.X s)) from e0)
    have HF0 := hide (show w1.drew.frozen? ⟨gx, s, none⟩ = false from f0)
    clear hs hs3 hcs hfz c1 c2 k0 k1 k2 k3 k4 hlt bl hxl e0 f0 HF1 HF2 HM1 HS1 HP1 HBK1
    go_wp2_with fail
    go_region_held3 (fun w' => w'.cell? ⟨c, o + 2, none⟩ = some (.slice (some ⟨gx, 0, none⟩) d.x xc) ∧ w'.cell? ⟨w.heap.size, 0, none⟩ = some (.int .i64 k.kind) ∧ w'.cell? ⟨w.heap.size, 1, none⟩ = some (.int .i64 k.num) ∧ w'.cell? ⟨w.heap.size, 2, none⟩ = some (.float .f64 k.flt) ∧ w'.cell? ⟨w.heap.size, 3, none⟩ = some (.string k.str) ∧ w'.cell? ⟨w.heap.size, 4, none⟩ = some (.int .i64 k.ref)) (first | (with_reducible exact ⟨by assumption, by assumption, by assumption, by assumption, by assumption, by assumption⟩) | (exact ⟨(cell_set_block hxc).trans c2e, (cell_set_block hbx).trans k0e, (cell_set_block hbx).trans k1e, (cell_set_block hbx).trans k2e, (cell_set_block hbx).trans k3e, (cell_set_block hbx).trans k4e⟩) | go_keep)
      (first | (go_at_call 114; refine (unhide HCALL _ (unhide HP1d)).mono ?_; rintro e w2 ⟨rfl, hb2⟩; have c2e := (hb2.cell (p := ⟨c, o + 2, none⟩) hltd).trans c2d; have k0e := (hb2.cell (p := ⟨w.heap.size, 0, none⟩) bld).trans k0d; have k1e := (hb2.cell (p := ⟨w.heap.size, 1, none⟩) bld).trans k1d; have k2e := (hb2.cell (p := ⟨w.heap.size, 2, none⟩) bld).trans k2d; have k3e := (hb2.cell (p := ⟨w.heap.size, 3, none⟩) bld).trans k3d; have k4e := (hb2.cell (p := ⟨w.heap.size, 4, none⟩) bld).trans k4d; have e0 := (hb2.cell (p := ⟨gx, s, none⟩) hxld).trans (unhide HE0); have f0 := (hb2.frozen (p := ⟨gx, s, none⟩) hxld).trans (unhide HF0); have HM2 := hide ((unhide HM1d).below hb2); have HS2 := hide ((unhide HS1d).trans (Stp.of_below hb2 hltd)); clear hb2))
    have HMt := hide ((unhide HM2).putX hs1 (-1))
    have HSt := hide ((unhide HS2).trans (stp_row (c := c) (o := o) (v0 := .slice (some ⟨g, 0, none⟩) d.n cp) (v1 := .slice ia d.m ic) (v2 := .slice (some ⟨gx, 0, none⟩) d.x xc) (q := s) (.int .i64 (-1)) (.inr (.inr rfl)) hxc))
    have HRt : Hid (goC hf d p = { d with X := upd d.X s (-1), L := upd d.L p default, live := d.live - 1 }) := hide (by rw [unhide HR]; rfl)
    have HMM : Hid ((goC hf d p).m ≤ d.m) := hide (by rw [unhide HRt]; exact Nat.le_refl _)
    clear HM2 HS2 e0 f0 c2d k0d k1d k2d k3d k4d c2e k0e k1e k2e k3e k4e
    obtain ⟨g', cp', eg', hBg', hgl', hcp', hpc, hpf⟩ := (unhide HMt).log.form (by show 0 < d.n; omega)
    cases eg'
    obtain ⟨y0, y1, y2, y3, y4, y5, y6, y7, y8, y9, y10⟩ := hpc p hp
    have z0 := hpf (p * 11)
    have z1 := hpf (p * 11 + 1)
    have z2 := hpf (p * 11 + 2)
    have z3 := hpf (p * 11 + 3)
    have z4 := hpf (p * 11 + 4)
    have z5 := hpf (p * 11 + 5)
    have z6 := hpf (p * 11 + 6)
    have z7 := hpf (p * 11 + 7)
    have z8 := hpf (p * 11 + 8)
    have z9 := hpf (p * 11 + 9)
    have z10 := hpf (p * 11 + 10)
    have c0 : (w2.setCell ⟨gx, s, none⟩ (.int .i64 (-1))).cell? ⟨c, o, none⟩ = some (.slice (some ⟨g, 0, none⟩) d.n cp) := (unhide HMt).c0
    have c4 : (w2.setCell ⟨gx, s, none⟩ (.int .i64 (-1))).cell? ⟨c, o + 4, none⟩ = some (.int .i64 d.live) := (unhide HMt).c4
    have f4 := (unhide HMt).fz (o + 4)
    have hlt := (unhide HMt).lt
    obtain ⟨hk1, hk2⟩ := DMut.kill (d := { d with X := upd d.X s (-1) }) (unhide HMt) (i := p) hp
    have hk3 := DMut.setLive hk1 (d.live - 1)
    have hk4 := ((unhide HSt).trans hk2).trans (stp_field (c := c) (o := o) (v0 := .slice (some ⟨g, 0, none⟩) d.n cp) (q := o + 4) (.int .i64 (d.live - 1)) (by omega) (fun b e => .inl e))
    have hk3' : DMut ((setW g (w2.setCell ⟨gx, s, none⟩ (.int .i64 (-1))) (p * 11 + 0) (prL default)).setCell ⟨c, o + 4, none⟩ (.int .i64 (d.live - 1))) c o B (.slice (some ⟨g, 0, none⟩) d.n cp) (.slice ia d.m ic) (.slice (some ⟨gx, 0, none⟩) d.x xc) (goC hf d p) := by rw [unhide HRt]; exact hk3
    obtain ⟨W9, hW9⟩ : ∃ W9, W9 = ((((((((((((w2.setCell ⟨gx, s, none⟩ (.int .i64 (-1))).setCell ⟨g, p * 11, none⟩ (.int .i64 0)).setCell ⟨g, p * 11 + 1, none⟩ (.int .i64 0)).setCell ⟨g, p * 11 + 2, none⟩ (.float .f64 0)).setCell ⟨g, p * 11 + 3, none⟩ (.string ⟨#[]⟩)).setCell ⟨g, p * 11 + 4, none⟩ (.int .i64 0)).setCell ⟨g, p * 11 + 5, none⟩ (.int .i64 0)).setCell ⟨g, p * 11 + 6, none⟩ (.int .i64 0)).setCell ⟨g, p * 11 + 7, none⟩ (.float .f64 0)).setCell ⟨g, p * 11 + 8, none⟩ (.string ⟨#[]⟩)).setCell ⟨g, p * 11 + 9, none⟩ (.int .i64 0)).setCell ⟨g, p * 11 + 10, none⟩ (.int .i64 0)).setCell ⟨c, o + 4, none⟩ (.int .i64 (d.live - 1)) := ⟨_, rfl⟩
    have HM9 : Hid (DMut W9 c o B (.slice (some ⟨g, 0, none⟩) d.n cp) (.slice ia d.m ic) (.slice (some ⟨gx, 0, none⟩) d.x xc) (goC hf d p)) := hide (by rw [hW9]; exact hk3')
    have HS9 : Hid (Stp c o (.slice (some ⟨g, 0, none⟩) d.n cp) (.slice ia d.m ic) (.slice (some ⟨gx, 0, none⟩) d.x xc) w (.slice (some ⟨g, 0, none⟩) d.n cp) (.slice ia d.m ic) (.slice (some ⟨gx, 0, none⟩) d.x xc) W9) := hide (by rw [hW9]; exact hk4)
    have hcore := (goC_inv (unhide HKL) (unhide HI) (unhide HN) hp (unhide HPT)).1
    have HCO := hide hcore.core
    have hx9 := hcore.sz
    have hn9 := (goC_inv (unhide HKL) (unhide HI) (unhide HN) hp (unhide HPT)).2.2.1
    have hm9 : (goC hf d p).m ≤ d.m := unhide HMM
    have HSM : Hid (Small (goC hf d p)) := hide ⟨by rw [hn9]; exact hn, by omega, by unfold SizeX at hx9; omega⟩
    clear hpc hpf hk1 hk2 hk3 hk3' hk4 hcore hx9 hn9 hm9 HRt HSt
    go_wp2_with fail
    rw [← hW9]
    clear hW9 y0 y1 y2 y3 y4 y5 y6 y7 y8 y9 y10 z0 z1 z2 z3 z4 z5 z6 z7 z8 z9 z10 c0 c4 f4
    refine (l1compact_any hf K c o B _ _ _ (goC hf d p) _ (unhide HM9) (unhide HSM) (unhide HCO) (unhide HH)).mono ?_
    rintro e w10 ⟨⟨u, rfl⟩, t0, t2, hM10, hs10⟩
    have HM10 := hide hM10
    have HS10 := hide ((unhide HS9).trans hs10)
    clear hM10 hs10
    go_wp2
    go_end0
    exact ⟨⟨_, rfl⟩, _, _, _, unhide HM10, unhide HS10⟩
end Go.Proofs.YtglcaejddckleaaGreatDoor
namespace Go.Proofs.YtglcaejddckleaaGreatDoor
open Go.RowKit
set_option linter.unusedVariables false
attribute [local go_sem] run_store_float run_equalIn_float

set_option maxRecDepth 100000 in
set_option maxHeartbeats 8000000 in
theorem l1put_any (hf : Vl → Nat) (K : Vl → Prop) (KL : KeyLaw K hf) (c o B : Nat) (v0 v1 v2 : Value) (d : Dc) (k v : Vl) (w : World) (hM : DMut w c o B v0 v1 v2 d) (hS : Small d) (hI : Inv K hf d) (hh : ∀ v, K v → HsS v (hf v))
    (hk : K k) (hkb : keyB k = true) (hv : v.ok = true) (hmm : d.m ≤ 4000000) :
    Calls Tryz.prog 66 #[Pc c o, V k.kind k.num k.flt k.str k.ref, V v.kind v.num v.flt v.str v.ref] w fun e w' => ((∃ u, e = .returned u) ∧ ∃ u0 u1 u2, DMut w' c o B u0 u1 u2 (putD hf d k v) ∧ Stp c o v0 v1 v2 w u0 u1 u2 w') := by
  have hB0 : Below w.heap.size w ((w.alloc (.cells #[.int .i64 k.kind, .int .i64 k.num, .float .f64 k.flt, .string k.str, .int .i64 k.ref] 30)).alloc (.cells #[.int .i64 v.kind, .int .i64 v.num, .float .f64 v.flt, .string v.str, .int .i64 v.ref] 30)) := ((Below.refl _ _).alloc (Nat.le_refl _) _).alloc (by simp) _
  obtain ⟨W, hW⟩ : ∃ W, W = (w.alloc (.cells #[.int .i64 k.kind, .int .i64 k.num, .float .f64 k.flt, .string k.str, .int .i64 k.ref] 30)).alloc (.cells #[.int .i64 v.kind, .int .i64 v.num, .float .f64 v.flt, .string v.str, .int .i64 v.ref] 30) := ⟨_, rfl⟩
  rw [← hW] at hB0
  have hMW := hM.below hB0
  have bk : BoxD W c v0 v1 v2 w.heap.size k := ⟨⟨by rw [hW]; simp; omega, by rw [hW]; simp [go_sem], by rw [hW]; simp [go_sem], by rw [hW]; simp [go_sem], by rw [hW]; simp [go_sem], by rw [hW]; simp [go_sem]⟩, fun e => by have := hM.lt; omega, fun e => by have := (hM.own3 e).2; omega⟩
  have bv : BoxD W c v0 v1 v2 (w.heap.size + 1) v := ⟨⟨by rw [hW]; simp, by rw [hW]; simp [go_sem], by rw [hW]; simp [go_sem], by rw [hW]; simp [go_sem], by rw [hW]; simp [go_sem], by rw [hW]; simp [go_sem]⟩, fun e => by have := hM.lt; omega, fun e => by have := (hM.own3 e).2; omega⟩
  have hsW : Stp c o v0 v1 v2 w v0 v1 v2 W := Stp.of_below hB0 hM.lt
  obtain ⟨la, lc, ia, ic, xa, xc, e0, e1, e2, hP⟩ := hMW.ptr
  subst e0 e1 e2
  have hn := hS.n
  have hlv5 := hI.i0.le
  have hlv0 : 0 ≤ d.live := by have := hI.i0.log.cnt; omega
  have htn := hI.i0.turns
  have HPL := hide (hI.i0.place KL hk)
  have HP := hide hP
  have HM := hide hMW
  have HSW := hide hsW
  have HBK := hide bk
  have HBV := hide bv
  have HS := hide hS
  have HI := hide hI
  have HH := hide hh
  have HKL := hide KL
  have HK := hide (And.intro hk (And.intro hkb hv))
  clear hM hMW bk bv hsW hS hI hh KL hk hkb hv hP hB0
  go_enter Tryz.func66, Tryz.ntmps66
  go_wp2_with fail
  rw [← hW]
  clear hW
  obtain ⟨bl, k0, k1, k2, k3, k4⟩ := (unhide HBK).box
  refine (l1place_any c o la lc ia ic xa xc d k (hf k) _ (unhide HP) (unhide HS) (unhide HI).i0.d3 (unhide HI).i0.d4 (unhide HH k (unhide HK).1)).mono ?_
  rintro e w1 ⟨rfl, hb1⟩
  have hst1 : Stp c o (.slice la d.n lc) (.slice ia d.m ic) (.slice xa d.x xc) W (.slice la d.n lc) (.slice ia d.m ic) (.slice xa d.x xc) w1 := Stp.of_below hb1 (unhide HM).lt
  have HM1 := hide ((unhide HM).below hb1)
  have HS1 := hide ((unhide HSW).trans hst1)
  have HBK1 := hide ((unhide HBK).step hst1)
  have HBV1 := hide ((unhide HBV).step hst1)
  clear hb1 hst1 HM HSW HBK HBV HP bl k0 k1 k2 k3 k4
  obtain ⟨bl, k0, k1, k2, k3, k4⟩ := (unhide HBK1).box
  obtain ⟨bl', q0, q1, q2, q3, q4⟩ := (unhide HBV1).box
  have hlt := (unhide HM1).lt
  have c0 := (unhide HM1).c0
  have c4 := (unhide HM1).c4
  have c5 := (unhide HM1).c5
  rcases unhide HPL with ⟨i, hi, hti, hli, hpl⟩ | ⟨hno, hpl⟩
  · rw [hpl]
    have HTI := hide hti
    by_cases hv0 : v.kind = 0
    · have HR : Hid (putD hf d k v = goD hf d i) := hide (by rw [putD_go (by omega) hv0, hpl]; rfl)
      have hv0' : (v.kind == 0) = true := by simp [hv0]
      clear hv0 hpl hli hti HPL
      go_wp2_with fail
      refine (l1go_any hf K (unhide HKL) c o B _ _ _ d i _ (unhide HM1) (unhide HS) (unhide HI).i0 (unhide HI).next (unhide HH) hi (unhide HTI)).mono ?_
      rintro e w2 ⟨⟨u, rfl⟩, t0, t1, t2, hM2, hs2⟩
      have HM2 := hide hM2
      have HS2 := hide ((unhide HS1).trans hs2)
      clear hM2 hs2
      go_wp2
      go_end0
      exact ⟨⟨_, rfl⟩, _, _, _, by rw [unhide HR]; exact unhide HM2, unhide HS2⟩
    · have HR : Hid (putD hf d k v = setV d i v) := hide (by rw [putD_set (by omega) hv0, hpl]; rfl)
      have hv0' : (v.kind == 0) = false := by simp [hv0]
      obtain ⟨g, cp, eg, hBg, hgl, hcp, hpc, hpf⟩ := (unhide HM1).log.form (by omega)
      cases eg
      obtain ⟨_, _, _, _, _, y5, y6, y7, y8, y9, _⟩ := hpc i hi
      have z5 := hpf (i * 11 + 5)
      have z6 := hpf (i * 11 + 6)
      have z7 := hpf (i * 11 + 7)
      have z8 := hpf (i * 11 + 8)
      have z9 := hpf (i * 11 + 9)
      have hgc : g ≠ c := fun e => (unhide HM1).nc (.inl (by rw [← e]; rfl))
      have hgb : g ≠ w.heap.size + 1 := fun e => (unhide HBV1).no (.inl (by rw [← e]; rfl))
      have hbg : w.heap.size + 1 ≠ g := fun e => hgb e.symm
      obtain ⟨h1, h2⟩ := (unhide HM1).putV hi v
      have HMV := hide (h1.below (Below.refl _ _).drew)
      have HSV := hide (((unhide HS1).trans h2).trans (Stp.of_below (Below.refl _ _).drew h1.lt))
      clear hv0 hpl hli hti HPL hpc hpf h1 h2
      go_wp2_with fail
      go_region
      go_wp2
      go_end0
      exact ⟨⟨_, rfl⟩, _, _, _, by rw [unhide HR]; exact unhide HMV, unhide HSV⟩
  · rw [hpl]
    have HNO := hide hno
    have hneg : ¬ 0 ≤ placeI d k (hf k) := by omega
    have HNEG := hide hneg
    clear hpl hno hneg HPL
    by_cases hv0 : v.kind = 0
    · have HR : Hid (putD hf d k v = d) := hide (putD_not (unhide HNEG) (fun h => h.1 hv0))
      have hv0' : (v.kind != 0) = false := by simp [hv0]
      clear hv0
      go_wp2
      go_end0
      exact ⟨⟨_, rfl⟩, _, _, _, by rw [unhide HR]; exact unhide HM1, unhide HS1⟩
    have hv0' : (v.kind != 0) = true := by simp [hv0]
    by_cases hl : d.live < 500
    case neg =>
      have HR : Hid (putD hf d k v = d) := hide (putD_not (unhide HNEG) (fun h => hl h.2.1))
      have hl' : decide (d.live < 500) = false := by simp; omega
      clear hv0 hl
      go_wp2
      go_end0
      exact ⟨⟨_, rfl⟩, _, _, _, by rw [unhide HR]; exact unhide HM1, unhide HS1⟩
    have hl' : decide (d.live < 500) = true := by simp [hl]
    by_cases ht : d.turns < 1000000000000
    case neg =>
      have HR : Hid (putD hf d k v = d) := hide (putD_not (unhide HNEG) (fun h => ht h.2.2))
      have ht' : decide (d.turns < 1000000000000) = false := by simp; omega
      clear hv0 hl ht
      go_wp2
      go_end0
      exact ⟨⟨_, rfl⟩, _, _, _, by rw [unhide HR]; exact unhide HM1, unhide HS1⟩
    have ht' : decide (d.turns < 1000000000000) = true := by simp [ht]
    have HR : Hid (putD hf d k v = comeD hf d k v) := hide (putD_come (unhide HNEG) ⟨hv0, hl, ht⟩)
    have HVV := hide hv0
    clear hv0
    go_wp2_with fail
    refine (l1come_any hf K (unhide HKL) c o B _ _ _ d k v _ (unhide HM1) (unhide HS) (unhide HI).i0 (unhide HI).next (unhide HH) (unhide HK).1 (unhide HK).2.1 (unhide HK).2.2 (unhide HVV) (unhide HNO) hl ht hmm).mono ?_
    rintro e w2 ⟨⟨u, rfl⟩, t0, t1, t2, hM2, hs2⟩
    have HM2 := hide hM2
    have HS2 := hide ((unhide HS1).trans hs2)
    clear hM2 hs2
    go_wp2
    go_end0
    exact ⟨⟨_, rfl⟩, _, _, _, by rw [unhide HR]; exact unhide HM2, unhide HS2⟩
end Go.Proofs.YtglcaejddckleaaGreatDoor
namespace Go.Proofs.YtglcaejddckleaaGreatDoor
open Go.RowKit
set_option linter.unusedVariables false

theorem DMut.rows {w w' : World} {c o B : Nat} {v0 v1 v2 : Value} {d : Dc} (h : DMut w c o B v0 v1 v2 d) (hs : w.heap.size ≤ w'.heap.size) (hb : ∀ q, B ≤ q → q < w.heap.size → w'.heap[q]? = w.heap[q]?) :
    ∃ la lc ia ic xa xc, v0 = .slice la d.n lc ∧ v1 = .slice ia d.m ic ∧ v2 = .slice xa d.x xc ∧ DAt w' la ia xa d := by
  obtain ⟨la, lc, e0, hL⟩ := POwn.at (own_block h.log hs hb)
  obtain ⟨ia, ic, e1, hI⟩ := IOwn.at (own_block h.ints hs hb)
  obtain ⟨xa, xc, e2, hX⟩ := IOwn.at (own_block h.index hs hb)
  subst e0 e1 e2
  exact ⟨la, lc, ia, ic, xa, xc, rfl, rfl, rfl, hL, hI, hX⟩
end Go.Proofs.YtglcaejddckleaaGreatDoor
namespace Go.Proofs.YtglcaejddckleaaGreatDoor
open Go.RowKit
set_option linter.unusedVariables false

/-- The bytes that are drawn from: nil, or a row of cells below the cursor. -/
def CodeAt (w : World) (b : Nat) (a : Option Addr) (len : Nat) : Prop :=
  len < 9007199254740992 ∧ (len = 0 ∨ ∃ k off, a = some ⟨k, off, none⟩ ∧ k < b ∧ ∀ i, i < len → ∃ z : Int, w.cell? ⟨k, off + i, none⟩ = some (.int .u8 z) ∧ 0 ≤ z ∧ z < 256)

/-- A cursor at block b, which has gone on at most N times. -/
structure Cu (b N : Nat) (w : World) : Prop where
  ex : ∃ a len cap at_ seed, w.cell? ⟨b, 0, none⟩ = some (.slice a len cap) ∧ w.cell? ⟨b, 1, none⟩ = some (.int .i64 at_) ∧ w.cell? ⟨b, 2, none⟩ = some (.int .u64 seed) ∧ 0 ≤ at_ ∧ at_ ≤ N ∧ 0 ≤ seed ∧ seed < 18446744073709551616 ∧ CodeAt w b a len
  fz : ∀ o, w.frozen? ⟨b, o, none⟩ = false

/-- Nothing but block b has turned, and draws. -/
structure Stc (b : Nat) (w w' : World) : Prop where
  os : w'.os = w.os
  tape : w'.tape = w.tape
  output : w'.output = w.output
  size : w'.heap.size = w.heap.size
  block : ∀ k, k ≠ b → w'.heap[k]? = w.heap[k]?

theorem Stc.refl (b : Nat) (w : World) : Stc b w w := ⟨rfl, rfl, rfl, rfl, fun _ _ => rfl⟩
theorem Stc.trans {b : Nat} {u v w : World} (h : Stc b u v) (k : Stc b v w) : Stc b u w :=
  ⟨k.os.trans h.os, k.tape.trans h.tape, k.output.trans h.output, k.size.trans h.size, fun i hi => (k.block i hi).trans (h.block i hi)⟩
theorem Stc.cell {b : Nat} {w w' : World} (h : Stc b w w') (k o : Nat) (hk : k ≠ b) : w'.cell? ⟨k, o, none⟩ = w.cell? ⟨k, o, none⟩ := World.cell?_of_block (w := w) (h.block k hk)
theorem Stc.frozen {b : Nat} {w w' : World} (h : Stc b w w') (k o : Nat) (hk : k ≠ b) : w'.frozen? ⟨k, o, none⟩ = w.frozen? ⟨k, o, none⟩ := World.frozen?_of_block (w := w) (h.block k hk)
theorem Stc.below {b B : Nat} {w w' : World} (h : Stc b w w') (hB : B ≤ b) : Below B w w' := ⟨h.os, h.tape, h.output, by rw [h.size]; exact Nat.le_refl _, fun k hk => h.block k (by omega)⟩

theorem stp_set (b o : Nat) (w : World) (v : Value) : Stc b w (w.setCell ⟨b, o, none⟩ v) :=
  ⟨rfl, rfl, rfl, by simp [World.setCell], fun k hk => Below.heap_setCell _ _ _ _ (by simpa using hk)⟩
theorem stp_drewN (b n : Nat) (w : World) : Stc b w (w.drewN n) := ⟨rfl, rfl, rfl, rfl, fun _ _ => rfl⟩
theorem stp_two (b o o' n : Nat) (w : World) (v v' : Value) : Stc b w (((w.drewN n).setCell ⟨b, o, none⟩ v).setCell ⟨b, o', none⟩ v') :=
  ((stp_drewN b n w).trans (stp_set b o _ v)).trans (stp_set b o' _ v')

theorem CodeAt.stp {b : Nat} {w w' : World} {a : Option Addr} {len : Nat} (h : CodeAt w b a len) (s : Stc b w w') : CodeAt w' b a len := by
  refine ⟨h.1, ?_⟩
  rcases h.2 with h | ⟨k, off, e, hk, hc⟩
  · exact .inl h
  · refine .inr ⟨k, off, e, hk, fun i hi => ?_⟩
    obtain ⟨z, h1, h2⟩ := hc i hi
    exact ⟨z, by rw [s.cell k _ (by omega)]; exact h1, h2⟩

/-- The cursor behind a step. -/
theorem cu_two {b N : Nat} {w : World} {a : Option Addr} {len cap : Nat} {at_ seed : Int} (fz : ∀ o, w.frozen? ⟨b, o, none⟩ = false)
    (h0 : w.cell? ⟨b, 0, none⟩ = some (.slice a len cap)) (h1 : w.cell? ⟨b, 1, none⟩ = some (.int .i64 at_)) (h2 : w.cell? ⟨b, 2, none⟩ = some (.int .u64 seed))
    (ha0 : 0 ≤ at_) (ha1 : at_ ≤ N) (hc : CodeAt w b a len) (n : Nat) (s : Int) (hs0 : 0 ≤ s) (hs1 : s < 18446744073709551616) :
    Cu b (N + 1) (((w.drewN n).setCell ⟨b, 1, none⟩ (.int .i64 (at_ + 1))).setCell ⟨b, 2, none⟩ (.int .u64 s)) ∧ Cu b (N + 1) (((w.drewN n).setCell ⟨b, 2, none⟩ (.int .u64 s)).setCell ⟨b, 1, none⟩ (.int .i64 (at_ + 1))) := by
  constructor
  · exact ⟨⟨a, len, cap, at_ + 1, s, by simp [go_sem, h0], by simp [go_sem, h1], by simp [go_sem, h2], by omega, by omega, hs0, hs1, hc.stp (stp_two b 1 2 n w _ _)⟩, fun o => by simp [go_sem, fz]⟩
  · exact ⟨⟨a, len, cap, at_ + 1, s, by simp [go_sem, h0], by simp [go_sem, h1], by simp [go_sem, h2], by omega, by omega, hs0, hs1, hc.stp (stp_two b 2 1 n w _ _)⟩, fun o => by simp [go_sem, fz]⟩

set_option maxHeartbeats 1000000 in
theorem next_in (b N : Nat) (len cap : Nat) (at_ seed z : Int) (k off : Nat) (w : World) (fz : ∀ o, w.frozen? ⟨b, o, none⟩ = false) (hcode : CodeAt w b (some ⟨k, off, none⟩) len)
    (h0 : w.cell? ⟨b, 0, none⟩ = some (.slice (some ⟨k, off, none⟩) len cap)) (h1 : w.cell? ⟨b, 1, none⟩ = some (.int .i64 at_)) (h2 : w.cell? ⟨b, 2, none⟩ = some (.int .u64 seed))
    (ha0 : 0 ≤ at_) (ha1 : at_ ≤ N) (hN : N ≤ 1099511627776) (hlt : at_ < len) (hlen : (len : Int) < 9007199254740992) (hk : k < b) (hz0 : 0 ≤ z) (hz1 : z < 256)
    (hc : w.cell? ⟨k, off + at_.toNat, none⟩ = some (.int .u8 z)) :
    Calls Tryz.prog 90 #[.pointer (some ⟨b, 0, none⟩)] w fun e w' => e = .returned (.int .i64 z) ∧ Cu b (N + 1) w' ∧ Stc b w w' := by
  have hkb : ¬ k = b := by omega
  have f1 := fz 1
  have f2 := fz 2
  have FZ : Hid (∀ o, w.frozen? ⟨b, o, none⟩ = false) := fz
  have HC : Hid (CodeAt w b (some ⟨k, off, none⟩) len) := hcode
  clear fz hcode
  go_enter Tryz.func90, Tryz.ntmps90
  go_wp2
  go_quiet (fail)
  go_wp2
  go_quiet (fail)
  go_wp2
  go_ret
  have hr := wrap_u64_range (IntKind.u64.wrap (IntKind.u64.wrap (seed * 6364136223846793005) + z) + 1442695040888963407)
  exact ⟨rfl, (cu_two FZ.out h0 h1 h2 ha0 ha1 HC.out _ _ hr.1 hr.2).1, stp_two _ _ _ _ _ _ _⟩

theorem and255 (X : Int) (h0 : 0 ≤ X) (h1 : X < 18446744073709551616) : 0 ≤ wrap64 (bits BinOp.and IntKind.u64 X 255) ∧ wrap64 (bits BinOp.and IntKind.u64 X 255) < 256 := by
  have h := u64_and X 255 h0 h1 (by omega) (by omega)
  have e : (255 : Int).toNat = 2 ^ 8 - 1 := by decide
  rw [e, Nat.and_two_pow_sub_one_eq_mod] at h
  rw [h]
  have hm : X.toNat % 2 ^ 8 < 256 := Nat.mod_lt _ (by decide)
  generalize X.toNat % 2 ^ 8 = q at hm
  have : wrap64 (q : Int) = q := by unfold wrap64; omega
  rw [this]; omega

set_option maxHeartbeats 1000000 in
theorem next_out (b N : Nat) (a : Option Addr) (len cap : Nat) (at_ seed : Int) (w : World) (fz : ∀ o, w.frozen? ⟨b, o, none⟩ = false) (hcode : CodeAt w b a len)
    (h0 : w.cell? ⟨b, 0, none⟩ = some (.slice a len cap)) (h1 : w.cell? ⟨b, 1, none⟩ = some (.int .i64 at_)) (h2 : w.cell? ⟨b, 2, none⟩ = some (.int .u64 seed))
    (ha0 : 0 ≤ at_) (ha1 : at_ ≤ N) (hN : N ≤ 1099511627776) (hlt : (len : Int) ≤ at_) :
    Calls Tryz.prog 90 #[.pointer (some ⟨b, 0, none⟩)] w fun e w' => (∃ z : Int, e = .returned (.int .i64 z) ∧ 0 ≤ z ∧ z < 256) ∧ Cu b (N + 1) w' ∧ Stc b w w' := by
  have f1 := fz 1
  have f2 := fz 2
  have FZ : Hid (∀ o, w.frozen? ⟨b, o, none⟩ = false) := fz
  have HC : Hid (CodeAt w b a len) := hcode
  clear fz hcode
  go_enter Tryz.func90, Tryz.ntmps90
  go_wp2
  go_quiet (fail)
  go_wp2
  go_ret
  have hr := wrap_u64_range (IntKind.u64.wrap (seed * 6364136223846793005) + 1442695040888963407)
  have h2 := and255 (IntKind.u64.wrap (IntKind.u64.wrap (seed * 6364136223846793005) + 1442695040888963407) / 1099511627776) (by omega) (by omega)
  exact ⟨⟨_, rfl, h2.1, h2.2⟩, (cu_two FZ.out h0 h1 ‹_› ha0 ha1 HC.out _ _ hr.1 hr.2).2, stp_two _ _ _ _ _ _ _⟩

theorem next_any (b N : Nat) (w : World) (h : Cu b N w) (hN : N ≤ 1099511627776) :
    Calls Tryz.prog 90 #[.pointer (some ⟨b, 0, none⟩)] w fun e w' => (∃ z : Int, e = .returned (.int .i64 z) ∧ 0 ≤ z ∧ z < 256) ∧ Cu b (N + 1) w' ∧ Stc b w w' := by
  obtain ⟨a, len, cap, at_, seed, h0, h1, h2, ha0, ha1, _, _, hc⟩ := h.ex
  by_cases hlt : at_ < len
  · rcases hc.2 with e | ⟨k, off, rfl, hk, hcc⟩
    · subst e; exfalso; simp at hlt; omega
    · obtain ⟨z, hz, hz0, hz1⟩ := hcc at_.toNat (by omega)
      refine (next_in b N len cap at_ seed z k off w h.fz hc h0 h1 h2 ha0 ha1 hN hlt (by have := hc.1; omega) hk hz0 hz1 hz).mono ?_
      rintro e w' ⟨rfl, h3⟩
      exact ⟨⟨z, rfl, hz0, hz1⟩, h3⟩
  · exact next_out b N a len cap at_ seed w h.fz hc h0 h1 h2 ha0 ha1 hN (by omega)

set_option maxHeartbeats 1000000 in
theorem pick_any (b N : Nat) (n : Int) (w : World) (h : Cu b N w) (hN : N ≤ 1099511627000) (hn1 : 1 < n) (hn2 : n ≤ 70000) :
    Calls Tryz.prog 45 #[.pointer (some ⟨b, 0, none⟩), .int .i64 n] w fun e w' => (∃ x : Int, e = .returned (.int .i64 x) ∧ 0 ≤ x ∧ x < n) ∧ Cu b (N + 2) w' ∧ Stc b w w' := by
  have H : Hid (Cu b N w) := h
  clear h
  by_cases hs : n ≤ 200
  · go_enter Tryz.func45, Tryz.ntmps45
    go_wp2_with fail
    refine (next_any b N _ H.out (by omega)).mono ?_
    rintro e w1 ⟨⟨z, rfl, hz0, hz1⟩, hc1, hs1⟩
    go_wp2_with fail
    go_ret
    refine ⟨⟨_, rfl, ?_, ?_⟩, ⟨?_, hc1.fz⟩, hs1⟩
    · exact Int.emod_nonneg _ (by omega)
    · exact Int.emod_lt_of_pos _ (by omega)
    · obtain ⟨a, len, cap, at_, seed, h0, h1, h2, ha0, ha1, r⟩ := hc1.ex
      exact ⟨a, len, cap, at_, seed, h0, h1, h2, ha0, by omega, r⟩
  · have hs' : 200 < n := by omega
    go_enter Tryz.func45, Tryz.ntmps45
    go_wp2_with fail
    refine (next_any b N _ H.out (by omega)).mono ?_
    rintro e w1 ⟨⟨z, rfl, hz0, hz1⟩, hc1, hs1⟩
    go_wp2_with fail
    refine (next_any b (N + 1) _ hc1 (by omega)).mono ?_
    rintro e w2 ⟨⟨y, rfl, hy0, hy1⟩, hc2, hs2⟩
    go_wp2_with fail
    go_ret
    refine ⟨⟨_, rfl, ?_, ?_⟩, hc2, hs1.trans hs2⟩
    · exact Int.emod_nonneg _ (by omega)
    · exact Int.emod_lt_of_pos _ (by omega)
end Go.Proofs.YtglcaejddckleaaGreatDoor
namespace Go.Proofs.YtglcaejddckleaaGreatDoor
open Go.RowKit
set_option linter.unusedVariables false

/-- Nothing that was there has turned but block b; new blocks may have come. -/
structure Gr (b : Nat) (w w' : World) : Prop where
  os : w'.os = w.os
  tape : w'.tape = w.tape
  output : w'.output = w.output
  size : w.heap.size ≤ w'.heap.size
  block : ∀ k, k ≠ b → k < w.heap.size → w'.heap[k]? = w.heap[k]?

theorem Stc.gr {b : Nat} {w w' : World} (h : Stc b w w') : Gr b w w' := ⟨h.os, h.tape, h.output, by rw [h.size]; exact Nat.le_refl _, fun k hk _ => h.block k hk⟩
theorem Gr.trans {b : Nat} {u v w : World} (h : Gr b u v) (k : Gr b v w) : Gr b u w :=
  ⟨k.os.trans h.os, k.tape.trans h.tape, k.output.trans h.output, Nat.le_trans h.size k.size, fun i hi hs => (k.block i hi (Nat.lt_of_lt_of_le hs h.size)).trans (h.block i hi hs)⟩
theorem Gr.of_below {b : Nat} {w w' : World} (h : Below w.heap.size w w') : Gr b w w' := ⟨h.os, h.tape, h.output, h.size, fun k _ hk => h.block k hk⟩
theorem Gr.cell {b : Nat} {w w' : World} (h : Gr b w w') : ∀ k o, k ≠ b → k < w.heap.size → w'.cell? ⟨k, o, none⟩ = w.cell? ⟨k, o, none⟩ := fun k o hk hs => World.cell?_of_block (w := w) (h.block k hk hs)
theorem Gr.frozen {b : Nat} {w w' : World} (h : Gr b w w') : ∀ k o, k ≠ b → k < w.heap.size → w'.frozen? ⟨k, o, none⟩ = w.frozen? ⟨k, o, none⟩ := fun k o hk hs => World.frozen?_of_block (w := w) (h.block k hk hs)
theorem Gr.below {b B : Nat} {w w' : World} (h : Gr b w w') (h1 : B ≤ b) (h2 : B ≤ w.heap.size) : Below B w w' := ⟨h.os, h.tape, h.output, h.size, fun k hk => h.block k (by omega) (by omega)⟩

theorem below_set5 {B : Nat} {a w : World} (h : Below B a w) (b : Nat) (hb : B ≤ b) (v0 v1 v2 v3 v4 : Value) :
    Below B a (((((w.setCell ⟨b, 0, none⟩ v0).setCell ⟨b, 1, none⟩ v1).setCell ⟨b, 2, none⟩ v2).setCell ⟨b, 3, none⟩ v3).setCell ⟨b, 4, none⟩ v4) :=
  ((((h.setCell (p := ⟨b, 0, none⟩) hb v0).setCell (p := ⟨b, 1, none⟩) hb v1).setCell (p := ⟨b, 2, none⟩) hb v2).setCell (p := ⟨b, 3, none⟩) hb v3).setCell (p := ⟨b, 4, none⟩) hb v4
theorem Gr.then_below {b B : Nat} {u v w : World} (h : Gr b u v) (k : Below B v w) (hB : u.heap.size ≤ B) : Gr b u w :=
  ⟨k.os.trans h.os, k.tape.trans h.tape, k.output.trans h.output, Nat.le_trans h.size k.size, fun i hi hs => (k.block i (by omega)).trans (h.block i hi hs)⟩

theorem CodeAt.of_eq {b : Nat} {w w' : World} {a : Option Addr} {len : Nat} (h : CodeAt w b a len) (s : ∀ k, k < b → w'.heap[k]? = w.heap[k]?) : CodeAt w' b a len := by
  refine ⟨h.1, ?_⟩
  rcases h.2 with h | ⟨k, off, e, hk, hc⟩
  · exact .inl h
  · refine .inr ⟨k, off, e, hk, fun i hi => ?_⟩
    obtain ⟨z, h1, h2⟩ := hc i hi
    exact ⟨z, (World.cell?_of_block (w := w) (a := ⟨k, off + i, none⟩) (s k hk)).trans h1, h2⟩

/-- The cursor stays where block b and those below it stay. -/
theorem Cu.below {b N : Nat} {w w' : World} (h : Cu b N w) {B : Nat} (hb : Below B w w') (hB : b < B) : Cu b N w' := by
  obtain ⟨a, len, cap, at_, seed, h0, h1, h2, r1, r2, r3, r4, hc⟩ := h.ex
  refine ⟨⟨a, len, cap, at_, seed, ?_, ?_, ?_, r1, r2, r3, r4, hc.of_eq fun k hk => hb.block k (by omega)⟩, fun o => ?_⟩
  · rw [hb.cell (p := ⟨b, 0, none⟩) hB]; exact h0
  · rw [hb.cell (p := ⟨b, 1, none⟩) hB]; exact h1
  · rw [hb.cell (p := ⟨b, 2, none⟩) hB]; exact h2
  · rw [hb.frozen (p := ⟨b, o, none⟩) hB]; exact h.fz o
theorem Cu.mono {b N M : Nat} {w : World} (h : Cu b N w) (hNM : N ≤ M) : Cu b M w := by
  obtain ⟨a, len, cap, at_, seed, h0, h1, h2, r1, r2, r⟩ := h.ex
  exact ⟨⟨a, len, cap, at_, seed, h0, h1, h2, r1, by omega, r⟩, h.fz⟩
theorem Cu.lt {b N : Nat} {w : World} (h : Cu b N w) : b < w.heap.size := by
  obtain ⟨a, len, cap, at_, seed, h0, _⟩ := h.ex
  exact World.block_lt_of_cell? _ _ h0

theorem conv_letter (v : Int) (h0 : 0 ≤ v) (h1 : v < 256) (wr : World) : (convert 22 9 (.slice (some ⟨wr.heap.size, 0, none⟩) 1 1)).run Tryz.prog (wr.alloc (.cells #[.int .u8 v] 5)) = .ok (.string ⟨[UInt8.ofNat v.toNat].toArray⟩) (wr.alloc (.cells #[.int .u8 v] 5)) :=
  run_convert_bytes_back (P := Tryz.prog) (wr.alloc (.cells #[.int .u8 v] 5)) 22 9 5 ⟨wr.heap.size, 0, none⟩ 1 [UInt8.ofNat v.toNat] Tryz.underlying22 Tryz.underlying5 Tryz.underlying9 (by
    intro j hj
    have : j = 0 := by simpa using hj
    subst this
    have e : ((UInt8.ofNat v.toNat).toNat : Int) = v := by rw [UInt8.toNat_ofNat']; omega
    have e2 : ([UInt8.ofNat v.toNat][0]'hj) = UInt8.ofNat v.toNat := rfl
    rw [e2, e]
    simp [Addr.add, go_sem])

def strOf : Value → ByteArray | .string s => s | _ => ByteArray.empty

set_option maxRecDepth 100000 in
set_option maxHeartbeats 1000000 in
theorem word_any (b N : Nat) (w : World) (h : Cu b N w) (hN : N ≤ 1099511620000) :
    Calls Tryz.prog 89 #[.pointer (some ⟨b, 0, none⟩)] w fun e w' => (∃ s : ByteArray, e = .returned (.string s) ∧ s.size ≤ 4000) ∧ Cu b (N + 4) w' ∧ Gr b w w' := by
  have H : Hid (Cu b N w) := h
  clear h
  go_enter Tryz.func89, Tryz.ntmps89
  go_wp2_with fail
  refine (pick_any b N 40 _ H.out (by omega) (by omega) (by omega)).mono ?_
  rintro e w1 ⟨⟨x, rfl, hx0, hx1⟩, hc1, hs1⟩
  by_cases x0 : x = 0
  · subst x0
    go_wp2_with fail
    go_loop [3] (fun t => ∃ s : ByteArray, t = .string s ∧ 10 ≤ s.size ∧ s.size < 8000) (fun t => 8000 - (strOf t).size)
    case atStart => exact ⟨_, rfl, by decide, by decide⟩
    case round =>
      obtain ⟨s, rfl, h1, h2⟩ := hrel
      by_cases hlt : s.size < 4000
      · have hl : ((s.size : Nat) : Int) < 4000 := by omega
        go_wp2_with fail
        go_round
        case rel => exact ⟨_, rfl, by simp; omega, by simp; omega⟩
        case measure => simp [strOf]; omega
      · have hl : (4000 : Int) ≤ ((s.size : Nat) : Int) := by omega
        go_wp2_with fail
        refine (pick_any b (N + 2) 2 _ hc1 (by omega) (by omega) (by omega)).mono ?_
        rintro e w2 ⟨⟨y, rfl, hy0, hy1⟩, hc2, hs2⟩
        go_wp2_with fail
        go_ret
        refine ⟨⟨_, rfl, ?_⟩, hc2, (hs1.trans hs2).gr⟩
        simp; omega
  have b0 : (x == 0) = false := by simp [x0]
  go_wp2_with fail
  refine (pick_any b (N + 2) 15 _ hc1 (by omega) (by omega) (by omega)).mono ?_
  rintro e w2 ⟨⟨y, rfl, hy0, hy1⟩, hc2, hs2⟩
  have hcv := conv_letter (97 + y) (by omega) (by omega) w2
  go_wp2_with fail
  go_ret
  have hb : Below w2.heap.size w2 (w2.alloc (.cells #[.int .u8 (97 + y)] 5)) := (Below.refl _ _).alloc (Nat.le_refl _) _
  exact ⟨⟨_, rfl, by simp [ByteArray.size]⟩, hc2.below hb hc2.lt, ((hs1.trans hs2).gr).trans (Gr.of_below hb)⟩

end Go.Proofs.YtglcaejddckleaaGreatDoor
namespace Go.Proofs.YtglcaejddckleaaGreatDoor
open Go.RowKit
set_option linter.unusedVariables false
attribute [local go_sem] run_store_float run_equalIn_float

set_option maxHeartbeats 1000000 in
theorem whole_any (b N : Nat) (w : World) (h : Cu b N w) (hN : N ≤ 1099511620000) :
    Calls Tryz.prog 91 #[.pointer (some ⟨b, 0, none⟩)] w fun e w' => (∃ z : Int, e = .returned (.int .i64 z)) ∧ Cu b (N + 4) w' ∧ Stc b w w' := by
  have H : Hid (Cu b N w) := h
  clear h
  go_enter Tryz.func91, Tryz.ntmps91
  go_wp2_with fail
  refine (pick_any b N 6 _ H.out (by omega) (by omega) (by omega)).mono ?_
  rintro e w1 ⟨⟨x, rfl, hx0, hx1⟩, hc1, hs1⟩
  by_cases x0 : x = 0
  · subst x0
    go_wp2_with fail
    refine (pick_any b (N + 2) 3 _ hc1 (by omega) (by omega) (by omega)).mono ?_
    rintro e w2 ⟨⟨y, rfl, hy0, hy1⟩, hc2, hs2⟩
    go_wp2_with fail
    go_ret
    exact ⟨⟨_, rfl⟩, hc2, hs1.trans hs2⟩
  have b0 : (x == 0) = false := by simp [x0]
  by_cases x1 : x = 1
  · subst x1
    go_wp2_with fail
    refine (pick_any b (N + 2) 3 _ hc1 (by omega) (by omega) (by omega)).mono ?_
    rintro e w2 ⟨⟨y, rfl, hy0, hy1⟩, hc2, hs2⟩
    go_wp2_with fail
    go_ret
    exact ⟨⟨_, rfl⟩, hc2, hs1.trans hs2⟩
  have b1 : (x == 1) = false := by simp [x1]
  by_cases x2 : x = 2
  · subst x2
    go_wp2_with fail
    refine (pick_any b (N + 2) 70000 _ hc1 (by omega) (by omega) (by omega)).mono ?_
    rintro e w2 ⟨⟨y, rfl, hy0, hy1⟩, hc2, hs2⟩
    go_wp2_with fail
    go_ret
    exact ⟨⟨_, rfl⟩, hc2, hs1.trans hs2⟩
  have b2 : (x == 2) = false := by simp [x2]
  go_wp2_with fail
  refine (pick_any b (N + 2) 12 _ hc1 (by omega) (by omega) (by omega)).mono ?_
  rintro e w2 ⟨⟨y, rfl, hy0, hy1⟩, hc2, hs2⟩
  go_wp2_with fail
  go_ret
  exact ⟨⟨_, rfl⟩, hc2, hs1.trans hs2⟩

/-- The bits of a double that is no zero below 0. -/
abbrev FOk (x : Nat) : Prop := x < 18446744073709551616 ∧ x ≠ 9223372036854775808
theorem div_nan : FloatKind.f64.format.div 0 0 = none := by decide
/-- 0 / 0: a NaN, whose bits the tape tells. -/
theorem nan_run (w : World) : ∃ r, (binOp .quo 28 (.float .f64 0) (.float .f64 0)).run Tryz.prog w = .ok (.float .f64 r) w.drew ∧ FOk r := by
  refine ⟨(Question.nanBits .f64 0 0).cut (w.tape w.drawn (.nanBits .f64 0 0)), ?_, ?_⟩
  · simp [binOp, Op.floatArith, div_nan, Question.forced]
  · unfold FOk; simp only [Question.cut]; omega

theorem div_one : floatBits .quo .f64 4607182418800017408 0 = some 9218868437227405312 := by decide
theorem div_mone : floatBits .quo .f64 13830554455654793216 0 = some 18442240474082181120 := by decide

set_option maxHeartbeats 400000 in
theorem l1flt_any (f : Nat) (w : World)  :
    Calls Tryz.prog 115 #[.float .f64 f] w fun e w' => e = .returned (V 3 0 f ⟨#[]⟩ 0) ∧ Below w.heap.size w w' := by
  go_enter Tryz.func115, Tryz.ntmps115
  go_wp2
  exact bodyPost_ret (v := V 3 0 f ⟨#[]⟩ 0) (by simp [results, go_sem]) rfl ⟨rfl, (Below.refl _ _).alloc (Nat.le_refl _) _⟩

set_option maxHeartbeats 400000 in
theorem l1str_any (s : ByteArray) (w : World)  :
    Calls Tryz.prog 88 #[.string s] w fun e w' => e = .returned (V 4 0 0 s 0) ∧ Below w.heap.size w w' := by
  go_enter Tryz.func88, Tryz.ntmps88
  go_wp2
  exact bodyPost_ret (v := V 4 0 0 s 0) (by simp [results, go_sem]) rfl ⟨rfl, (Below.refl _ _).alloc (Nat.le_refl _) _⟩

set_option maxHeartbeats 1000000 in
theorem flt_any (b N : Nat) (w : World) (h : Cu b N w) (hN : N ≤ 1099511620000) :
    Calls Tryz.prog 92 #[.pointer (some ⟨b, 0, none⟩)] w fun e w' => (∃ f : Nat, e = .returned (V 3 0 f ⟨#[]⟩ 0) ∧ FOk f) ∧ Cu b (N + 2) w' ∧ Gr b w w' := by
  have H : Hid (Cu b N w) := h
  have hbw := h.lt
  clear h
  have d1 : ∀ w : World, (binOp .quo 28 (.float .f64 4607182418800017408) (.float .f64 0)).run Tryz.prog w = .ok (.float .f64 9218868437227405312) w := fun w => run_float_arith w .quo 28 .f64 _ _ _ div_one
  have d2 : ∀ w : World, (binOp .quo 28 (.float .f64 13830554455654793216) (.float .f64 0)).run Tryz.prog w = .ok (.float .f64 18442240474082181120) w := fun w => run_float_arith w .quo 28 .f64 _ _ _ div_mone
  obtain ⟨r, d3, hr⟩ := nan_run (w.alloc (.cells #[.int .i64 0, .int .i64 0, .float .f64 0, .string ⟨#[]⟩, .int .i64 0] 30))
  go_enter Tryz.func92, Tryz.ntmps92
  go_wp2_with fail
  have hcu := H.out.below ((((Below.refl w.heap.size w).alloc (Nat.le_refl _) (.cells #[.int .i64 0, .int .i64 0, .float .f64 0, .string ⟨#[]⟩, .int .i64 0] 30)).alloc (by simp) (.cells #[.float .f64 4602678819172646912, .float .f64 4609434218613702656, .float .f64 4611686018427387904, .float .f64 13821547256400052224, .float .f64 9094988921128908188, .float .f64 4845873199050653696, .float .f64 14114281232179134464, .float .f64 4890909195324358656, .float .f64 9218868437227405312, .float .f64 18442240474082181120, .float .f64 r, .float .f64 0, .float .f64 4613937818241073152] 28)).drew) hbw
  refine (pick_any b N 13 _ hcu (by omega) (by omega) (by omega)).mono ?_
  rintro e w2 ⟨⟨x, rfl, hx0, hx1⟩, hc2, hs2⟩
  have n0 : ¬ w.heap.size = b := by omega
  have n1 : ¬ w.heap.size + 1 = b := by omega
  obtain ⟨g, hg, hg1⟩ : ∃ g : Nat, w2.cell? ⟨w.heap.size + 1, x.toNat, none⟩ = some (.float .f64 g) ∧ FOk g := by
    rw [hs2.cell _ _ n1]
    have hx : x = 0 ∨ x = 1 ∨ x = 2 ∨ x = 3 ∨ x = 4 ∨ x = 5 ∨ x = 6 ∨ x = 7 ∨ x = 8 ∨ x = 9 ∨ x = 10 ∨ x = 11 ∨ x = 12 := by omega
    rcases hx with rfl | rfl | rfl | rfl | rfl | rfl | rfl | rfl | rfl | rfl | rfl | rfl | rfl
    all_goals (refine ⟨_, by simp [go_sem]; rfl, by first | exact hr | decide⟩)
  have rc : ∀ o, w2.cell? ⟨w.heap.size, o, none⟩ = _ := fun o => hs2.cell w.heap.size o n0
  have rf : ∀ o, w2.frozen? ⟨w.heap.size, o, none⟩ = _ := fun o => hs2.frozen w.heap.size o n0
  have hz := hs2.size
  simp at hz
  have HS := hide hs2
  have HC := hide hc2
  clear hs2 hc2 hcu d1 d2 d3
  go_wp2_with (go_at_call 115; refine (l1flt_any g _).mono ?_; rintro e w3 ⟨rfl, hb3⟩; obtain ⟨hc3, hf3⟩ := bcell hb3; have hz3 := hb3.size; have hlt3 : w.heap.size < w2.heap.size := (by omega))
  have hT : Gr b w w2 := (Gr.of_below ((((Below.refl w.heap.size w).alloc (Nat.le_refl _) _).alloc (by simp) _).drew)).trans (unhide HS).gr
  have b3 := below_set5 (hb3.mono (Nat.le_of_lt hlt3)) w.heap.size (Nat.le_refl _) (.int .i64 3) (.int .i64 0) (.float .f64 g) (.string ⟨#[]⟩) (.int .i64 0)
  exact bodyPost_ret (v := V 3 0 g ⟨#[]⟩ 0) (by simp [results, Tryz.results92, go_sem, hc3, hlt3, rc]) rfl ⟨⟨g, rfl, hg1⟩, (unhide HC).below b3 hbw, hT.then_below b3 (by omega)⟩
end Go.Proofs.YtglcaejddckleaaGreatDoor
