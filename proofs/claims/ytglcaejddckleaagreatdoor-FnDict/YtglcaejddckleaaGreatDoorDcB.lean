/-
  Dicts: a dict copied by the model.
-/
import Derived.Test.YtglcaejddckleaaGreatDoorDcA
import Derived.Deep.RegionLaw
namespace Go.Proofs.YtglcaejddckleaaGreatDoor
open Go.RowKit
set_option linter.unusedVariables false
attribute [local go_sem] run_store_float run_equalIn_float

/-- The cells of n pairs. -/
def pL (f : Nat → Pr) : Nat → List Value
  | 0 => []
  | k + 1 => pL f k ++ prL (f k)
theorem pL_length (f : Nat → Pr) (n : Nat) : (pL f n).length = n * 11 := by
  induction n with
  | zero => rfl
  | succ n ih => simp [pL, ih, prL]; omega
theorem pL_get {f : Nat → Pr} {n i j : Nat} (hi : i < n) (hj : j < 11) : (pL f n)[i * 11 + j]? = (prL (f i))[j]? := by
  induction n with
  | zero => omega
  | succ n ih =>
    show (pL f n ++ prL (f n))[i * 11 + j]? = _
    by_cases h : i < n
    · rw [List.getElem?_append_left (by rw [pL_length]; omega), ih h]
    · have : i = n := by omega
      subst this
      rw [List.getElem?_append_right (by rw [pL_length]; omega), pL_length, show i * 11 + j - i * 11 = j by omega]
/-- The cells of n ints. -/
def iL (f : Nat → Int) : Nat → List Value
  | 0 => []
  | k + 1 => iL f k ++ [.int .i64 (f k)]
theorem iL_length (f : Nat → Int) (n : Nat) : (iL f n).length = n := by
  induction n with
  | zero => rfl
  | succ n ih => simp [iL, ih]
theorem iL_get {f : Nat → Int} {n i : Nat} (hi : i < n) : (iL f n)[i]? = some (.int .i64 (f i)) := by
  induction n with
  | zero => omega
  | succ n ih =>
    show (iL f n ++ [.int .i64 (f n)])[i]? = _
    by_cases h : i < n
    · rw [List.getElem?_append_left (by rw [iL_length]; omega), ih h]
    · have : i = n := by omega
      subst this
      rw [List.getElem?_append_right (by rw [iL_length]; omega), iL_length]
      simp

abbrev POwn (w : World) (base : Nat) (v : Value) (n : Nat) (f : Nat → Pr) : Prop := w.ownsRow base 43 11 v n (pL f n)
abbrev IOwn (w : World) (base : Nat) (v : Value) (n : Nat) (f : Nat → Int) : Prop := w.ownsRow base 3 1 v n (iL f n)

theorem POwn.at {w : World} {base : Nat} {v : Value} {n : Nat} {f : Nat → Pr} (h : POwn w base v n f) : ∃ a cp, v = .slice a n cp ∧ PAt w a n f := by
  have h' := h
  obtain ⟨hl, ⟨hv, h0⟩ | ⟨g, cap, cur, hv, hb, hblk, h1, h2, h3, h4⟩⟩ := h'
  · subst hv h0
    exact ⟨none, 0, rfl, .inl rfl⟩
  · subst hv
    refine ⟨_, _, rfl, .inr ⟨g, 0, rfl, (h.lt g rfl).2, fun i hi => PCell.of fun j u hu => ?_⟩⟩
    have hj : j < 11 := by
      have := (List.getElem?_eq_some_iff.1 hu).1
      simpa [prL] using this
    rw [Nat.zero_add, World.ownsRow.cellAt h _ (by omega), pL_get hi hj, hu]
theorem IOwn.at {w : World} {base : Nat} {v : Value} {n : Nat} {f : Nat → Int} (h : IOwn w base v n f) : ∃ a cp, v = .slice a n cp ∧ IAt w a n f := by
  have h' := h
  obtain ⟨hl, ⟨hv, h0⟩ | ⟨g, cap, cur, hv, hb, hblk, h1, h2, h3, h4⟩⟩ := h'
  · subst hv h0
    exact ⟨none, 0, rfl, .inl rfl⟩
  · subst hv
    refine ⟨_, _, rfl, .inr ⟨g, 0, rfl, (h.lt g rfl).2, fun i hi => ?_⟩⟩
    rw [Nat.zero_add, World.ownsRow.cellAt h _ (by omega), iL_get hi]

abbrev PZ : Value := .agg #[.int .i64 0, .int .i64 0, .float .f64 0, .string ⟨#[]⟩, .int .i64 0, .int .i64 0, .int .i64 0, .float .f64 0, .string ⟨#[]⟩, .int .i64 0, .int .i64 0]
theorem infoPair : (Tryz.prog.info? 43).map (fun i => (i.zero, i.size, i.bytes)) = some (some PZ, 11, 104) := by kernel_rfl
theorem infoInt : (Tryz.prog.info? 3).map (fun i => (i.zero, i.size, i.bytes)) = some (some (.int .i64 0), 1, 8) := by kernel_rfl
theorem prL_one (p : Pr) : ∀ u ∈ prL p, u.oneCell' = true := by
  intro u hu
  simp only [prL, List.mem_cons, List.not_mem_nil, or_false] at hu
  rcases hu with rfl | rfl | rfl | rfl | rfl | rfl | rfl | rfl | rfl | rfl | rfl <;> rfl

/-- Between two rounds of the copying. -/
structure Cp (w wr : World) (ia : Option Addr) (ic : Nat) (xa : Option Addr) (xc : Nat) (d : Dc) (v0 v1 v2 : Value) : Prop where
  below : Below w.heap.size w wr
  sz : w.heap.size + 2 ≤ wr.heap.size
  a1 : wr.cell? ⟨w.heap.size, 1, none⟩ = some (.slice ia d.m ic)
  a2 : wr.cell? ⟨w.heap.size, 2, none⟩ = some (.slice xa d.x xc)
  b0 : wr.cell? ⟨w.heap.size + 1, 0, none⟩ = some v0
  b1 : wr.cell? ⟨w.heap.size + 1, 1, none⟩ = some v1
  b2 : wr.cell? ⟨w.heap.size + 1, 2, none⟩ = some v2
  b3 : wr.cell? ⟨w.heap.size + 1, 3, none⟩ = some (.int .i64 d.used)
  b4 : wr.cell? ⟨w.heap.size + 1, 4, none⟩ = some (.int .i64 d.live)
  b5 : wr.cell? ⟨w.heap.size + 1, 5, none⟩ = some (.int .i64 d.turns)
  fz : ∀ q, wr.frozen? ⟨w.heap.size + 1, q, none⟩ = false

theorem Cp.same {w wr w1 : World} {ia xa : Option Addr} {ic xc : Nat} {d : Dc} {v0 v1 v2 : Value} (h : Cp w wr ia ic xa xc d v0 v1 v2) (hb : Below (w.heap.size + 2) wr w1) : Cp w w1 ia ic xa xc d v0 v1 v2 := by
  have e : ∀ q o, q < w.heap.size + 2 → w1.cell? ⟨q, o, none⟩ = wr.cell? ⟨q, o, none⟩ := fun q o hq => hb.cell (p := ⟨q, o, none⟩) hq
  have e' : ∀ q o, q < w.heap.size + 2 → w1.frozen? ⟨q, o, none⟩ = wr.frozen? ⟨q, o, none⟩ := fun q o hq => hb.frozen (p := ⟨q, o, none⟩) hq
  exact ⟨h.below.trans (hb.mono (by omega)), Nat.le_trans h.sz hb.size, (e _ _ (by omega)).trans h.a1, (e _ _ (by omega)).trans h.a2, (e _ _ (by omega)).trans h.b0, (e _ _ (by omega)).trans h.b1, (e _ _ (by omega)).trans h.b2, (e _ _ (by omega)).trans h.b3, (e _ _ (by omega)).trans h.b4, (e _ _ (by omega)).trans h.b5, fun q => (e' _ _ (by omega)).trans (h.fz q)⟩

theorem cell_set_other {w : World} {b o o' : Nat} {v : Value} (h : o ≠ o') : (w.setCell ⟨b, o, none⟩ v).cell? ⟨b, o', none⟩ = w.cell? ⟨b, o', none⟩ := by
  apply World.cell?_setCell_other
  intro e
  cases e
  exact h rfl
theorem cell_set_block {w : World} {b b' o o' : Nat} {v : Value} (h : b ≠ b') : (w.setCell ⟨b, o, none⟩ v).cell? ⟨b', o', none⟩ = w.cell? ⟨b', o', none⟩ := by
  apply World.cell?_setCell_other
  intro e
  cases e
  exact h rfl

theorem Cp.set0 {w wr : World} {ia xa : Option Addr} {ic xc : Nat} {d : Dc} {v0 v1 v2 : Value} (h : Cp w wr ia ic xa xc d v0 v1 v2) (u : Value) : Cp w (wr.setCell ⟨w.heap.size + 1, 0, none⟩ u) ia ic xa xc d u v1 v2 :=
  ⟨h.below.setCell (by show _ ≤ w.heap.size + 1; omega) _, by simpa using h.sz, (cell_set_block (by omega)).trans h.a1, (cell_set_block (by omega)).trans h.a2, World.cell?_setCell_same' _ _ _ (by rw [h.b0]; rfl), (cell_set_other (by omega)).trans h.b1, (cell_set_other (by omega)).trans h.b2, (cell_set_other (by omega)).trans h.b3, (cell_set_other (by omega)).trans h.b4, (cell_set_other (by omega)).trans h.b5, fun q => by rw [World.frozen?_setCell]; exact h.fz q⟩
theorem Cp.set1 {w wr : World} {ia xa : Option Addr} {ic xc : Nat} {d : Dc} {v0 v1 v2 : Value} (h : Cp w wr ia ic xa xc d v0 v1 v2) (u : Value) : Cp w (wr.setCell ⟨w.heap.size + 1, 1, none⟩ u) ia ic xa xc d v0 u v2 :=
  ⟨h.below.setCell (by show _ ≤ w.heap.size + 1; omega) _, by simpa using h.sz, (cell_set_block (by omega)).trans h.a1, (cell_set_block (by omega)).trans h.a2, (cell_set_other (by omega)).trans h.b0, World.cell?_setCell_same' _ _ _ (by rw [h.b1]; rfl), (cell_set_other (by omega)).trans h.b2, (cell_set_other (by omega)).trans h.b3, (cell_set_other (by omega)).trans h.b4, (cell_set_other (by omega)).trans h.b5, fun q => by rw [World.frozen?_setCell]; exact h.fz q⟩
theorem Cp.set2 {w wr : World} {ia xa : Option Addr} {ic xc : Nat} {d : Dc} {v0 v1 v2 : Value} (h : Cp w wr ia ic xa xc d v0 v1 v2) (u : Value) : Cp w (wr.setCell ⟨w.heap.size + 1, 2, none⟩ u) ia ic xa xc d v0 v1 u :=
  ⟨h.below.setCell (by show _ ≤ w.heap.size + 1; omega) _, by simpa using h.sz, (cell_set_block (by omega)).trans h.a1, (cell_set_block (by omega)).trans h.a2, (cell_set_other (by omega)).trans h.b0, (cell_set_other (by omega)).trans h.b1, World.cell?_setCell_same' _ _ _ (by rw [h.b2]; rfl), (cell_set_other (by omega)).trans h.b3, (cell_set_other (by omega)).trans h.b4, (cell_set_other (by omega)).trans h.b5, fun q => by rw [World.frozen?_setCell]; exact h.fz q⟩

theorem grown_setCell (w : World) (a : Addr) (v : Value) : w.grownBy (w.setCell a v) (some a.block) := ⟨rfl, rfl, rfl, by simp, fun k _ hne => Deep.blk_setCell_other _ _ _ _ (fun e => hne (by rw [e]))⟩
theorem grown_below {w w' : World} {v : Value} {B : Nat} (hgr : w.grownBy w' v.ownBlock) (hlt : ∀ q, v.ownBlock = some q → B ≤ q) (hB : B ≤ w.heap.size) : Below B w w' :=
  ⟨hgr.os, hgr.tape, hgr.output, hgr.size, fun k hk => hgr.block k (by omega) (fun e => by have := hlt k e.symm; omega)⟩

theorem own_mono {w : World} {base base' e size : Nat} {v : Value} {n : Nat} {xs : List Value} (h : w.ownsRow base e size v n xs) (hb : base' ≤ base) : w.ownsRow base' e size v n xs := by
  obtain ⟨hl, h | ⟨g, cap, cur, h1, h2, h3⟩⟩ := h
  · exact ⟨hl, .inl h⟩
  · exact ⟨hl, .inr ⟨g, cap, cur, h1, Nat.le_trans hb h2, h3⟩⟩
theorem own_block {w w' : World} {base e size : Nat} {v : Value} {n : Nat} {xs : List Value} (h : w.ownsRow base e size v n xs) (hs : w.heap.size ≤ w'.heap.size) (hq : ∀ q, base ≤ q → q < w.heap.size → w'.heap[q]? = w.heap[q]?) : w'.ownsRow base e size v n xs := by
  obtain ⟨hl, h | ⟨g, cap, cur, h1, h2, h3, h4⟩⟩ := h
  · exact ⟨hl, .inl h⟩
  · exact ⟨hl, .inr ⟨g, cap, cur, h1, h2, (hq g h2 (Array.getElem?_eq_some_iff.1 h3).1).trans h3, h4⟩⟩

/-- A pointer to a dict whose rows are its own: they lie behind it. -/
structure DOwn (w : World) (c : Nat) (v0 v1 v2 : Value) (d : Dc) : Prop where
  sz : c + 1 ≤ w.heap.size
  c0 : w.cell? ⟨c, 0, none⟩ = some v0
  c1 : w.cell? ⟨c, 1, none⟩ = some v1
  c2 : w.cell? ⟨c, 2, none⟩ = some v2
  c3 : w.cell? ⟨c, 3, none⟩ = some (.int .i64 d.used)
  c4 : w.cell? ⟨c, 4, none⟩ = some (.int .i64 d.live)
  c5 : w.cell? ⟨c, 5, none⟩ = some (.int .i64 d.turns)
  fz : ∀ q, w.frozen? ⟨c, q, none⟩ = false
  log : POwn w (c + 1) v0 d.n d.L
  ints : IOwn w (c + 1) v1 d.m d.I
  index : IOwn w (c + 1) v2 d.x d.X
  ap : ∀ q, v1.ownBlock = some q → v2.ownBlock ≠ some q
theorem DOwn.ptr {w : World} {c : Nat} {v0 v1 v2 : Value} {d : Dc} (h : DOwn w c v0 v1 v2 d) : ∃ la lc ia ic xa xc, v0 = .slice la d.n lc ∧ v1 = .slice ia d.m ic ∧ v2 = .slice xa d.x xc ∧ DPtr w c 0 la lc ia ic xa xc d := by
  obtain ⟨la, lc, e0, hL⟩ := h.log.at
  obtain ⟨ia, ic, e1, hI⟩ := h.ints.at
  obtain ⟨xa, xc, e2, hX⟩ := h.index.at
  subst e0 e1 e2
  exact ⟨la, lc, ia, ic, xa, xc, rfl, rfl, rfl, h.sz, h.c0, h.c1, h.c2, h.c3, h.c4, h.c5, hL, hI, hX⟩

set_option maxRecDepth 100000 in
set_option maxHeartbeats 2000000 in
theorem l1copy_any (la : Option Addr) (lc : Nat) (ia : Option Addr) (ic : Nat) (xa : Option Addr) (xc : Nat) (d : Dc) (w : World) (hD : DAt w la ia xa d) (hS : Small d) :
    Calls Tryz.prog 65 #[Dv la lc ia ic xa xc d] w fun e w' => (∃ c v v' v'', e = .returned (.pointer (some ⟨c, 0, none⟩)) ∧ c = w.heap.size + 1 ∧ DOwn w' c v v' v'' d) ∧ Below w.heap.size w w' := by
  obtain ⟨i0, hi, hz0, hz1, hz2⟩ := info_parts infoPair
  obtain ⟨j0, ji, jz0, jz1, jz2⟩ := info_parts infoInt
  obtain ⟨hn, hm, hx⟩ := hS
  obtain ⟨hL, hI, hX⟩ := hD
  have HL := hide hL
  have HI := hide hI
  have HX := hide hX
  clear hL hI hX
  have hb0 : Below w.heap.size w ((w.alloc (.cells #[.slice la d.n lc, .slice ia d.m ic, .slice xa d.x xc, .int .i64 d.used, .int .i64 d.live, .int .i64 d.turns] 26)).alloc (.cells #[.slice none 0 0, .slice none 0 0, .slice none 0 0, .int .i64 d.used, .int .i64 d.live, .int .i64 d.turns] 26)) := ((Below.refl _ _).alloc (Nat.le_refl _) _).alloc (by simp) _
  have HC0 : Hid (Cp w ((w.alloc (.cells #[.slice la d.n lc, .slice ia d.m ic, .slice xa d.x xc, .int .i64 d.used, .int .i64 d.live, .int .i64 d.turns] 26)).alloc (.cells #[.slice none 0 0, .slice none 0 0, .slice none 0 0, .int .i64 d.used, .int .i64 d.live, .int .i64 d.turns] 26)) ia ic xa xc d (.slice none 0 0) (.slice none 0 0) (.slice none 0 0)) :=
    hide ⟨hb0, by simp, by simp [go_sem], by simp [go_sem], by simp [go_sem], by simp [go_sem], by simp [go_sem], by simp [go_sem], by simp [go_sem], by simp [go_sem], fun q => by simp [go_sem]⟩
  clear hb0
  go_enter Tryz.func65, Tryz.ntmps65
  go_wp2
  go_loopw [21] (fun i wr => ∃ (k : Nat) (v : Value), k ≤ d.n ∧ i = .int .i64 k ∧ Cp w wr ia ic xa xc d v (.slice none 0 0) (.slice none 0 0) ∧ POwn wr (w.heap.size + 2) v k d.L) (fun i _ => d.n - (intOf i).toNat)
  case atStart => exact ⟨0, .slice none 0 0, by omega, rfl, unhide HC0, World.ownsRow_nil _ _ _ _⟩
  case round =>
    clear HC0
    obtain ⟨k, v, hk, rfl, hc, ho⟩ := hrel
    by_cases hkn : k < d.n
    · obtain ⟨b, off, rfl, hlt, hcs⟩ := (unhide HL).resolve_left (by omega)
      obtain ⟨e0, e1, e2, e3, e4, e5, e6, e7, e8, e9, e10⟩ := (hcs k hkn).keep (fun q => hc.below.cell (p := ⟨b, q, none⟩) hlt)
      have HC := hide hc
      have HO := hide ho
      clear hcs hc ho
      go_wp2_with fail
      obtain ⟨W, hW⟩ : ∃ W, W = wr.alloc (.cells #[.int .i64 (d.L k).key.kind, .int .i64 (d.L k).key.num, .float .f64 (d.L k).key.flt, .string (d.L k).key.str, .int .i64 (d.L k).key.ref, .int .i64 (d.L k).val.kind, .int .i64 (d.L k).val.num, .float .f64 (d.L k).val.flt, .string (d.L k).val.str, .int .i64 (d.L k).val.ref, .int .i64 (d.L k).turn] 43) := ⟨_, rfl⟩
      rw [← hW]
      have x0 : W.cell? ⟨w.heap.size + 1, 0, none⟩ = some v := by rw [hW]; exact (World.cell?_alloc_lt _ _ _ (by have := (unhide HC).sz; show w.heap.size + 1 < _; omega)).trans (unhide HC).b0
      have hsz := (unhide HC).sz
      have hzW : W.heap.size = wr.heap.size + 1 := by rw [hW]; simp
      have hlt2 := (unhide HO).lt
      have HOW : Hid (POwn W.drew (w.heap.size + 2) v k d.L) := hide (by rw [hW]; exact ((unhide HO).alloc _).drew)
      have HCW : Hid (Cp w W ia ic xa xc d v (.slice none 0 0) (.slice none 0 0)) := hide (by rw [hW]; exact (unhide HC).same ((Below.refl _ _).alloc (by omega) _))
      have y0 : W.cell? ⟨wr.heap.size, 0, none⟩ = some (.int .i64 (d.L k).key.kind) := by rw [hW]; simp [go_sem]
      have y1 : W.cell? ⟨wr.heap.size, 1, none⟩ = some (.int .i64 (d.L k).key.num) := by rw [hW]; simp [go_sem]
      have y2 : W.cell? ⟨wr.heap.size, 2, none⟩ = some (.float .f64 (d.L k).key.flt) := by rw [hW]; simp [go_sem]
      have y3 : W.cell? ⟨wr.heap.size, 3, none⟩ = some (.string (d.L k).key.str) := by rw [hW]; simp [go_sem]
      have y4 : W.cell? ⟨wr.heap.size, 4, none⟩ = some (.int .i64 (d.L k).key.ref) := by rw [hW]; simp [go_sem]
      have y5 : W.cell? ⟨wr.heap.size, 5, none⟩ = some (.int .i64 (d.L k).val.kind) := by rw [hW]; simp [go_sem]
      have y6 : W.cell? ⟨wr.heap.size, 6, none⟩ = some (.int .i64 (d.L k).val.num) := by rw [hW]; simp [go_sem]
      have y7 : W.cell? ⟨wr.heap.size, 7, none⟩ = some (.float .f64 (d.L k).val.flt) := by rw [hW]; simp [go_sem]
      have y8 : W.cell? ⟨wr.heap.size, 8, none⟩ = some (.string (d.L k).val.str) := by rw [hW]; simp [go_sem]
      have y9 : W.cell? ⟨wr.heap.size, 9, none⟩ = some (.int .i64 (d.L k).val.ref) := by rw [hW]; simp [go_sem]
      have y10 : W.cell? ⟨wr.heap.size, 10, none⟩ = some (.int .i64 (d.L k).turn) := by rw [hW]; simp [go_sem]
      clear hW HC HO e0 e1 e2 e3 e4 e5 e6 e7 e8 e9 e10
      have hws : w.heap.size + 2 ≤ W.heap.size := by omega
      have hw1 : w.heap.size + 1 < W.heap.size := by omega
      have HZW := hide hzW
      have HSZ := hide hsz
      have HLT := hide hlt2
      clear hzW hsz hlt2
      go_region_law (refine step_append_lies _ rfl (.tmp 29) (.tmp 31) 23 rfl (w.heap.size + 2) 43 i0 PZ 11 104 Tryz.underlying23 hi hz0 hz1 hz2 rfl (by decide) v k (pL d.L k) (by simp [Act.eval]) ((unhide HOW).alloc _) ⟨W.heap.size, 0, none⟩ 1 1 (prL (d.L k)) (by simp [Act.eval]) rfl (World.news_of_block (Deep.blk_alloc_new _ _)) (prL_one _) (by decide) (by unfold maxLen; omega) (by omega) (by simp; omega) _ rfl ?_; intro g3 cp3 w3 hown3 hgr3 hloc3 hlt3; have HC3 := hide ((unhide HCW).same (((Below.refl (w.heap.size + 2) W).drew.alloc (by simp; omega) _).trans (grown_below hgr3 (fun q e => (unhide HLT q e).1) (by simp; omega)))); have x3 := (unhide HC3).b0; have f3 := (unhide HC3).fz 0; have HO3 := hide hown3; clear hown3 hgr3)
      all_goals
        have hg3 := ((unhide HO3).lt g3 rfl).1
        have hown : POwn (w3.setCell ⟨w.heap.size + 1, 0, none⟩ (.slice (some ⟨g3, 0, none⟩) (k + 1) cp3)) (w.heap.size + 2) (.slice (some ⟨g3, 0, none⟩) (k + 1) cp3) (k + 1) d.L := World.ownsRow.kept (unhide HO3) (grown_setCell w3 _ _) (.inr (by simp [Value.ownBlock]; omega))
        have HOn := hide hown
        clear hown
        go_wp2
        go_roundw
        case rel => exact ⟨k + 1, .slice (some ⟨g3, 0, none⟩) (k + 1) cp3, by omega, by go_num, (unhide HC3).set0 _, unhide HOn⟩
        case measure => simp [intOf]; omega
    have hkn' : k = d.n := by omega
    subst hkn'
    have HC := hide hc
    have HP := hide ho
    have q1 := hc.a1
    have hu1 := hc.sz
    obtain ⟨u1, hu⟩ : ∃ u, u = wr := ⟨_, rfl⟩
    rw [← hu] at HC HP q1 hu1 ⊢
    clear hc ho hk hkn hu
    go_wp2
    go_loopw [39] (fun i wr => ∃ (k : Nat) (v' : Value), k ≤ d.m ∧ i = .int .i64 k ∧ Cp w wr ia ic xa xc d v v' (.slice none 0 0) ∧ IOwn wr u1.heap.size v' k d.I ∧ u1.heap.size ≤ wr.heap.size ∧ ∀ q, w.heap.size + 2 ≤ q → q < u1.heap.size → wr.heap[q]? = u1.heap[q]?) (fun i _ => d.m - (intOf i).toNat)
    case atStart => exact ⟨0, .slice none 0 0, by omega, rfl, unhide HC, World.ownsRow_nil _ _ _ _, Nat.le_refl _, fun _ _ _ => rfl⟩
    case round =>
      clear HC q1
      obtain ⟨k, v', hk, rfl, hc, ho, hsz, hkeep⟩ := hrel
      by_cases hkn : k < d.m
      · obtain ⟨b, off, rfl, hlt, hcs⟩ := (unhide HI).resolve_left (by omega)
        have e0 := (hc.below.cell (p := ⟨b, off + k, none⟩) hlt).trans (hcs k hkn)
        have x0 := hc.b1
        have hws := hc.sz
        have hw1 : w.heap.size + 1 < wr.heap.size := by omega
        have HLT := hide ho.lt
        have HC := hide hc
        have HO := hide ho
        have HK := hide hkeep
        clear hcs hc ho hkeep
        go_wp2_with (first | (at_builtin; refine wpList_append_lies _ rfl _ _ 24 rfl u1.heap.size 3 j0 (.int .i64 0) 1 8 Tryz.underlying24 ji jz0 jz1 jz2 rfl (by decide) v' k (iL d.I k) rfl ((unhide HO).alloc _) ⟨wr.heap.size, 0, none⟩ 1 1 [.int .i64 (d.I k)] rfl rfl (World.news_of_block (Deep.blk_alloc_new _ _)) (by simp [Value.oneCell']) (by decide) (by unfold maxLen; omega) (by omega) (by simp; omega) _ rfl ?_; intro g3 cp3 w3 hown3 hgr3 hloc3 hlt3; have HG3 := hide (((Below.refl u1.heap.size wr).alloc hsz _).trans (grown_below hgr3 (fun q e => (unhide HLT q e).1) (by simp; omega))); have HC3 := hide ((unhide HC).same ((unhide HG3).mono hu1)); have x3 := (unhide HC3).b1; have f3 := (unhide HC3).fz 1; have HO3 := hide hown3; clear hown3 hgr3) | go_in)
        have hg3 := ((unhide HO3).lt g3 rfl).1
        have hown : IOwn (w3.setCell ⟨w.heap.size + 1, 1, none⟩ (.slice (some ⟨g3, 0, none⟩) (k + 1) cp3)) u1.heap.size (.slice (some ⟨g3, 0, none⟩) (k + 1) cp3) (k + 1) d.I := World.ownsRow.kept (unhide HO3) (grown_setCell w3 _ _) (.inr (by simp [Value.ownBlock]; omega))
        have HOn := hide hown
        clear hown
        go_roundw
        case rel => exact ⟨k + 1, .slice (some ⟨g3, 0, none⟩) (k + 1) cp3, by omega, by go_num, (unhide HC3).set1 _, unhide HOn, by have := (unhide HG3).size; simp; omega, fun q h1 h2 => (Deep.blk_setCell_other _ _ _ _ (by show q ≠ w.heap.size + 1; omega)).trans (((unhide HG3).block q h2).trans (unhide HK q h1 h2))⟩
        case measure => simp [intOf]; omega
      have hkn' : k = d.m := by omega
      subst hkn'
      have HP2 := hide (own_block (unhide HP) hsz hkeep)
      have HQ := hide (own_mono ho hu1)
      have HC := hide hc
      have q1 := hc.a2
      have hu2 := hc.sz
      obtain ⟨u2, hu⟩ : ∃ u, u = wr := ⟨_, rfl⟩
      rw [← hu] at HC HP2 HQ q1 hu2 ⊢
      clear hc ho hk hkn hu hsz hkeep HP hu1 
      go_wp2
      go_loopw [57] (fun i wr => ∃ (k : Nat) (v'' : Value), k ≤ d.x ∧ i = .int .i64 k ∧ Cp w wr ia ic xa xc d v v' v'' ∧ IOwn wr u2.heap.size v'' k d.X ∧ u2.heap.size ≤ wr.heap.size ∧ ∀ q, w.heap.size + 2 ≤ q → q < u2.heap.size → wr.heap[q]? = u2.heap[q]?) (fun i _ => d.x - (intOf i).toNat)
      case atStart => exact ⟨0, .slice none 0 0, by omega, rfl, unhide HC, World.ownsRow_nil _ _ _ _, Nat.le_refl _, fun _ _ _ => rfl⟩
      case round =>
        clear HC q1
        obtain ⟨k, v'', hk, rfl, hc, ho, hsz, hkeep⟩ := hrel
        by_cases hkn : k < d.x
        · obtain ⟨b, off, rfl, hlt, hcs⟩ := (unhide HX).resolve_left (by omega)
          have e0 := (hc.below.cell (p := ⟨b, off + k, none⟩) hlt).trans (hcs k hkn)
          have x0 := hc.b2
          have hws := hc.sz
          have hw1 : w.heap.size + 1 < wr.heap.size := by omega
          have HLT := hide ho.lt
          have HC := hide hc
          have HO := hide ho
          have HK := hide hkeep
          clear hcs hc ho hkeep
          go_wp2_with (first | (at_builtin; refine wpList_append_lies _ rfl _ _ 24 rfl u2.heap.size 3 j0 (.int .i64 0) 1 8 Tryz.underlying24 ji jz0 jz1 jz2 rfl (by decide) v'' k (iL d.X k) rfl ((unhide HO).alloc _) ⟨wr.heap.size, 0, none⟩ 1 1 [.int .i64 (d.X k)] rfl rfl (World.news_of_block (Deep.blk_alloc_new _ _)) (by simp [Value.oneCell']) (by decide) (by unfold maxLen; omega) (by omega) (by simp; omega) _ rfl ?_; intro g3 cp3 w3 hown3 hgr3 hloc3 hlt3; have HG3 := hide (((Below.refl u2.heap.size wr).alloc hsz _).trans (grown_below hgr3 (fun q e => (unhide HLT q e).1) (by simp; omega))); have HC3 := hide ((unhide HC).same ((unhide HG3).mono hu2)); have x3 := (unhide HC3).b2; have f3 := (unhide HC3).fz 2; have HO3 := hide hown3; clear hown3 hgr3) | go_in)
          have hg3 := ((unhide HO3).lt g3 rfl).1
          have hown : IOwn (w3.setCell ⟨w.heap.size + 1, 2, none⟩ (.slice (some ⟨g3, 0, none⟩) (k + 1) cp3)) u2.heap.size (.slice (some ⟨g3, 0, none⟩) (k + 1) cp3) (k + 1) d.X := World.ownsRow.kept (unhide HO3) (grown_setCell w3 _ _) (.inr (by simp [Value.ownBlock]; omega))
          have HOn := hide hown
          clear hown
          go_roundw
          case rel => exact ⟨k + 1, .slice (some ⟨g3, 0, none⟩) (k + 1) cp3, by omega, by go_num, (unhide HC3).set2 _, unhide HOn, by have := (unhide HG3).size; simp; omega, fun q h1 h2 => (Deep.blk_setCell_other _ _ _ _ (by show q ≠ w.heap.size + 1; omega)).trans (((unhide HG3).block q h2).trans (unhide HK q h1 h2))⟩
          case measure => simp [intOf]; omega
        have hkn' : k = d.x := by omega
        subst hkn'
        have hP3 := own_block (unhide HP2) hsz hkeep
        have hQ3 := own_block (unhide HQ) hsz hkeep
        have hX3 := own_mono ho hu2
        have HAP : Hid (∀ q, v'.ownBlock = some q → v''.ownBlock ≠ some q) := hide (fun q e e' => by have h1 := ((unhide HQ).lt q e).2; have h2 := (ho.lt q e').1; omega)
        have HALL := hide (⟨hc, hP3, hQ3, hX3⟩ : Cp w wr ia ic xa xc d v v' v'' ∧ POwn wr (w.heap.size + 2) v d.n d.L ∧ IOwn wr (w.heap.size + 2) v' d.m d.I ∧ IOwn wr (w.heap.size + 2) v'' d.x d.X)
        clear hc ho hk hkn hsz hkeep HP2 HQ hu2 hP3 hQ3 hX3
        go_wp2
        go_ret
        obtain ⟨hc, hP, hQ, hX⟩ := unhide HALL
        exact ⟨⟨_, v, v', v'', rfl, rfl, hc.sz, hc.b0, hc.b1, hc.b2, hc.b3, hc.b4, hc.b5, hc.fz, hP, hQ, hX, unhide HAP⟩, hc.below⟩
end Go.Proofs.YtglcaejddckleaaGreatDoor
