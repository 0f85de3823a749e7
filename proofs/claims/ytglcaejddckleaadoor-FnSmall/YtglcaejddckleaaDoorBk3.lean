/-
  DtQ, DtS, DtT, DtU, DtV in one text.
-/
import Derived.Test.YtglcaejddckleaaDoorBk2
namespace Go.Proofs.YtglcaejddckleaaDoor
open Go.RowKit
set_option linter.unusedVariables false

section
variable {w w3 : World} {bk : Nat} {r0 r1 : Value} {R2 : Nat} {E S : Nat → Nat} {d : Dc}
/-- The log is grown by one. -/
theorem BMut.pushL (h : BMut w bk r0 r1 R2 E S d) {W : World} (hW : Below w.heap.size w W) {g3 cp3 : Nat} (he : ECell w (E d.n) (d.L d.n) d.n) (heb : bk < E d.n) (hin : ∀ i, i < d.n → E i ≠ E d.n) (h1 : w3.ownsRow (bk + 1) tEnt 1 (.slice (some ⟨g3, 0, none⟩) (d.n + 1) cp3) (d.n + 1) (ptL (fun i => some ⟨E i, 0, none⟩) d.n ++ [.pointer (some ⟨E d.n, 0, none⟩)])) (hg : W.grownBy w3 r0.ownBlock) (hl : r0.ownBlock = some g3 ∨ w.heap.size ≤ g3) :
    BMut (w3.setCell ⟨bk, 0, none⟩ (.slice (some ⟨g3, 0, none⟩) (d.n + 1) cp3)) bk (.slice (some ⟨g3, 0, none⟩) (d.n + 1) cp3) r1 R2 E S { d with n := d.n + 1 } ∧ Below bk w (w3.setCell ⟨bk, 0, none⟩ (.slice (some ⟨g3, 0, none⟩) (d.n + 1) cp3)) := by
  have hlt := h.lt
  have hwz := hW.size
  have hz : w.heap.size ≤ w3.heap.size := Nat.le_trans hwz hg.size
  have hB : ∀ b, b < w.heap.size → r0.ownBlock ≠ some b → w3.heap[b]? = w.heap[b]? := fun b hb he => (hg.block b (by omega) (fun e => he e.symm)).trans (hW.block b hb)
  have hbk : r0.ownBlock ≠ some bk := fun e => by have := (h.log.lt bk e).1; omega
  have os : ∀ b, b ≠ bk → (w3.setCell ⟨bk, 0, none⟩ (.slice (some ⟨g3, 0, none⟩) (d.n + 1) cp3)).heap[b]? = w3.heap[b]? := fun b hb => Deep.blk_setCell_other _ _ _ _ (by exact hb)
  have hc : ∀ q, w3.cell? ⟨bk, q, none⟩ = w.cell? ⟨bk, q, none⟩ := fun q => World.cell?_of_block (a := ⟨bk, q, none⟩) (hB bk hlt hbk)
  have ho : ∀ q, q ≠ 0 → (w3.setCell ⟨bk, 0, none⟩ (.slice (some ⟨g3, 0, none⟩) (d.n + 1) cp3)).cell? ⟨bk, q, none⟩ = w.cell? ⟨bk, q, none⟩ := fun q hq => (cell_set_other (fun e => hq e.symm)).trans (hc q)
  have ty : ∀ {t : TypeId} {c : Array Value} {b : Nat}, w.heap[b]? = some (.cells c t (0, 0)) → t ≠ tEnt → r0.ownBlock ≠ some b := fun {t c b} hb ht e => by
    obtain ⟨c', hb'⟩ := h.log.block e
    exact type_apart hb hb' ht
  have hg3 := (World.ownsRow.lt h1 g3 rfl).1
  have kE : ∀ {b : Nat} {p : Pr} {i : Nat}, ECell w b p i → bk < b → ECell (w3.setCell ⟨bk, 0, none⟩ (.slice (some ⟨g3, 0, none⟩) (d.n + 1) cp3)) b p i := fun {b p i} hh hb => hh.keep (by simpa using hz) ((os _ (by omega)).trans (hB _ hh.lt (ty hh.ob (by decide))))
  refine ⟨⟨by simpa using Nat.lt_of_lt_of_le hlt hz, World.cell?_setCell_same' _ _ _ (by rw [hc, h.c0]; rfl), (ho 1 (by decide)).trans h.c1, (ho 2 (by decide)).trans h.c2, (ho 3 (by decide)).trans h.c3, (ho 4 (by decide)).trans h.c4, (ho 5 (by decide)).trans h.c5, (ho 6 (by decide)).trans h.c6, fun q => by rw [World.frozen?_setCell]; exact (World.frozen?_of_block (a := ⟨bk, q, none⟩) (hB bk hlt hbk)).trans (h.fz q), ?_, ?_, h.rf, ?_, ?_, fun i hi => ?_, fun i hi => ?_, fun i j hi hj e => ?_, fun j hj => ?_, h.sg⟩, ?_⟩
  · have h2 : (w3.setCell ⟨bk, 0, none⟩ (.slice (some ⟨g3, 0, none⟩) (d.n + 1) cp3)).ownsRow (bk + 1) tEnt 1 (.slice (some ⟨g3, 0, none⟩) (d.n + 1) cp3) (d.n + 1) (ptL (fun i => some ⟨E i, 0, none⟩) d.n ++ [.pointer (some ⟨E d.n, 0, none⟩)]) := own_at h1 (fun q e => os q (by
      have e' : g3 = q := by simpa [Value.ownBlock] using e
      omega))
    exact h2
  · exact own_at h.ints (fun q e => (os q (by have := (h.ints.lt q e).1; omega)).trans (hB q (h.ints.lt q e).2 (fun e' => h.ap q e' e)))
  · exact own_at h.slots (fun q e => by
      obtain ⟨c, hb⟩ := h.slots.block e
      exact (os q (by have := (h.slots.lt q e).1; omega)).trans (hB q (h.slots.lt q e).2 (ty hb (by decide))))
  · intro q e e'
    have e2 : g3 = q := by simpa [Value.ownBlock] using e
    subst e2
    rcases hl with hl | hl
    · exact h.ap g3 hl e'
    · have := (h.ints.lt g3 e').2; omega
  · have hi' : i < d.n + 1 := hi
    by_cases e : i = d.n
    · subst e; exact kE he heb
    · exact kE (h.ent i (by omega)) (h.eb i (by omega))
  · have hi' : i < d.n + 1 := hi
    by_cases e : i = d.n
    · subst e; exact heb
    · exact h.eb i (by omega)
  · have hi' : i < d.n + 1 := hi
    have hj' : j < d.n + 1 := hj
    by_cases ei : i = d.n
    · by_cases ej : j = d.n
      · omega
      · subst ei; exact absurd e.symm (hin j (by omega))
    · by_cases ej : j = d.n
      · subst ej; exact absurd e (hin i (by omega))
      · exact h.inj i j (by omega) (by omega) e
  · by_cases h0 : d.X j = 0
    · exact ⟨fun hp => absurd hp (by show ¬ 0 < d.X j; omega), fun hp => absurd hp (by show ¬ d.X j < 0; omega)⟩
    · exact SlotIs.keep (d := { d with n := d.n + 1 }) (w := w) (h.sl j hj) (by simpa using hz) (fun c hc => (os _ (by have := h.sg j hj h0; omega)).trans (hB _ (Array.getElem?_eq_some_iff.1 hc).1 (ty hc (by decide))))
  · exact ((hW.mono (by omega)).grown hg (by omega) (fun k e => by have := (h.log.lt k e).1; omega)).setCell (by exact Nat.le_refl _) _
end

/-- The dict as it is dropped by the program is the model's. -/
theorem BMut.compact {K : Vl → Prop} {hf : Vl → Nat} {w : World} {bk : Nat} {r0 r1 : Value} {R2 : Nat} {E S : Nat → Nat} {d : Dc} (hc : Core K d) (hl : ¬ ((d.n : Int) < 8 ∨ (d.n : Int) ≤ 2 * d.live)) (h : BMut w bk r0 r1 R2 E S (fillL hf (packX d) (sizeX (hldL (packX d) (packX d).n).length) (hldL (packX d) (packX d).n))) : BMut w bk r0 r1 R2 E S (compactD hf d) := by
  have hp := packD_core hc
  have h : BMut w bk r0 r1 R2 E S (fillL hf (packD d) (sizeX (hldL (packD d) (packD d).n).length) (hldL (packD d) (packD d).n)) := h
  have e1 : compactD hf d = reindexD hf (packD d) 0 := if_neg hl
  have rf := fun x => refill_fill (hf := hf) (d := packD d) (x := x) (fun i hi ht => hp.pos hi ht) (packD d).n (Nat.le_refl _)
  rw [e1]
  by_cases h0 : (hldL (packD d) (packD d).n).length = 0
  · rw [reindexD_none (by rw [(rf 0).2]; omega)]
    have hn : hldL (packD d) (packD d).n = [] := List.eq_nil_of_length_eq_zero h0
    rw [h0, hn] at h
    have h : BMut w bk r0 r1 R2 E S { packD d with x := 0, X := fun _ => 0, used := 0 } := h
    exact h.of_same rfl rfl rfl rfl rfl rfl (fun _ _ => rfl) (fun j hj => absurd hj (Nat.not_lt_zero _)) (fun _ _ => rfl) (fun _ _ => rfl) (fun i hi => by
      rcases hp.ints i hi with e | e
      · show (packD d).I i ≤ ((packD d).n : Int); omega
      · exact e.2.1) (fun j hj => absurd hj (Nat.not_lt_zero _))
  · rw [reindexD_some (by rw [(rf 0).2]; omega), (rf _).1, (rf 0).2]
    have e2 : sizeX (hldL (packD d) (packD d).n).length = sizeFor ((hldL (packD d) (packD d).n).length + 0) := if_neg h0
    rw [e2] at h
    exact h

/-! A pair on its way: told, but not yet in the log. -/
def onW (c : Dc) (k v : Vl) : Dc := { addL c k v with n := c.n }
theorem onW_L (c : Dc) (k v : Vl) : (onW c k v).L c.n = ⟨k, v, c.turns + 1⟩ := upd_same _ _ _
theorem onW_old (c : Dc) (k v : Vl) {i : Nat} (hi : i < c.n) : (onW c k v).L i = c.L i := upd_other _ _ (by omega)
theorem enter_onW (hf : Vl → Nat) (c : Dc) (k v k' : Vl) (p : Nat) : enterD hf (onW c k v) k' p = onW (enterD hf c k' p) k v := by
  unfold enterD
  show (match freeSlot c.x c.X (hf k' % c.x) with | none => _ | some s => _) = _
  cases freeSlot c.x c.X (hf k' % c.x) <;> rfl
theorem enter_n (hf : Vl → Nat) (c : Dc) (k' : Vl) (p : Nat) : (enterD hf c k' p).n = c.n := by
  unfold enterD
  cases freeSlot c.x c.X (hf k' % c.x) <;> rfl
theorem enter_cut (hf : Vl → Nat) (c : Dc) (k' : Vl) (p n : Nat) : enterD hf { c with n := n } k' p = { enterD hf c k' p with n := n } := by
  unfold enterD
  show (match freeSlot c.x c.X (hf k' % c.x) with | none => _ | some s => _) = _
  cases freeSlot c.x c.X (hf k' % c.x) <;> rfl
theorem fill_n (hf : Vl → Nat) (c : Dc) (x : Nat) (l : List Nat) : (fillL hf c x l).n = c.n := by
  suffices h : ∀ (l : List Nat) (b : Dc), b.n = c.n → (l.foldl (fun e p => enterD hf e (c.L p).key p) b).n = c.n from h l _ rfl
  intro l
  induction l with
  | nil => intro b hb; exact hb
  | cons p l ih => intro b hb; exact ih _ ((enter_n hf b _ _).trans hb)
theorem fill_onW (hf : Vl → Nat) (c : Dc) (k v : Vl) (x : Nat) (l : List Nat) (hl : ∀ p ∈ l, p < c.n) : fillL hf (onW c k v) x l = onW (fillL hf c x l) k v := by
  suffices h : ∀ (l : List Nat), (∀ p ∈ l, p < c.n) → ∀ b : Dc, l.foldl (fun e p => enterD hf e ((onW c k v).L p).key p) (onW b k v) = onW (l.foldl (fun e p => enterD hf e (c.L p).key p) b) k v from h l hl { c with x := x, X := fun _ => 0, used := 0 }
  intro l
  induction l with
  | nil => intro _ b; rfl
  | cons p l ih =>
    intro hl b
    show l.foldl _ (enterD hf (onW b k v) ((onW c k v).L p).key p) = _
    rw [onW_old c k v (hl p (by simp)), enter_onW]
    exact ih (fun q hq => hl q (by simp [hq])) _
theorem hld_onW (c : Dc) (k v : Vl) : hldL (onW c k v) (onW c k v).n = hldL c c.n := by
  unfold hldL
  have e : livL (onW c k v) (onW c k v).n = livL c c.n := livL_congr c.n (fun i hi => by rw [onW_old c k v hi])
  rw [e]
  refine List.filter_congr (fun i hi => ?_)
  rw [onW_old c k v (mem_livL.1 hi).1]
  rfl
theorem room_onW {K : Vl → Prop} {hf : Vl → Nat} {c : Dc} {k v : Vl} (hc : Core K c) : roomB hf (onW c k v) = onW (roomD hf c) k v := by
  have rf := fun x => refill_fill (hf := hf) (d := c) (x := x) (fun i hi ht => hc.pos hi ht) c.n (Nat.le_refl _)
  unfold roomB roomD
  rw [hld_onW]
  by_cases h : (c.x : Int) < 2 * (c.used + 1)
  · rw [if_pos h, if_pos (show ((onW c k v).x : Int) < 2 * ((onW c k v).used + 1) from h), reindexD_some (by omega), (rf _).1, (rf 0).2, fill_onW hf c k v _ _ (fun p hp => (mem_hldL hp).1)]
    have e : sizeX ((hldL c c.n).length + 1) = sizeFor ((hldL c c.n).length + 1) := if_neg (by omega)
    rw [e]
  · rw [if_neg h, if_neg (show ¬ ((onW c k v).x : Int) < 2 * ((onW c k v).used + 1) from h)]
theorem onW_addL {c : Dc} {k v : Vl} {n : Nat} (h : c.n = n) : onW c k v = { addL c k v with n := n } := by subst h; rfl
end Go.Proofs.YtglcaejddckleaaDoor
namespace Go.Proofs.YtglcaejddckleaaDoor
open Go.RowKit
set_option linter.unusedVariables false
attribute [local go_sem] run_store_float run_equalIn_float

/-- The cells of a value in a box. -/
structure VBox (W : World) (b : Nat) (k : Vl) : Prop where
  lt : b < W.heap.size
  k0 : W.cell? ⟨b, 0, none⟩ = some (.int .i64 k.kind)
  k1 : W.cell? ⟨b, 1, none⟩ = some (.int .i64 k.num)
  k2 : W.cell? ⟨b, 2, none⟩ = some (.float .f64 k.flt)
  k3 : W.cell? ⟨b, 3, none⟩ = some (.string k.str)
  k4 : W.cell? ⟨b, 4, none⟩ = some (.int .i64 k.ref)
theorem VBox.keep {W W' : World} {b : Nat} {k : Vl} (h : VBox W b k) (hz : W.heap.size ≤ W'.heap.size) (e : W'.heap[b]? = W.heap[b]?) : VBox W' b k :=
  ⟨Nat.lt_of_lt_of_le h.lt hz, (World.cell?_of_block e).trans h.k0, (World.cell?_of_block e).trans h.k1, (World.cell?_of_block e).trans h.k2, (World.cell?_of_block e).trans h.k3, (World.cell?_of_block e).trans h.k4⟩
def HeldN (n0 bk : Nat) (k v : Vl) (t : Int) (a : Option Addr) (n c : Nat) (W : World) : Prop := W.cell? ⟨n0, 0, none⟩ = some (.int .i64 k.kind) ∧ W.cell? ⟨n0, 1, none⟩ = some (.int .i64 k.num) ∧ W.cell? ⟨n0, 2, none⟩ = some (.float .f64 k.flt) ∧ W.cell? ⟨n0, 3, none⟩ = some (.string k.str) ∧ W.cell? ⟨n0, 4, none⟩ = some (.int .i64 k.ref) ∧ W.cell? ⟨n0 + 1, 0, none⟩ = some (.int .i64 v.kind) ∧ W.cell? ⟨n0 + 1, 1, none⟩ = some (.int .i64 v.num) ∧ W.cell? ⟨n0 + 1, 2, none⟩ = some (.float .f64 v.flt) ∧ W.cell? ⟨n0 + 1, 3, none⟩ = some (.string v.str) ∧ W.cell? ⟨n0 + 1, 4, none⟩ = some (.int .i64 v.ref) ∧ W.cell? ⟨bk, 6, none⟩ = some (.int .i64 t) ∧ W.cell? ⟨bk, 0, none⟩ = some (.slice a n c)
def HeldT (bk n0 R1 m k1 q : Nat) (W : World) : Prop := W.cell? ⟨bk, 1, none⟩ = some (.slice (some ⟨R1, 0, none⟩) m k1) ∧ W.cell? ⟨n0, 1, none⟩ = some (.int .i64 ((q : Int) + 1))
theorem livN_hld {K : Vl → Prop} {c : Dc} (h : Core K c) (hl : c.live < 500) : (hldL c c.n).length + 1 ≤ 500 := by
  have h1 := hldL_le c c.n
  have h2 := h.live_n
  have h3 : lvN c = (livL c c.n).length := rfl
  omega
/-- What the end of an adding wants: a book that has all but the pair in the log. -/
structure AEnd (W : World) (bk : Nat) (r0 r1 : Value) (R2 : Nat) (E S : Nat → Nat) (D : Dc) : Prop where
  bm : BMut W bk r0 r1 R2 E S D
  e : ECell W (E D.n) (D.L D.n) D.n
  eb : bk < E D.n
  ne : ∀ i, i < D.n → E i ≠ E D.n

theorem AEnd.fin {Wx w3 : World} {bk : Nat} {r0 r1 : Value} {R2 : Nat} {E S : Nat → Nat} {D : Dc} (h : AEnd Wx bk r0 r1 R2 E S D) {o : Obj} {g3 cp3 : Nat} (h1 : w3.ownsRow (bk + 1) tEnt 1 (.slice (some ⟨g3, 0, none⟩) (D.n + 1) cp3) (D.n + 1) (ptL (fun i => some ⟨E i, 0, none⟩) D.n ++ [.pointer (some ⟨E D.n, 0, none⟩)])) (hg : (Wx.alloc o).grownBy w3 r0.ownBlock) (hl : r0.ownBlock = some g3 ∨ g3 = Wx.heap.size + 1) :
    w3.cell? ⟨bk, 0, none⟩ = some r0 ∧ w3.frozen? ⟨bk, 0, none⟩ = false ∧ bk < w3.heap.size ∧ BMut (w3.setCell ⟨bk, 0, none⟩ (.slice (some ⟨g3, 0, none⟩) (D.n + 1) cp3)) bk (.slice (some ⟨g3, 0, none⟩) (D.n + 1) cp3) r1 R2 E S { D with n := D.n + 1 } ∧ Below bk Wx (w3.setCell ⟨bk, 0, none⟩ (.slice (some ⟨g3, 0, none⟩) (D.n + 1) cp3)) := by
  have hlt := h.bm.lt
  have hn : r0.ownBlock ≠ some bk := fun e => by have := (h.bm.log.lt bk e).1; omega
  have hb : w3.heap[bk]? = Wx.heap[bk]? := (hg.block bk (by simp; omega) (fun e => hn e.symm)).trans (Deep.blk_alloc_lt _ _ _ hlt)
  have hz : Wx.heap.size + 1 ≤ w3.heap.size := by have := hg.size; simpa using this
  obtain ⟨p1, p2⟩ := h.bm.pushL ((Below.refl _ _).alloc (Nat.le_refl _) o) h.e h.eb h.ne h1 hg (by rcases hl with hl | hl; exact .inl hl; exact .inr (by omega))
  exact ⟨(World.cell?_of_block (a := ⟨bk, 0, none⟩) hb).trans h.bm.c0, (World.frozen?_of_block (a := ⟨bk, 0, none⟩) hb).trans (h.bm.fz 0), by omega, p1, p2⟩
theorem HeldN.below {n0 bk : Nat} {k v : Vl} {t : Int} {a : Option Addr} {n c : Nat} {W W' : World} (h : HeldN n0 bk k v t a n c W) (hb : Below W.heap.size W W') (h0 : n0 + 1 < W.heap.size) (h1 : bk < W.heap.size) : HeldN n0 bk k v t a n c W' := by
  obtain ⟨s0, s1, s2, s3, s4, s5, s6, s7, s8, s9, s10, s11⟩ := h
  have e : ∀ {b q : Nat}, b < W.heap.size → W'.cell? ⟨b, q, none⟩ = W.cell? ⟨b, q, none⟩ := fun {b q} hh => hb.cell (p := ⟨b, q, none⟩) hh
  exact ⟨(e (by omega)).trans s0, (e (by omega)).trans s1, (e (by omega)).trans s2, (e (by omega)).trans s3, (e (by omega)).trans s4, (e h0).trans s5, (e h0).trans s6, (e h0).trans s7, (e h0).trans s8, (e h0).trans s9, (e h1).trans s10, (e h1).trans s11⟩

set_option maxRecDepth 100000 in
set_option maxHeartbeats 8000000 in
theorem add_any (T : World → Prop) (hTl : Lasts T) (hf : Vl → Nat) (K : Vl → Prop) (KL : KeyLaw K hf) (hHs : ∀ v, K v → HsI T v (hf v)) (bk : Nat) (hTb : ∀ w w', T w → Below bk w w' → T w') (r0 r1 : Value) (R2 : Nat) (E S : Nat → Nat) (d : Dc) (k v : Vl) (w : World) (hT : T w) (hM : BMut w bk r0 r1 R2 E S d) (hS : Small d) (hm4 : d.m ≤ 4000000)
    (hI : Inv K hf d) (hk : K k) (hkb : keyB k = true) (hv : v.ok = true) (hv0 : v.kind ≠ 0) (hno : ∀ i, i < d.n → (d.L i).turn ≠ 0 → likeB (d.L i).key k = false) (hl : d.live < 500) (ht : d.turns < 1000000000000) :
    Calls Tryd.prog 29 #[.pointer (some ⟨bk, 0, none⟩), V k.kind k.num k.flt k.str k.ref, V v.kind v.num v.flt v.str v.ref] w fun e w' => ((∃ u, e = .returned u) ∧ ∃ r0' r1' R2' E2 S', BMut w' bk r0' r1' R2' E2 S' (comeD hf d k v)) ∧ Below bk w w' := by
  obtain ⟨i0, hi0, hz0, hz1, hz2⟩ := info_parts infoEnt
  have hlt := hM.lt
  have hcnt : 0 ≤ d.live := by have := hI.i0.log.cnt; omega
  have hb0 : Below w.heap.size w ((w.alloc (.cells #[.int .i64 k.kind, .int .i64 k.num, .float .f64 k.flt, .string k.str, .int .i64 k.ref] 32)).alloc (.cells #[.int .i64 v.kind, .int .i64 v.num, .float .f64 v.flt, .string v.str, .int .i64 v.ref] 32)) := ((Below.refl _ _).alloc (Nat.le_refl _) _).alloc (by simp) _
  -- what is known behind the tightening
  obtain ⟨cl1, cl2, cl3, cl4⟩ := compactD_live (hf := hf) hI.i0.core
  have hci := compactD_inv hI.i0
  have hcn := compactD_next (hf := hf) hI.i0.core hI.next
  have hcno : ∀ i, i < (compactD hf d).n → ((compactD hf d).L i).turn ≠ 0 → likeB ((compactD hf d).L i).key k = false := fun i hi hti => by
    cases e : likeB ((compactD hf d).L i).key k
    · rfl
    · obtain ⟨j, h1, h2, h3⟩ := (compactD_pairs (hf := hf) hI.i0.core (fun p => likeB p.key k = true)).1 ⟨i, hi, hti, e⟩
      have h4 := hno j h1 h2
      rw [h3] at h4
      cases h4
  have hcx : (compactD hf d).x ≤ 4000 := by
    rcases hci.sz with h | h
    · omega
    · exact h.2.1
  have hcn' : (compactD hf d).n ≤ 4194304 := by
    rcases cl4 with h | h <;> omega
  have hcI : ∀ i, i < (compactD hf d).m → (compactD hf d).I i ≤ (compactD hf d).n := fun i hi => by
    rcases hci.ints i hi with e | e
    · omega
    · exact e.2.1
  have hcX : ∀ j, j < (compactD hf d).x → (compactD hf d).X j ≤ (compactD hf d).n := fun j hj => by
    rcases hci.idx.range j hj with e | e | ⟨e1, e2, _⟩ <;> omega
  have HRES : Hid (comeD hf d k v = comeC hf (compactD hf d) k v) := hide rfl
  have TIGHT : ∀ W, Below w.heap.size w W → looseK d → Calls Tryd.prog 45 #[.pointer (some ⟨bk, 0, none⟩)] W fun e w' => ((∃ u, e = .returned u) ∧ ∃ r0' R2' E2 S', BMut w' bk r0' r1 R2' E2 S' (compactD hf d)) ∧ KX (fun b => b = bk ∨ ∃ i, i < d.n ∧ E i = b) bk W w' := fun W hW hlo => by
    refine (tighten_any T hTl hf bk hTb r0 r1 R2 E S d W (hTl _ _ hT hW) (hM.below hW) hS (fun i hi ht => hHs _ (hI.i0.keys i hi ht)) (by have := hI.i0.core.live_n; omega) (fun j hj => by
      rcases hI.i0.ints j hj with e | e
      · exact .inl e
      · exact .inr ⟨e.1, e.2.1, e.2.2.1⟩) (fun j hj h0 => by
      rcases hI.i0.idx.range j hj with e | e | ⟨e1, e2, e3, _⟩
      · omega
      · omega
      · exact ⟨by omega, e3⟩)).mono ?_
    rintro e w' ⟨⟨hu, r0', R2', E2, S', hN⟩, hkx⟩
    exact ⟨⟨hu, r0', R2', E2, S', hN.compact hI.i0.core (by have := hlo.1; have := hlo.2; omega)⟩, hkx⟩
  have HTIGHT := hide TIGHT
  have HE : Hid (∀ i, i < d.n → E i < w.heap.size) := hide (fun i hi => (hM.ent i hi).lt)
  have HC : Hid (¬ looseK d → compactD hf d = d) := hide (fun h => if_pos (by
    by_cases h8 : (d.n : Int) < 8
    · exact .inl h8
    · exact .inr (by
        refine Classical.byContradiction fun h2 => h ⟨by omega, by omega⟩)))
  have HM := hide hM
  have HLO : Hid (∀ W, Below w.heap.size w W → Calls Tryd.prog 44 #[.pointer (some ⟨bk, 0, none⟩)] W fun e w' => e = .returned (.bool (tells (looseK d))) ∧ Below W.heap.size W w') := hide (fun W hW => isLoose_any bk r0 r1 R2 E S d W (hM.below hW) hS hcnt (by omega))
  have HB0 := hide hb0
  have HT := hide hT
  rw [unhide HRES]
  have hclive : (compactD hf d).live < 500 := by omega
  have hcturn : (compactD hf d).turns < 1000000000000 := by omega
  have hcm : (compactD hf d).m ≤ 4000000 := by omega
  clear cl1 cl2 cl3 cl4 HRES TIGHT hM hS hT hb0 hI hno hl ht hcnt
  generalize compactD hf d = c at *
  have HV0 : Hid (VBox ((w.alloc (.cells #[.int .i64 k.kind, .int .i64 k.num, .float .f64 k.flt, .string k.str, .int .i64 k.ref] 32)).alloc (.cells #[.int .i64 v.kind, .int .i64 v.num, .float .f64 v.flt, .string v.str, .int .i64 v.ref] 32)) w.heap.size k ∧ VBox ((w.alloc (.cells #[.int .i64 k.kind, .int .i64 k.num, .float .f64 k.flt, .string k.str, .int .i64 k.ref] 32)).alloc (.cells #[.int .i64 v.kind, .int .i64 v.num, .float .f64 v.flt, .string v.str, .int .i64 v.ref] 32)) (w.heap.size + 1) v) := hide ⟨⟨by simp; omega, by simp [go_sem], by simp [go_sem], by simp [go_sem], by simp [go_sem], by simp [go_sem]⟩, ⟨by simp, by simp [go_sem], by simp [go_sem], by simp [go_sem], by simp [go_sem], by simp [go_sem]⟩⟩
  by_cases hlo : looseK d
  · have HLT := hide (tells_yes hlo)
    have HT2 := hide (fun W hW => unhide HTIGHT W hW hlo)
    clear hlo HC
    go_enter Tryd.func29, Tryd.ntmps29
    go_wp2_with fail
    refine (unhide HLO _ (unhide HB0)).mono ?_
    rintro e w1 ⟨rfl, hb1⟩
    rw [unhide HLT]
    have HB1 := hide ((unhide HB0).trans (hb1.mono (unhide HB0).size))
    have HK1 := hide ((unhide HV0).1.keep hb1.size (hb1.block _ (unhide HV0).1.lt))
    have HV1 := hide ((unhide HV0).2.keep hb1.size (hb1.block _ (unhide HV0).2.lt))
    clear hb1
    go_wp2_with fail
    refine (unhide HT2 _ (unhide HB1)).mono ?_
    rintro e W ⟨⟨⟨uu, rfl⟩, r0c, R2c, Ec, Sc, hMc⟩, hkx⟩
    have vk : VBox W w.heap.size k := (unhide HK1).keep hkx.bel.size (hkx.blk _ (unhide HK1).lt (by
      rintro (e | ⟨i, hi, e⟩)
      · omega
      · have := unhide HE i hi; omega))
    have vv : VBox W (w.heap.size + 1) v := (unhide HV1).keep hkx.bel.size (hkx.blk _ (unhide HV1).lt (by
      rintro (e | ⟨i, hi, e⟩)
      · omega
      · have := unhide HE i hi; omega))
    have hBW : Below bk w W := ((unhide HB1).mono (by omega)).trans hkx.bel
    clear hkx HT2 HK1 HV1 HB1 HV0 HB0 HLO HTIGHT
    obtain ⟨la, lc, e0⟩ := hMc.log.slice
    subst e0
    have c6 := hMc.c6
    have c5 := hMc.c5
    have f5 := hMc.fz 5
    have f6 := hMc.fz 6
    have hlW := hMc.lt
    have tp := hci.turns.1
    have cp0 : 0 ≤ c.live := by have := hci.log.cnt; omega
    have hw6 : IntKind.i64.wrap (c.turns + 1) = c.turns + 1 := by rw [IntKind.wrap_i64]; omega
    have hw5 : IntKind.i64.wrap (c.live + 1) = c.live + 1 := by rw [IntKind.wrap_i64]; omega
    have HM2 := hide ((hMc.setTurns (c.turns + 1)).setLive (c.live + 1))
    have HVK := hide vk
    have HVV := hide vv
    have HBW := hide hBW
    clear hMc vk vv hBW
    go_wp2_with fail
    generalize hW2 : (W.setCell ⟨bk, 6, none⟩ (.int .i64 (c.turns + 1))).setCell ⟨bk, 5, none⟩ (.int .i64 (c.live + 1)) = W2 at *
    have vk2 : VBox W2 w.heap.size k := (unhide HVK).keep (by rw [← hW2]; simp) (by rw [← hW2]; exact (Deep.blk_setCell_other _ _ _ _ (by show w.heap.size ≠ bk; omega)).trans (Deep.blk_setCell_other _ _ _ _ (by show w.heap.size ≠ bk; omega)))
    have vv2 : VBox W2 (w.heap.size + 1) v := (unhide HVV).keep (by rw [← hW2]; simp) (by rw [← hW2]; exact (Deep.blk_setCell_other _ _ _ _ (by show w.heap.size + 1 ≠ bk; omega)).trans (Deep.blk_setCell_other _ _ _ _ (by show w.heap.size + 1 ≠ bk; omega)))
    have HB2 : Hid (Below bk w W2) := hide (by rw [← hW2]; exact ((unhide HBW).setCell (by exact Nat.le_refl _) _).setCell (by exact Nat.le_refl _) _)
    have hM2 := unhide HM2
    have hl2 : bk < W2.heap.size := hM2.lt
    have c6' : W2.cell? ⟨bk, 6, none⟩ = some (.int .i64 (c.turns + 1)) := hM2.c6
    have c0' : W2.cell? ⟨bk, 0, none⟩ = some (.slice la c.n lc) := hM2.c0
    have lk2 := vk2.lt
    have lv2 := vv2.lt
    have hS0 : HeldN w.heap.size bk k v (c.turns + 1) la c.n lc W2.drew := ⟨vk2.k0, vk2.k1, vk2.k2, vk2.k3, vk2.k4, vv2.k0, vv2.k1, vv2.k2, vv2.k3, vv2.k4, c6', c0'⟩
    have HVK2 := hide vk2
    clear HVK HVV HBW hM2 vk2 vv2 c6 c5 f5 f6 c6' c0' hW2 hw5 hw6
    refine wpN_held (HeldN w.heap.size bk k v (c.turns + 1) la c.n lc) (by kernel_rfl) ?_
    change wpAnyH _ _ _ _ _ _ _ _ (World.drew _)
    refine tk 0 (v := ?_) rfl (by kernel_rfl) (by rfl) ?_ (by assumption) ?_
    rotate_left
    · intro w' ⟨s0, s1, s2, s3, s4, s5, s6, s7, s8, s9, s10, s11⟩; go_simp; first | done | with_reducible rfl
    simp only [Act.put, List.setIfInBounds_toArray, List.set_cons_succ, List.set_cons_zero]
    refine tk 1 (v := ?_) rfl (by kernel_rfl) (by rfl) ?_ (by assumption) ?_
    rotate_left
    · intro w' ⟨s0, s1, s2, s3, s4, s5, s6, s7, s8, s9, s10, s11⟩; go_simp; first | done | with_reducible rfl
    simp only [Act.put, List.setIfInBounds_toArray, List.set_cons_succ, List.set_cons_zero]
    refine tk 2 (v := ?_) rfl (by kernel_rfl) (by rfl) ?_ (by assumption) ?_
    rotate_left
    · intro w' ⟨s0, s1, s2, s3, s4, s5, s6, s7, s8, s9, s10, s11⟩; go_simp; first | done | with_reducible rfl
    simp only [Act.put, List.setIfInBounds_toArray, List.set_cons_succ, List.set_cons_zero]
    refine tk 3 (v := ?_) rfl (by kernel_rfl) (by rfl) ?_ (by assumption) ?_
    rotate_left
    · intro w' ⟨s0, s1, s2, s3, s4, s5, s6, s7, s8, s9, s10, s11⟩; go_simp; first | done | with_reducible rfl
    simp only [Act.put, List.setIfInBounds_toArray, List.set_cons_succ, List.set_cons_zero]
    refine tk 4 (v := ?_) rfl (by kernel_rfl) (by rfl) ?_ (by assumption) ?_
    rotate_left
    · intro w' ⟨s0, s1, s2, s3, s4, s5, s6, s7, s8, s9, s10, s11⟩; go_simp; first | done | with_reducible rfl
    simp only [Act.put, List.setIfInBounds_toArray, List.set_cons_succ, List.set_cons_zero]
    refine tk 5 (v := ?_) rfl (by kernel_rfl) (by rfl) ?_ (by assumption) ?_
    rotate_left
    · intro w' ⟨s0, s1, s2, s3, s4, s5, s6, s7, s8, s9, s10, s11⟩; go_simp; first | done | with_reducible rfl
    simp only [Act.put, List.setIfInBounds_toArray, List.set_cons_succ, List.set_cons_zero]
    refine tk 6 (v := ?_) rfl (by kernel_rfl) (by rfl) ?_ (by assumption) ?_
    rotate_left
    · intro w' ⟨s0, s1, s2, s3, s4, s5, s6, s7, s8, s9, s10, s11⟩; go_simp; first | done | with_reducible rfl
    simp only [Act.put, List.setIfInBounds_toArray, List.set_cons_succ, List.set_cons_zero]
    refine tk 7 (v := ?_) rfl (by kernel_rfl) (by rfl) ?_ (by assumption) ?_
    rotate_left
    · intro w' ⟨s0, s1, s2, s3, s4, s5, s6, s7, s8, s9, s10, s11⟩; go_simp; first | done | with_reducible rfl
    simp only [Act.put, List.setIfInBounds_toArray, List.set_cons_succ, List.set_cons_zero]
    refine tk 8 (v := ?_) rfl (by kernel_rfl) (by rfl) ?_ (by assumption) ?_
    rotate_left
    · intro w' ⟨s0, s1, s2, s3, s4, s5, s6, s7, s8, s9, s10, s11⟩; go_simp; first | done | with_reducible rfl
    simp only [Act.put, List.setIfInBounds_toArray, List.set_cons_succ, List.set_cons_zero]
    refine tk 9 (v := ?_) rfl (by kernel_rfl) (by rfl) ?_ (by assumption) ?_
    rotate_left
    · intro w' ⟨s0, s1, s2, s3, s4, s5, s6, s7, s8, s9, s10, s11⟩; go_simp; first | done | with_reducible rfl
    simp only [Act.put, List.setIfInBounds_toArray, List.set_cons_succ, List.set_cons_zero]
    refine tk 10 (v := ?_) rfl (by kernel_rfl) (by rfl) ?_ (by assumption) ?_
    rotate_left
    · intro w' ⟨s0, s1, s2, s3, s4, s5, s6, s7, s8, s9, s10, s11⟩; go_simp; first | done | with_reducible rfl
    simp only [Act.put, List.setIfInBounds_toArray, List.set_cons_succ, List.set_cons_zero]
    refine tk 11 (v := ?_) rfl (by kernel_rfl) (by rfl) ?_ (by assumption) ?_
    rotate_left
    · intro w' ⟨s0, s1, s2, s3, s4, s5, s6, s7, s8, s9, s10, s11⟩; go_simp; first | done | with_reducible rfl
    simp only [Act.put, List.setIfInBounds_toArray, List.set_cons_succ, List.set_cons_zero]
    refine tk 12 (v := ?_) rfl (by kernel_rfl) (by rfl) ?_ (by assumption) ?_
    rotate_left
    · intro w' ⟨s0, s1, s2, s3, s4, s5, s6, s7, s8, s9, s10, s11⟩; go_simp; first | done | with_reducible rfl
    simp only [Act.put, List.setIfInBounds_toArray, List.set_cons_succ, List.set_cons_zero]
    refine wpAnyH_ready (rs := [13]) (by kernel_rfl) (by simp) ?_
    refine AllReadyH.cons rfl (fun K hK => ?_) AllReadyH.nil
    go_simp
    refine hK.out _ _ (hS0.below ((Below.refl _ _).alloc (Nat.le_refl _) _) lv2 hl2) (fun hS1 => ?_)
    clear hK K
    refine tk 14 (v := ?_) rfl (by kernel_rfl) (by rfl) ?_ (by assumption) ?_
    rotate_left
    · intro w' ⟨s0, s1, s2, s3, s4, s5, s6, s7, s8, s9, s10, s11⟩; go_simp; first | done | with_reducible rfl
    simp only [Act.put, List.setIfInBounds_toArray, List.set_cons_succ, List.set_cons_zero]
    try simp only [List.getElem_toArray]
    try simp only [List.getElem_cons_succ]
    try simp only [List.getElem_cons_zero]
    try simp only [List.setIfInBounds_toArray]
    try simp only [List.set_cons_succ]
    try simp only [List.set_cons_zero]
    refine wpAnyH_done (by kernel_rfl) ?_ _
    refine QN.normal ?_
    clear hS0 hS1
    obtain ⟨W3, hW3⟩ : ∃ W3, W3 = (W2.alloc (.cells (entA ⟨k, v, c.turns + 1⟩ c.n) 57)).drew := ⟨_, rfl⟩
    try simp only [World.alloc_drew]
    rw [← hW3]
    have z3 : W3.heap.size = W2.heap.size + 1 := by rw [hW3]; simp
    have hb3 : Below W2.heap.size W2 W3 := by rw [hW3]; exact ((Below.refl _ _).alloc (Nat.le_refl _) _).drew
    have ob3 : W3.heap[W2.heap.size]? = some (.cells (entA ⟨k, v, c.turns + 1⟩ c.n) 57 (0, 0)) := by rw [hW3]; exact Deep.blk_alloc_new _ _
    have vk3 : VBox W3 w.heap.size k := (unhide HVK2).keep hb3.size (hb3.block _ lk2)
    have HB3 := hide ((unhide HB2).trans (hb3.mono (by omega)))
    obtain ⟨E1, hE1⟩ : ∃ E1, E1 = upd Ec c.n W2.heap.size := ⟨_, rfl⟩
    have hE1n : E1 c.n = W2.heap.size := by rw [hE1]; exact upd_same _ _ _
    have hA : AEnd W3 bk (.slice la c.n lc) r1 R2c E1 Sc (onW c k v) := by
      have hM3 := (unhide HM2).below hb3
      refine ⟨hM3.of_same rfl rfl rfl rfl rfl rfl (fun _ _ => rfl) (fun _ _ => rfl) (fun i hi => upd_other _ _ (by have hi' : i < c.n := hi; omega)) (fun i hi => by rw [hE1]; exact upd_other _ _ (by have hi' : i < c.n := hi; omega)) hcI hcX, ?_, ?_, fun i hi => ?_⟩
      · show ECell W3 (E1 c.n) ((onW c k v).L c.n) c.n
        rw [hE1n, onW_L]
        exact ECell.of_ob ob3
      · show bk < E1 c.n
        omega
      · have hi' : i < c.n := hi
        show E1 i ≠ E1 c.n
        rw [hE1n, hE1, upd_other _ _ (by omega)]
        have := ((unhide HM2).ent i hi').lt
        omega
    have l3 := vk3.lt
    have lb3 := hA.bm.lt
    obtain ⟨R1, k1, e1⟩ := hA.bm.rf
    have e1 : r1 = .slice (some ⟨R1, 0, none⟩) c.m k1 := e1
    have c1 : W3.cell? ⟨bk, 1, none⟩ = some (.slice (some ⟨R1, 0, none⟩) c.m k1) := by rw [← e1]; exact hA.bm.c1
    have hR1 := (hA.bm.ints.lt R1 (by rw [e1]; rfl)).1
    have hR1l := (hA.bm.ints.lt R1 (by rw [e1]; rfl)).2
    have q0 := vk3.k0
    have q1 := vk3.k1
    have q2 := vk3.k2
    have q3 := vk3.k3
    have q4 := vk3.k4
    have HA := hide hA
    have HVK3 := hide vk3
    have HE1 := hide hE1n
    have HE1r := hide e1
    rw [← hE1n]
    clear hA vk3 hE1 hE1n e1 ob3 hb3 hW3 HM2 HB2 HVK2 z3
    by_cases hs : smallK c.m k
    · have HSM := hide (tells_yes hs)
      obtain ⟨a1, a2, a3⟩ := hs
      obtain ⟨q, hq⟩ : ∃ q : Nat, k.num = (q : Int) + 1 := ⟨(k.num - 1).toNat, by omega⟩
      have hqm : q < c.m := by omega
      have HRES : Hid ({ onW c k v with I := upd (onW c k v).I q ((c.n : Int) + 1), n := c.n + 1 } = comeC hf c k v) := hide (by
        have e : comeC hf c k v = addSmall c k v := if_pos ⟨a1, a2, a3⟩
        rw [e]
        unfold addSmall
        rw [show (k.num - 1).toNat = q by omega]
        rfl)
      have hwq : IntKind.i64.wrap (q : Int) = q := by rw [IntKind.wrap_i64]; omega
      have HQ := hide hq
      clear a1 a2 a3 hq
      go_wp2_with fail
      refine wp_region_quiet (C := fun w' => Below W3.heap.size W3 w') (by kernel_rfl) (by kernel_rfl) ((Below.refl _ _).drew) ?_
      show wpQuiet _ _ _ _ [_, _, _, _, _, _, _] _
      refine wpQuiet_step (fun K hK => ?_)
      go_simp
      apply Exists.intro
      refine And.intro (fun w' hw' => ?_) (hK _ ?_)
      · obtain ⟨hc', hf'⟩ := bcell hw'
        go_simp
        first | rfl | exact ⟨rfl, rfl⟩ | exact ⟨rfl⟩
      clear hK K
      refine wpQuiet_step (fun K hK => ?_)
      go_simp
      refine ⟨_, fun w' hw' => rfl, hK _ ?_⟩
      clear hK K
      refine wpQuiet_step (fun K hK => ?_)
      go_simp
      refine ⟨_, fun w' hw' => rfl, hK _ ?_⟩
      clear hK K
      refine wpQuiet_step (fun K hK => ?_)
      go_simp
      refine ⟨_, fun w' hw' => rfl, hK _ ?_⟩
      clear hK K
      refine wpQuiet_step (fun K hK => ?_)
      go_simp
      apply Exists.intro
      refine And.intro (fun w' hw' => ?_) (hK _ ?_)
      · obtain ⟨hc', hf'⟩ := bcell hw'
        go_simp
        first | rfl | exact ⟨rfl, rfl⟩ | exact ⟨rfl⟩
      clear hK K
      refine wpQuiet_step (fun K hK => ?_)
      go_simp
      refine ⟨_, fun w' hw' => rfl, hK _ ?_⟩
      clear hK K
      refine wpQuiet_step (fun K hK => ?_)
      go_simp
      apply Exists.intro
      refine And.intro (fun w' hw' => ?_) (hK _ ?_)
      · refine (((unhide HSM) ▸ hasPlace_any k c.m _ (by omega))).mono ?_
        rintro e w'' ⟨rfl, hb⟩
        exact ⟨rfl, hw'.trans (hb.mono hw'.size)⟩
      clear hK K
      refine wpQuiet_nil ?_
      intro w4 hw4
      have l4 := Nat.lt_of_lt_of_le l3 hw4.size
      have lb4 := Nat.lt_of_lt_of_le lb3 hw4.size
      have c14 := (hw4.cell (p := ⟨bk, 1, none⟩) lb3).trans c1
      have q14 := (hw4.cell (p := ⟨w.heap.size, 1, none⟩) l3).trans q1
      rw [unhide HQ] at q14
      have hR1l4 := Nat.lt_of_lt_of_le hR1l hw4.size
      have hA4 : AEnd w4 bk (.slice la c.n lc) r1 R2c E1 Sc (onW c k v) := ⟨(unhide HA).bm.below hw4, (unhide HA).e.keep hw4.size (hw4.block _ (unhide HA).e.lt), (unhide HA).eb, (unhide HA).ne⟩
      have hbm4 : BMut w4 bk (.slice la c.n lc) (.slice (some ⟨R1, 0, none⟩) c.m k1) R2c E1 Sc (onW c k v) := by rw [← unhide HE1r]; exact hA4.bm
      obtain ⟨_, _, e5, _, _, _, hc5, hf5⟩ := hbm4.ints.form (by show 0 < c.m; omega)
      cases e5
      have d5 := hc5 q (by show q < c.m; exact hqm)
      have f5 := hf5 q
      obtain ⟨cR1, hbR1⟩ := hbm4.ints.block (b := R1) rfl
      have hp := BMut.putI (d := onW c k v) hbm4 (i := q) (by show q < c.m; exact hqm) ((c.n : Int) + 1)
      rw [show entP E1 ((c.n : Int) + 1) = some ⟨E1 c.n, 0, none⟩ by unfold entP; rw [if_pos (by omega), show ((c.n : Int) + 1 - 1).toNat = c.n by omega]] at hp
      have HA5 : Hid (AEnd (w4.setCell ⟨R1, q, none⟩ (.pointer (some ⟨E1 c.n, 0, none⟩))).drew bk (.slice la c.n lc) (.slice (some ⟨R1, 0, none⟩) c.m k1) R2c E1 Sc { onW c k v with I := upd (onW c k v).I q ((c.n : Int) + 1) })   := hide ⟨hp.below (Below.refl _ _).drew, hA4.e.keep (by simp) (Deep.blk_setCell_other _ _ _ _ (by show E1 c.n ≠ R1; exact fun e => type_apart (e ▸ hA4.e.ob) hbR1 (by decide))), hA4.eb, hA4.ne⟩
      have HB4 := hide (((unhide HB3).trans (hw4.mono (by omega))).setCell (p := ⟨R1, q, none⟩) (by show bk ≤ R1; omega) (.pointer (some ⟨E1 c.n, 0, none⟩))).drew
      have hS0 : HeldT bk w.heap.size R1 c.m k1 q w4.drew := ⟨c14, q14⟩
      have hne : R1 ≠ w.heap.size := fun e => by
        have h1 := (unhide HVK3).keep hw4.size (hw4.block _ l3)
        have h2 := h1.k0
        rw [← e] at h2
        rw [hc5 0 (by show 0 < c.m; omega)] at h2
        cases h2
      clear hbm4 hA4 hp hbR1 hw4 HA hc5 hf5 q0 q1 q2 q3 q4 c1
      go_wp2_with fail
      refine wpN_held (HeldT bk w.heap.size R1 c.m k1 q) (by kernel_rfl) ?_
      change wpAnyH _ _ _ _ _ _ _ _ (World.drew _)
      refine tk 0 (v := ?_) rfl (by kernel_rfl) (by rfl) ?_ (by assumption) ?_
      rotate_left
      · intro w' ⟨s0, s1⟩; go_simp; first | done | with_reducible rfl
      simp only [Act.put, List.setIfInBounds_toArray, List.set_cons_succ, List.set_cons_zero]
      refine tk 1 (v := ?_) rfl (by kernel_rfl) (by rfl) ?_ (by assumption) ?_
      rotate_left
      · intro w' ⟨s0, s1⟩; go_simp; first | done | with_reducible rfl
      simp only [Act.put, List.setIfInBounds_toArray, List.set_cons_succ, List.set_cons_zero]
      refine tk 2 (v := ?_) rfl (by kernel_rfl) (by rfl) ?_ (by assumption) ?_
      rotate_left
      · intro w' ⟨s0, s1⟩; go_simp; first | done | with_reducible rfl
      simp only [Act.put, List.setIfInBounds_toArray, List.set_cons_succ, List.set_cons_zero]
      refine tk 3 (v := ?_) rfl (by kernel_rfl) (by rfl) ?_ (by assumption) ?_
      rotate_left
      · intro w' ⟨s0, s1⟩; go_simp; first | done | with_reducible rfl
      simp only [Act.put, List.setIfInBounds_toArray, List.set_cons_succ, List.set_cons_zero]
      refine tk 4 (v := ?_) rfl (by kernel_rfl) (by rfl) ?_ (by assumption) ?_
      rotate_left
      · intro w' ⟨s0, s1⟩; go_simp; first | done | with_reducible rfl
      simp only [Act.put, List.setIfInBounds_toArray, List.set_cons_succ, List.set_cons_zero]
      refine tk 5 (v := ?_) rfl (by kernel_rfl) (by rfl) ?_ (by assumption) ?_
      rotate_left
      · intro w' ⟨s0, s1⟩; go_simp; first | done | with_reducible rfl
      simp only [Act.put, List.setIfInBounds_toArray, List.set_cons_succ, List.set_cons_zero]
      refine tk 6 (v := ?_) rfl (by kernel_rfl) (by rfl) ?_ (by assumption) ?_
      rotate_left
      · intro w' ⟨s0, s1⟩; go_simp; first | done | with_reducible rfl
      simp only [Act.put, List.setIfInBounds_toArray, List.set_cons_succ, List.set_cons_zero]
      refine tk 7 (v := ?_) rfl (by kernel_rfl) (by rfl) ?_ (by assumption) ?_
      rotate_left
      · intro w' ⟨s0, s1⟩; go_simp; first | done | with_reducible rfl
      simp only [Act.put, List.setIfInBounds_toArray, List.set_cons_succ, List.set_cons_zero]
      refine tk 8 (v := ?_) rfl (by kernel_rfl) (by rfl) ?_ (by assumption) ?_
      rotate_left
      · intro w' ⟨s0, s1⟩; go_simp; first | done | with_reducible rfl
      simp only [Act.put, List.setIfInBounds_toArray, List.set_cons_succ, List.set_cons_zero]
      refine wpAnyH_ready (rs := [9]) (by kernel_rfl) (by simp) ?_
      refine AllReadyH.cons rfl (fun K hK => ?_) AllReadyH.nil
      go_simp
      refine hK.out _ _ ⟨(cell_set_block (by omega)).trans hS0.1, (cell_set_block hne).trans hS0.2⟩ (fun _ => ?_)
      clear hK K hS0
      refine wpAnyH_done (by kernel_rfl) ?_ _
      refine QN.normal ?_
      generalize hW5 : (w4.setCell ⟨R1, q, none⟩ (.pointer (some ⟨E1 c.n, 0, none⟩))).drew = W5 at *
      have HA6 : Hid (AEnd (W5) bk (.slice la c.n lc) (.slice (some ⟨R1, 0, none⟩) c.m k1) R2c E1 Sc { onW c k v with I := upd (onW c k v).I q ((c.n : Int) + 1) }) := hide (unhide HA5)
      have HB6 : Hid (Below bk w (W5)) := hide (unhide HB4)
      have HLOG : Hid (Rw (W5) (bk + 1) tEnt (.slice la c.n lc) c.n (fun i => some ⟨E1 i, 0, none⟩)) := hide ((unhide HA6).bm.log)
      have c0x : (W5).cell? ⟨bk, 0, none⟩ = some (.slice la c.n lc) := (unhide HA6).bm.c0
      have lbx : bk < (W5).heap.size := (unhide HA6).bm.lt
      have HFIN : Hid (∀ (o : Obj) (g3 cp3 : Nat) (w3 : World), w3.ownsRow (bk + 1) tEnt 1 (.slice (some ⟨g3, 0, none⟩) (c.n + 1) cp3) (c.n + 1) (ptL (fun i => some ⟨E1 i, 0, none⟩) c.n ++ [.pointer (some ⟨E1 c.n, 0, none⟩)]) → ((W5).alloc o).grownBy w3 (Value.slice la c.n lc).ownBlock → ((Value.slice la c.n lc).ownBlock = some g3 ∨ g3 = (W5).heap.size + 1) →
          w3.cell? ⟨bk, 0, none⟩ = some (.slice la c.n lc) ∧ w3.frozen? ⟨bk, 0, none⟩ = false ∧ bk < w3.heap.size ∧ (∃ r1' R2' S', BMut (w3.setCell ⟨bk, 0, none⟩ (.slice (some ⟨g3, 0, none⟩) (c.n + 1) cp3)) bk (.slice (some ⟨g3, 0, none⟩) (c.n + 1) cp3) r1' R2' E1 S' (comeC hf c k v)) ∧ Below bk w (w3.setCell ⟨bk, 0, none⟩ (.slice (some ⟨g3, 0, none⟩) (c.n + 1) cp3))) := hide (fun o g3 cp3 w3 h1 h2 h3 => by
        obtain ⟨p1, p2, p3, p4, p5⟩ := (unhide HA6).fin h1 h2 h3
        exact ⟨p1, p2, p3, ⟨_, _, _, by rw [← unhide HRES]; exact p4⟩, (unhide HB6).trans p5⟩)
      clear HA6 HB6
      go_wp2_with (at_builtin; refine wpList_append_lies _ rfl _ _ 60 rfl (bk + 1) tEnt i0 (.pointer none) 1 8 Tryd.underlying60 hi0 hz0 hz1 hz2 rfl (by decide) (.slice la c.n lc) c.n (ptL (fun i => some ⟨E1 i, 0, none⟩) c.n) rfl (World.ownsRow.alloc (unhide HLOG) _) ⟨(W5).heap.size, 0, none⟩ 1 1 [.pointer (some ⟨E1 c.n, 0, none⟩)] rfl rfl (World.news_of_block (Deep.blk_alloc_new _ _)) (by simp [Value.oneCell']) (by decide) (by unfold maxLen; omega) (by omega) (by simp; omega) ((W5).heap.size + 1) (by simp) ?_; intro g3 cp3 w3 hown3 hgr3 hloc3 hlt3; obtain ⟨x3, f3, lx3, hN3, hB3⟩ := unhide HFIN _ g3 cp3 w3 hown3 hgr3 hloc3; have HN3 := hide hN3; have HBB := hide hB3; clear hown3 hgr3 hloc3 hN3 hB3)
      go_end0
      obtain ⟨r1', R2', S', hN⟩ := unhide HN3
      exact ⟨⟨⟨_, rfl⟩, _, r1', R2', E1, S', hN⟩, unhide HBB⟩
    · have HSM := hide (tells_no hs)
      have HNS := hide hs
      have hci' := comeC_inv KL hci hcn hk hkb hv hv0 hcno hclive hcturn
      have HMn := hide hci'.2.2.1
      have HML := hide hci'.2.2.2.1
      clear hs hci'
      go_wp2_with fail
      refine wp_region_quiet (C := fun w' => Below W3.heap.size W3 w') (by kernel_rfl) (by kernel_rfl) ((Below.refl _ _).drew) ?_
      show wpQuiet _ _ _ _ [_, _, _, _, _, _, _] _
      refine wpQuiet_step (fun K hK => ?_)
      go_simp
      apply Exists.intro
      refine And.intro (fun w' hw' => ?_) (hK _ ?_)
      · obtain ⟨hc', hf'⟩ := bcell hw'
        go_simp
        first | rfl | exact ⟨rfl, rfl⟩ | exact ⟨rfl⟩
      clear hK K
      refine wpQuiet_step (fun K hK => ?_)
      go_simp
      refine ⟨_, fun w' hw' => rfl, hK _ ?_⟩
      clear hK K
      refine wpQuiet_step (fun K hK => ?_)
      go_simp
      refine ⟨_, fun w' hw' => rfl, hK _ ?_⟩
      clear hK K
      refine wpQuiet_step (fun K hK => ?_)
      go_simp
      refine ⟨_, fun w' hw' => rfl, hK _ ?_⟩
      clear hK K
      refine wpQuiet_step (fun K hK => ?_)
      go_simp
      apply Exists.intro
      refine And.intro (fun w' hw' => ?_) (hK _ ?_)
      · obtain ⟨hc', hf'⟩ := bcell hw'
        go_simp
        first | rfl | exact ⟨rfl, rfl⟩ | exact ⟨rfl⟩
      clear hK K
      refine wpQuiet_step (fun K hK => ?_)
      go_simp
      refine ⟨_, fun w' hw' => rfl, hK _ ?_⟩
      clear hK K
      refine wpQuiet_step (fun K hK => ?_)
      go_simp
      apply Exists.intro
      refine And.intro (fun w' hw' => ?_) (hK _ ?_)
      · refine (((unhide HSM) ▸ hasPlace_any k c.m _ (by omega))).mono ?_
        rintro e w'' ⟨rfl, hb⟩
        exact ⟨rfl, hw'.trans (hb.mono hw'.size)⟩
      clear hK K
      refine wpQuiet_nil ?_
      intro w4 hw4
      have l4 := Nat.lt_of_lt_of_le l3 hw4.size
      have lb4 := Nat.lt_of_lt_of_le lb3 hw4.size
      have vk4 := (unhide HVK3).keep hw4.size (hw4.block _ l3)
      have q04 := vk4.k0
      have q14 := vk4.k1
      have q24 := vk4.k2
      have q34 := vk4.k3
      have q44 := vk4.k4
      have hA4 : AEnd w4 bk (.slice la c.n lc) r1 R2c E1 Sc (onW c k v) := ⟨(unhide HA).bm.below hw4, (unhide HA).e.keep hw4.size (hw4.block _ (unhide HA).e.lt), (unhide HA).eb, (unhide HA).ne⟩
      have HB4 := hide ((unhide HB3).trans (hw4.mono (by omega)))
      have HSm : Hid (Small (onW c k v)) := hide ⟨hcn', by show c.m ≤ _; omega, by show c.x ≤ _; omega⟩
      have HNXI : Hid (∀ w', Below w4.heap.size w4 w' → Calls Tryd.prog 35 #[.pointer (some ⟨bk, 0, none⟩)] w' fun e w'' => e = .returned (V 2 ((c.m : Int) + 1) 0 ⟨#[]⟩ 0) ∧ Below w'.heap.size w' w'') := hide (fun w' hw' => by
        obtain ⟨R0', R1', hB'⟩ := (hA4.bm.below hw').book
        exact nextInt_any bk R0' R1' R2c E1 Sc (onW c k v) w' hB' (unhide HSm))
      have HA4 := hide hA4
      clear hw4 HA vk4 hA4 q0 q1 q2 q3 q4 c1
      by_cases hnx : k.kind = 2 ∧ k.num = (c.m : Int) + 1
      · have HNX := hide hnx
        have HF := hide (int_key hkb hnx.1)
        clear hnx
        go_wp2_with fail
        refine wp_region_quiet (C := fun w' => Below w4.heap.size w4 w') (by kernel_rfl) (by kernel_rfl) ((Below.refl _ _).drew) ?_
        show wpQuiet _ _ _ _ [_, _, _, _] _
        refine wpQuiet_step (fun K hK => ?_)
        go_simp
        apply Exists.intro
        refine And.intro (fun w' hw' => ?_) (hK _ ?_)
        · obtain ⟨hc', hf'⟩ := bcell hw'
          go_simp
          first | rfl | exact ⟨rfl, rfl⟩ | exact ⟨rfl⟩
        clear hK K
        refine wpQuiet_step (fun K hK => ?_)
        go_simp
        refine ⟨_, fun w' hw' => rfl, hK _ ?_⟩
        clear hK K
        refine wpQuiet_step (fun K hK => ?_)
        go_simp
        apply Exists.intro
        refine And.intro (fun w' hw' => ?_) (hK _ ?_)
        · refine ((unhide HNXI _ hw')).mono ?_
          rintro e w'' ⟨rfl, hb⟩
          exact ⟨rfl, hw'.trans (hb.mono hw'.size)⟩
        clear hK K
        refine wpQuiet_step (fun K hK => ?_)
        go_simp
        refine ⟨.bool true, fun w' hw' => ?_, hK _ ?_⟩
        · obtain ⟨x1, x2⟩ := unhide HNX
          obtain ⟨x3, x4, x5⟩ := unhide HF
          have x3' : FloatKind.f64.format.order k.flt 0 = some Ordering.eq := by simpa using x3
          have x4' : k.str.toList = [] := List.isEmpty_iff.1 x4
          simp only [x1, x2, x5, x3', x4', if_true]
          exact ⟨trivial, trivial⟩
        clear hK K
        refine wpQuiet_nil ?_
        intro w5 hw5
        have hA5 : AEnd w5 bk (.slice la c.n lc) r1 R2c E1 Sc (onW c k v) := ⟨(unhide HA4).bm.below hw5, (unhide HA4).e.keep hw5.size (hw5.block _ (unhide HA4).e.lt), (unhide HA4).eb, (unhide HA4).ne⟩
        have HB5 := hide ((unhide HB4).trans (hw5.mono (by omega)))
        have HCALL : Hid (Calls Tryd.prog 46 #[.pointer (some ⟨bk, 0, none⟩), .pointer (some ⟨E1 c.n, 0, none⟩)] w5 fun e w' => (∃ u, e = .returned u) ∧ (∃ r1' S', AEnd w' bk (.slice la c.n lc) r1' R2c E1 S' { comeC hf c k v with n := c.n }) ∧ Below bk w w') := hide (by
          obtain ⟨x1, x2⟩ := unhide HNX
          have hT5 : T w5 := hTb _ _ (unhide HT) (unhide HB5)
          have hLn : ((onW c k v).L (onW c k v).n) = ⟨k, v, c.turns + 1⟩ := onW_L c k v
          have hcome : comeC hf c k v = moveD hf (c.x + 1) (addNext c k v) := by unfold comeC; rw [if_neg (unhide HNS), if_pos ⟨x1, x2⟩]
          obtain ⟨cR1, hbR1⟩ := hA5.bm.ints.block (b := R1) (by rw [unhide HE1r]; rfl)
          obtain ⟨cR2, hbR2⟩ := hA5.bm.slots.block (b := R2c) rfl
          have hae := hA5.e
          refine (addNextInt_any T hTl hf K KL hHs bk hTb (.slice la c.n lc) r1 R2c E1 Sc (onW c k v) w5 hT5 hA5.bm (unhide HSm) hcm (by rw [hLn]; exact x1) (by rw [hLn]; exact x2) (addNext_inv KL hci hk hkb hv hv0 hcno x1 x2 hclive hcturn)).mono ?_
          rintro e w' ⟨⟨hu, r1', S', hN⟩, hkx⟩
          have hN : BMut w' bk (.slice la c.n lc) r1' R2c E1 S' { moveD hf (c.x + 1) (addNext c k v) with n := c.n } := hN
          rw [← hcome] at hN
          have hblk := hkx.blk (E1 c.n) hae.lt (by
            rintro (e | e | e)
            · have := hA5.eb
              have h' : bk < E1 c.n := this
              omega
            · rw [unhide HE1r] at e
              have e' : R1 = E1 c.n := by simpa [Value.ownBlock] using e
              exact type_apart (e' ▸ hae.ob) hbR1 (by decide)
            · exact type_apart (e ▸ hae.ob) hbR2 (by decide))
          refine ⟨hu, ⟨r1', S', hN, ?_, hA5.eb, hA5.ne⟩, (unhide HB5).trans hkx.bel⟩
          have h1 : (comeC hf c k v).L c.n = (onW c k v).L c.n := by rw [unhide HML]; rfl
          show ECell w' (E1 c.n) ((comeC hf c k v).L c.n) c.n
          rw [h1]
          exact hae.keep hkx.bel.size hblk)
        clear hA5 HB5 hw5 HA4 HB4 HNXI q04 q14 q24 q34 q44
        go_wp2_with fail
        refine (unhide HCALL).mono ?_
        rintro e w6 ⟨⟨uu6, rfl⟩, ⟨r1x, Sx, hA6x⟩, hB6x⟩
        have HRES : Hid ({ { comeC hf c k v with n := c.n } with n := c.n + 1 } = comeC hf c k v) := hide (by
          have h1 := unhide HMn
          generalize comeC hf c k v = M at h1
          cases M
          simp only at h1
          subst h1
          rfl)
        have HA6x := hide hA6x
        have HB6x := hide hB6x
        clear hA6x hB6x HCALL
        have HA6 : Hid (AEnd (w6) bk (.slice la c.n lc) r1x R2c E1 Sx { comeC hf c k v with n := c.n }) := hide (unhide HA6x)
        have HB6 : Hid (Below bk w (w6)) := hide (unhide HB6x)
        have HLOG : Hid (Rw (w6) (bk + 1) tEnt (.slice la c.n lc) c.n (fun i => some ⟨E1 i, 0, none⟩)) := hide ((unhide HA6).bm.log)
        have c0x : (w6).cell? ⟨bk, 0, none⟩ = some (.slice la c.n lc) := (unhide HA6).bm.c0
        have lbx : bk < (w6).heap.size := (unhide HA6).bm.lt
        have HFIN : Hid (∀ (o : Obj) (g3 cp3 : Nat) (w3 : World), w3.ownsRow (bk + 1) tEnt 1 (.slice (some ⟨g3, 0, none⟩) (c.n + 1) cp3) (c.n + 1) (ptL (fun i => some ⟨E1 i, 0, none⟩) c.n ++ [.pointer (some ⟨E1 c.n, 0, none⟩)]) → ((w6).alloc o).grownBy w3 (Value.slice la c.n lc).ownBlock → ((Value.slice la c.n lc).ownBlock = some g3 ∨ g3 = (w6).heap.size + 1) →
            w3.cell? ⟨bk, 0, none⟩ = some (.slice la c.n lc) ∧ w3.frozen? ⟨bk, 0, none⟩ = false ∧ bk < w3.heap.size ∧ (∃ r1' R2' S', BMut (w3.setCell ⟨bk, 0, none⟩ (.slice (some ⟨g3, 0, none⟩) (c.n + 1) cp3)) bk (.slice (some ⟨g3, 0, none⟩) (c.n + 1) cp3) r1' R2' E1 S' (comeC hf c k v)) ∧ Below bk w (w3.setCell ⟨bk, 0, none⟩ (.slice (some ⟨g3, 0, none⟩) (c.n + 1) cp3))) := hide (fun o g3 cp3 w3 h1 h2 h3 => by
          obtain ⟨p1, p2, p3, p4, p5⟩ := (unhide HA6).fin h1 h2 h3
          exact ⟨p1, p2, p3, ⟨_, _, _, by rw [← unhide HRES]; exact p4⟩, (unhide HB6).trans p5⟩)
        clear HA6 HB6
        go_wp2_with (at_builtin; refine wpList_append_lies _ rfl _ _ 60 rfl (bk + 1) tEnt i0 (.pointer none) 1 8 Tryd.underlying60 hi0 hz0 hz1 hz2 rfl (by decide) (.slice la c.n lc) c.n (ptL (fun i => some ⟨E1 i, 0, none⟩) c.n) rfl (World.ownsRow.alloc (unhide HLOG) _) ⟨(w6).heap.size, 0, none⟩ 1 1 [.pointer (some ⟨E1 c.n, 0, none⟩)] rfl rfl (World.news_of_block (Deep.blk_alloc_new _ _)) (by simp [Value.oneCell']) (by decide) (by unfold maxLen; omega) (by omega) (by simp; omega) ((w6).heap.size + 1) (by simp) ?_; intro g3 cp3 w3 hown3 hgr3 hloc3 hlt3; obtain ⟨x3, f3, lx3, hN3, hB3⟩ := unhide HFIN _ g3 cp3 w3 hown3 hgr3 hloc3; have HN3 := hide hN3; have HBB := hide hB3; clear hown3 hgr3 hloc3 hN3 hB3)
        go_end0
        obtain ⟨r1', R2', S', hN⟩ := unhide HN3
        exact ⟨⟨⟨_, rfl⟩, _, r1', R2', E1, S', hN⟩, unhide HBB⟩
      · have HNX := hide hnx
        clear hnx
        go_wp2_with fail
        refine wp_region_quiet (C := fun w' => Below w4.heap.size w4 w') (by kernel_rfl) (by kernel_rfl) ((Below.refl _ _).drew) ?_
        show wpQuiet _ _ _ _ [_, _, _, _] _
        refine wpQuiet_step (fun K hK => ?_)
        go_simp
        apply Exists.intro
        refine And.intro (fun w' hw' => ?_) (hK _ ?_)
        · obtain ⟨hc', hf'⟩ := bcell hw'
          go_simp
          first | rfl | exact ⟨rfl, rfl⟩ | exact ⟨rfl⟩
        clear hK K
        refine wpQuiet_step (fun K hK => ?_)
        go_simp
        refine ⟨_, fun w' hw' => rfl, hK _ ?_⟩
        clear hK K
        refine wpQuiet_step (fun K hK => ?_)
        go_simp
        apply Exists.intro
        refine And.intro (fun w' hw' => ?_) (hK _ ?_)
        · refine ((unhide HNXI _ hw')).mono ?_
          rintro e w'' ⟨rfl, hb⟩
          exact ⟨rfl, hw'.trans (hb.mono hw'.size)⟩
        clear hK K
        refine wpQuiet_step (fun K hK => ?_)
        go_simp
        refine ⟨.bool false, fun w' hw' => ?_, hK _ ?_⟩
        · have hno' := unhide HNX
          by_cases x1 : k.kind = 2
          · have x2 : ¬ k.num = (c.m : Int) + 1 := fun h => hno' ⟨x1, h⟩
            simp only [x1, x2, if_true, if_false]
            exact ⟨trivial, trivial⟩
          · simp only [x1, if_false]
            exact ⟨trivial, trivial⟩
        clear hK K
        refine wpQuiet_nil ?_
        intro w5 hw5
        have hA5 : AEnd w5 bk (.slice la c.n lc) r1 R2c E1 Sc (onW c k v) := ⟨(unhide HA4).bm.below hw5, (unhide HA4).e.keep hw5.size (hw5.block _ (unhide HA4).e.lt), (unhide HA4).eb, (unhide HA4).ne⟩
        have HB5 := hide ((unhide HB4).trans (hw5.mono (by omega)))
        have HCALL : Hid (Calls Tryd.prog 47 #[.pointer (some ⟨bk, 0, none⟩), .pointer (some ⟨E1 c.n, 0, none⟩)] w5 fun e w' => (∃ u, e = .returned u) ∧ (∃ R2' S', AEnd w' bk (.slice la c.n lc) r1 R2' E1 S' { comeC hf c k v with n := c.n }) ∧ Below bk w w') := hide (by
          have hT5 : T w5 := hTb _ _ (unhide HT) (unhide HB5)
          have hLn : ((onW c k v).L (onW c k v).n) = ⟨k, v, c.turns + 1⟩ := onW_L c k v
          have hrn : (roomD hf c).n = c.n := (roomD_inv hci hclive).2.2.n
          have hcome : enterD hf (roomB hf (onW c k v)) ((onW c k v).L (onW c k v).n).key (onW c k v).n = { comeC hf c k v with n := c.n } := by
            have e1 : comeC hf c k v = enterD hf (addL (roomD hf c) k v) k c.n := by unfold comeC; rw [if_neg (unhide HNS), if_neg (unhide HNX)]
            rw [e1, hLn, room_onW hci.core, onW_addL hrn]
            exact enter_cut hf (addL (roomD hf c) k v) k c.n c.n
          obtain ⟨cR2, hbR2⟩ := hA5.bm.slots.block (b := R2c) rfl
          have hae := hA5.e
          refine (addToIndex_any T hTl hf bk hTb (.slice la c.n lc) r1 R2c E1 Sc (onW c k v) w5 hT5 hA5.bm (unhide HSm) (fun i hi ht => by
            have hi' : i < c.n := hi
            rw [onW_old c k v hi'] at ht ⊢
            exact hHs _ (hci.keys i hi' ht)) (by rw [hld_onW]; exact livN_hld hci.core hclive) hae hA5.eb (by rw [hLn]; exact hHs k hk) (fun j hj => by
            rcases hci.idx.range j hj with e | e | e
            · exact .inl e
            · exact .inr (.inl e)
            · exact .inr (.inr e.1)) hci.used).mono ?_
          rintro e w' ⟨⟨hu, R2', S', hN⟩, hkx⟩
          rw [hcome] at hN
          have hblk := hkx.blk (E1 c.n) hae.lt (by
            rintro (e | e)
            · have h' : bk < E1 c.n := hA5.eb
              omega
            · exact type_apart (e ▸ hae.ob) hbR2 (by decide))
          refine ⟨hu, ⟨R2', S', hN, ?_, hA5.eb, hA5.ne⟩, (unhide HB5).trans hkx.bel⟩
          have h1 : (comeC hf c k v).L c.n = (onW c k v).L c.n := by rw [unhide HML]; rfl
          show ECell w' (E1 c.n) ((comeC hf c k v).L c.n) c.n
          rw [h1]
          exact hae.keep hkx.bel.size hblk)
        clear hA5 HB5 hw5 HA4 HB4 HNXI q04 q14 q24 q34 q44
        go_wp2_with fail
        refine (unhide HCALL).mono ?_
        rintro e w6 ⟨⟨uu6, rfl⟩, ⟨R2x, Sx, hA6x⟩, hB6x⟩
        have HRES : Hid ({ { comeC hf c k v with n := c.n } with n := c.n + 1 } = comeC hf c k v) := hide (by
          have h1 := unhide HMn
          generalize comeC hf c k v = M at h1
          cases M
          simp only at h1
          subst h1
          rfl)
        have HA6x := hide hA6x
        have HB6x := hide hB6x
        clear hA6x hB6x HCALL
        have HA6 : Hid (AEnd (w6) bk (.slice la c.n lc) r1 R2x E1 Sx { comeC hf c k v with n := c.n }) := hide (unhide HA6x)
        have HB6 : Hid (Below bk w (w6)) := hide (unhide HB6x)
        have HLOG : Hid (Rw (w6) (bk + 1) tEnt (.slice la c.n lc) c.n (fun i => some ⟨E1 i, 0, none⟩)) := hide ((unhide HA6).bm.log)
        have c0x : (w6).cell? ⟨bk, 0, none⟩ = some (.slice la c.n lc) := (unhide HA6).bm.c0
        have lbx : bk < (w6).heap.size := (unhide HA6).bm.lt
        have HFIN : Hid (∀ (o : Obj) (g3 cp3 : Nat) (w3 : World), w3.ownsRow (bk + 1) tEnt 1 (.slice (some ⟨g3, 0, none⟩) (c.n + 1) cp3) (c.n + 1) (ptL (fun i => some ⟨E1 i, 0, none⟩) c.n ++ [.pointer (some ⟨E1 c.n, 0, none⟩)]) → ((w6).alloc o).grownBy w3 (Value.slice la c.n lc).ownBlock → ((Value.slice la c.n lc).ownBlock = some g3 ∨ g3 = (w6).heap.size + 1) →
            w3.cell? ⟨bk, 0, none⟩ = some (.slice la c.n lc) ∧ w3.frozen? ⟨bk, 0, none⟩ = false ∧ bk < w3.heap.size ∧ (∃ r1' R2' S', BMut (w3.setCell ⟨bk, 0, none⟩ (.slice (some ⟨g3, 0, none⟩) (c.n + 1) cp3)) bk (.slice (some ⟨g3, 0, none⟩) (c.n + 1) cp3) r1' R2' E1 S' (comeC hf c k v)) ∧ Below bk w (w3.setCell ⟨bk, 0, none⟩ (.slice (some ⟨g3, 0, none⟩) (c.n + 1) cp3))) := hide (fun o g3 cp3 w3 h1 h2 h3 => by
          obtain ⟨p1, p2, p3, p4, p5⟩ := (unhide HA6).fin h1 h2 h3
          exact ⟨p1, p2, p3, ⟨_, _, _, by rw [← unhide HRES]; exact p4⟩, (unhide HB6).trans p5⟩)
        clear HA6 HB6
        go_wp2_with (at_builtin; refine wpList_append_lies _ rfl _ _ 60 rfl (bk + 1) tEnt i0 (.pointer none) 1 8 Tryd.underlying60 hi0 hz0 hz1 hz2 rfl (by decide) (.slice la c.n lc) c.n (ptL (fun i => some ⟨E1 i, 0, none⟩) c.n) rfl (World.ownsRow.alloc (unhide HLOG) _) ⟨(w6).heap.size, 0, none⟩ 1 1 [.pointer (some ⟨E1 c.n, 0, none⟩)] rfl rfl (World.news_of_block (Deep.blk_alloc_new _ _)) (by simp [Value.oneCell']) (by decide) (by unfold maxLen; omega) (by omega) (by simp; omega) ((w6).heap.size + 1) (by simp) ?_; intro g3 cp3 w3 hown3 hgr3 hloc3 hlt3; obtain ⟨x3, f3, lx3, hN3, hB3⟩ := unhide HFIN _ g3 cp3 w3 hown3 hgr3 hloc3; have HN3 := hide hN3; have HBB := hide hB3; clear hown3 hgr3 hloc3 hN3 hB3)
        go_end0
        obtain ⟨r1', R2', S', hN⟩ := unhide HN3
        exact ⟨⟨⟨_, rfl⟩, _, r1', R2', E1, S', hN⟩, unhide HBB⟩
  · have HLT := hide (tells_no hlo)
    have hcd := unhide HC hlo
    subst hcd
    clear hlo HC HTIGHT
    go_enter Tryd.func29, Tryd.ntmps29
    go_wp2_with fail
    refine (unhide HLO _ (unhide HB0)).mono ?_
    rintro e W ⟨rfl, hb1⟩
    rw [unhide HLT]
    have hMc := (unhide HM).below ((unhide HB0).trans (hb1.mono (unhide HB0).size))
    have vk : VBox W w.heap.size k := (unhide HV0).1.keep hb1.size (hb1.block _ (unhide HV0).1.lt)
    have vv : VBox W (w.heap.size + 1) v := (unhide HV0).2.keep hb1.size (hb1.block _ (unhide HV0).2.lt)
    have hBW : Below bk w W := ((unhide HB0).trans (hb1.mono (unhide HB0).size)).mono (by omega)
    clear hb1 HV0 HB0 HLO
    obtain ⟨la, lc, e0⟩ := hMc.log.slice
    subst e0
    have c6 := hMc.c6
    have c5 := hMc.c5
    have f5 := hMc.fz 5
    have f6 := hMc.fz 6
    have hlW := hMc.lt
    have tp := hci.turns.1
    have cp0 : 0 ≤ c.live := by have := hci.log.cnt; omega
    have hw6 : IntKind.i64.wrap (c.turns + 1) = c.turns + 1 := by rw [IntKind.wrap_i64]; omega
    have hw5 : IntKind.i64.wrap (c.live + 1) = c.live + 1 := by rw [IntKind.wrap_i64]; omega
    have HM2 := hide ((hMc.setTurns (c.turns + 1)).setLive (c.live + 1))
    have HVK := hide vk
    have HVV := hide vv
    have HBW := hide hBW
    clear hMc vk vv hBW
    go_wp2_with fail
    generalize hW2 : (W.setCell ⟨bk, 6, none⟩ (.int .i64 (c.turns + 1))).setCell ⟨bk, 5, none⟩ (.int .i64 (c.live + 1)) = W2 at *
    have vk2 : VBox W2 w.heap.size k := (unhide HVK).keep (by rw [← hW2]; simp) (by rw [← hW2]; exact (Deep.blk_setCell_other _ _ _ _ (by show w.heap.size ≠ bk; omega)).trans (Deep.blk_setCell_other _ _ _ _ (by show w.heap.size ≠ bk; omega)))
    have vv2 : VBox W2 (w.heap.size + 1) v := (unhide HVV).keep (by rw [← hW2]; simp) (by rw [← hW2]; exact (Deep.blk_setCell_other _ _ _ _ (by show w.heap.size + 1 ≠ bk; omega)).trans (Deep.blk_setCell_other _ _ _ _ (by show w.heap.size + 1 ≠ bk; omega)))
    have HB2 : Hid (Below bk w W2) := hide (by rw [← hW2]; exact ((unhide HBW).setCell (by exact Nat.le_refl _) _).setCell (by exact Nat.le_refl _) _)
    have hM2 := unhide HM2
    have hl2 : bk < W2.heap.size := hM2.lt
    have c6' : W2.cell? ⟨bk, 6, none⟩ = some (.int .i64 (c.turns + 1)) := hM2.c6
    have c0' : W2.cell? ⟨bk, 0, none⟩ = some (.slice la c.n lc) := hM2.c0
    have lk2 := vk2.lt
    have lv2 := vv2.lt
    have hS0 : HeldN w.heap.size bk k v (c.turns + 1) la c.n lc W2.drew := ⟨vk2.k0, vk2.k1, vk2.k2, vk2.k3, vk2.k4, vv2.k0, vv2.k1, vv2.k2, vv2.k3, vv2.k4, c6', c0'⟩
    have HVK2 := hide vk2
    clear HVK HVV HBW hM2 vk2 vv2 c6 c5 f5 f6 c6' c0' hW2 hw5 hw6
    refine wpN_held (HeldN w.heap.size bk k v (c.turns + 1) la c.n lc) (by kernel_rfl) ?_
    change wpAnyH _ _ _ _ _ _ _ _ (World.drew _)
    refine tk 0 (v := ?_) rfl (by kernel_rfl) (by rfl) ?_ (by assumption) ?_
    rotate_left
    · intro w' ⟨s0, s1, s2, s3, s4, s5, s6, s7, s8, s9, s10, s11⟩; go_simp; first | done | with_reducible rfl
    simp only [Act.put, List.setIfInBounds_toArray, List.set_cons_succ, List.set_cons_zero]
    refine tk 1 (v := ?_) rfl (by kernel_rfl) (by rfl) ?_ (by assumption) ?_
    rotate_left
    · intro w' ⟨s0, s1, s2, s3, s4, s5, s6, s7, s8, s9, s10, s11⟩; go_simp; first | done | with_reducible rfl
    simp only [Act.put, List.setIfInBounds_toArray, List.set_cons_succ, List.set_cons_zero]
    refine tk 2 (v := ?_) rfl (by kernel_rfl) (by rfl) ?_ (by assumption) ?_
    rotate_left
    · intro w' ⟨s0, s1, s2, s3, s4, s5, s6, s7, s8, s9, s10, s11⟩; go_simp; first | done | with_reducible rfl
    simp only [Act.put, List.setIfInBounds_toArray, List.set_cons_succ, List.set_cons_zero]
    refine tk 3 (v := ?_) rfl (by kernel_rfl) (by rfl) ?_ (by assumption) ?_
    rotate_left
    · intro w' ⟨s0, s1, s2, s3, s4, s5, s6, s7, s8, s9, s10, s11⟩; go_simp; first | done | with_reducible rfl
    simp only [Act.put, List.setIfInBounds_toArray, List.set_cons_succ, List.set_cons_zero]
    refine tk 4 (v := ?_) rfl (by kernel_rfl) (by rfl) ?_ (by assumption) ?_
    rotate_left
    · intro w' ⟨s0, s1, s2, s3, s4, s5, s6, s7, s8, s9, s10, s11⟩; go_simp; first | done | with_reducible rfl
    simp only [Act.put, List.setIfInBounds_toArray, List.set_cons_succ, List.set_cons_zero]
    refine tk 5 (v := ?_) rfl (by kernel_rfl) (by rfl) ?_ (by assumption) ?_
    rotate_left
    · intro w' ⟨s0, s1, s2, s3, s4, s5, s6, s7, s8, s9, s10, s11⟩; go_simp; first | done | with_reducible rfl
    simp only [Act.put, List.setIfInBounds_toArray, List.set_cons_succ, List.set_cons_zero]
    refine tk 6 (v := ?_) rfl (by kernel_rfl) (by rfl) ?_ (by assumption) ?_
    rotate_left
    · intro w' ⟨s0, s1, s2, s3, s4, s5, s6, s7, s8, s9, s10, s11⟩; go_simp; first | done | with_reducible rfl
    simp only [Act.put, List.setIfInBounds_toArray, List.set_cons_succ, List.set_cons_zero]
    refine tk 7 (v := ?_) rfl (by kernel_rfl) (by rfl) ?_ (by assumption) ?_
    rotate_left
    · intro w' ⟨s0, s1, s2, s3, s4, s5, s6, s7, s8, s9, s10, s11⟩; go_simp; first | done | with_reducible rfl
    simp only [Act.put, List.setIfInBounds_toArray, List.set_cons_succ, List.set_cons_zero]
    refine tk 8 (v := ?_) rfl (by kernel_rfl) (by rfl) ?_ (by assumption) ?_
    rotate_left
    · intro w' ⟨s0, s1, s2, s3, s4, s5, s6, s7, s8, s9, s10, s11⟩; go_simp; first | done | with_reducible rfl
    simp only [Act.put, List.setIfInBounds_toArray, List.set_cons_succ, List.set_cons_zero]
    refine tk 9 (v := ?_) rfl (by kernel_rfl) (by rfl) ?_ (by assumption) ?_
    rotate_left
    · intro w' ⟨s0, s1, s2, s3, s4, s5, s6, s7, s8, s9, s10, s11⟩; go_simp; first | done | with_reducible rfl
    simp only [Act.put, List.setIfInBounds_toArray, List.set_cons_succ, List.set_cons_zero]
    refine tk 10 (v := ?_) rfl (by kernel_rfl) (by rfl) ?_ (by assumption) ?_
    rotate_left
    · intro w' ⟨s0, s1, s2, s3, s4, s5, s6, s7, s8, s9, s10, s11⟩; go_simp; first | done | with_reducible rfl
    simp only [Act.put, List.setIfInBounds_toArray, List.set_cons_succ, List.set_cons_zero]
    refine tk 11 (v := ?_) rfl (by kernel_rfl) (by rfl) ?_ (by assumption) ?_
    rotate_left
    · intro w' ⟨s0, s1, s2, s3, s4, s5, s6, s7, s8, s9, s10, s11⟩; go_simp; first | done | with_reducible rfl
    simp only [Act.put, List.setIfInBounds_toArray, List.set_cons_succ, List.set_cons_zero]
    refine tk 12 (v := ?_) rfl (by kernel_rfl) (by rfl) ?_ (by assumption) ?_
    rotate_left
    · intro w' ⟨s0, s1, s2, s3, s4, s5, s6, s7, s8, s9, s10, s11⟩; go_simp; first | done | with_reducible rfl
    simp only [Act.put, List.setIfInBounds_toArray, List.set_cons_succ, List.set_cons_zero]
    refine wpAnyH_ready (rs := [13]) (by kernel_rfl) (by simp) ?_
    refine AllReadyH.cons rfl (fun K hK => ?_) AllReadyH.nil
    go_simp
    refine hK.out _ _ (hS0.below ((Below.refl _ _).alloc (Nat.le_refl _) _) lv2 hl2) (fun hS1 => ?_)
    clear hK K
    refine tk 14 (v := ?_) rfl (by kernel_rfl) (by rfl) ?_ (by assumption) ?_
    rotate_left
    · intro w' ⟨s0, s1, s2, s3, s4, s5, s6, s7, s8, s9, s10, s11⟩; go_simp; first | done | with_reducible rfl
    simp only [Act.put, List.setIfInBounds_toArray, List.set_cons_succ, List.set_cons_zero]
    try simp only [List.getElem_toArray]
    try simp only [List.getElem_cons_succ]
    try simp only [List.getElem_cons_zero]
    try simp only [List.setIfInBounds_toArray]
    try simp only [List.set_cons_succ]
    try simp only [List.set_cons_zero]
    refine wpAnyH_done (by kernel_rfl) ?_ _
    refine QN.normal ?_
    clear hS0 hS1
    obtain ⟨W3, hW3⟩ : ∃ W3, W3 = (W2.alloc (.cells (entA ⟨k, v, c.turns + 1⟩ c.n) 57)).drew := ⟨_, rfl⟩
    try simp only [World.alloc_drew]
    rw [← hW3]
    have z3 : W3.heap.size = W2.heap.size + 1 := by rw [hW3]; simp
    have hb3 : Below W2.heap.size W2 W3 := by rw [hW3]; exact ((Below.refl _ _).alloc (Nat.le_refl _) _).drew
    have ob3 : W3.heap[W2.heap.size]? = some (.cells (entA ⟨k, v, c.turns + 1⟩ c.n) 57 (0, 0)) := by rw [hW3]; exact Deep.blk_alloc_new _ _
    have vk3 : VBox W3 w.heap.size k := (unhide HVK2).keep hb3.size (hb3.block _ lk2)
    have HB3 := hide ((unhide HB2).trans (hb3.mono (by omega)))
    obtain ⟨E1, hE1⟩ : ∃ E1, E1 = upd E c.n W2.heap.size := ⟨_, rfl⟩
    have hE1n : E1 c.n = W2.heap.size := by rw [hE1]; exact upd_same _ _ _
    have hA : AEnd W3 bk (.slice la c.n lc) r1 R2 E1 S (onW c k v) := by
      have hM3 := (unhide HM2).below hb3
      refine ⟨hM3.of_same rfl rfl rfl rfl rfl rfl (fun _ _ => rfl) (fun _ _ => rfl) (fun i hi => upd_other _ _ (by have hi' : i < c.n := hi; omega)) (fun i hi => by rw [hE1]; exact upd_other _ _ (by have hi' : i < c.n := hi; omega)) hcI hcX, ?_, ?_, fun i hi => ?_⟩
      · show ECell W3 (E1 c.n) ((onW c k v).L c.n) c.n
        rw [hE1n, onW_L]
        exact ECell.of_ob ob3
      · show bk < E1 c.n
        omega
      · have hi' : i < c.n := hi
        show E1 i ≠ E1 c.n
        rw [hE1n, hE1, upd_other _ _ (by omega)]
        have := ((unhide HM2).ent i hi').lt
        omega
    have l3 := vk3.lt
    have lb3 := hA.bm.lt
    obtain ⟨R1, k1, e1⟩ := hA.bm.rf
    have e1 : r1 = .slice (some ⟨R1, 0, none⟩) c.m k1 := e1
    have c1 : W3.cell? ⟨bk, 1, none⟩ = some (.slice (some ⟨R1, 0, none⟩) c.m k1) := by rw [← e1]; exact hA.bm.c1
    have hR1 := (hA.bm.ints.lt R1 (by rw [e1]; rfl)).1
    have hR1l := (hA.bm.ints.lt R1 (by rw [e1]; rfl)).2
    have q0 := vk3.k0
    have q1 := vk3.k1
    have q2 := vk3.k2
    have q3 := vk3.k3
    have q4 := vk3.k4
    have HA := hide hA
    have HVK3 := hide vk3
    have HE1 := hide hE1n
    have HE1r := hide e1
    rw [← hE1n]
    clear hA vk3 hE1 hE1n e1 ob3 hb3 hW3 HM2 HB2 HVK2 z3
    by_cases hs : smallK c.m k
    · have HSM := hide (tells_yes hs)
      obtain ⟨a1, a2, a3⟩ := hs
      obtain ⟨q, hq⟩ : ∃ q : Nat, k.num = (q : Int) + 1 := ⟨(k.num - 1).toNat, by omega⟩
      have hqm : q < c.m := by omega
      have HRES : Hid ({ onW c k v with I := upd (onW c k v).I q ((c.n : Int) + 1), n := c.n + 1 } = comeC hf c k v) := hide (by
        have e : comeC hf c k v = addSmall c k v := if_pos ⟨a1, a2, a3⟩
        rw [e]
        unfold addSmall
        rw [show (k.num - 1).toNat = q by omega]
        rfl)
      have hwq : IntKind.i64.wrap (q : Int) = q := by rw [IntKind.wrap_i64]; omega
      have HQ := hide hq
      clear a1 a2 a3 hq
      go_wp2_with fail
      refine wp_region_quiet (C := fun w' => Below W3.heap.size W3 w') (by kernel_rfl) (by kernel_rfl) ((Below.refl _ _).drew) ?_
      show wpQuiet _ _ _ _ [_, _, _, _, _, _, _] _
      refine wpQuiet_step (fun K hK => ?_)
      go_simp
      apply Exists.intro
      refine And.intro (fun w' hw' => ?_) (hK _ ?_)
      · obtain ⟨hc', hf'⟩ := bcell hw'
        go_simp
        first | rfl | exact ⟨rfl, rfl⟩ | exact ⟨rfl⟩
      clear hK K
      refine wpQuiet_step (fun K hK => ?_)
      go_simp
      refine ⟨_, fun w' hw' => rfl, hK _ ?_⟩
      clear hK K
      refine wpQuiet_step (fun K hK => ?_)
      go_simp
      refine ⟨_, fun w' hw' => rfl, hK _ ?_⟩
      clear hK K
      refine wpQuiet_step (fun K hK => ?_)
      go_simp
      refine ⟨_, fun w' hw' => rfl, hK _ ?_⟩
      clear hK K
      refine wpQuiet_step (fun K hK => ?_)
      go_simp
      apply Exists.intro
      refine And.intro (fun w' hw' => ?_) (hK _ ?_)
      · obtain ⟨hc', hf'⟩ := bcell hw'
        go_simp
        first | rfl | exact ⟨rfl, rfl⟩ | exact ⟨rfl⟩
      clear hK K
      refine wpQuiet_step (fun K hK => ?_)
      go_simp
      refine ⟨_, fun w' hw' => rfl, hK _ ?_⟩
      clear hK K
      refine wpQuiet_step (fun K hK => ?_)
      go_simp
      apply Exists.intro
      refine And.intro (fun w' hw' => ?_) (hK _ ?_)
      · refine (((unhide HSM) ▸ hasPlace_any k c.m _ (by omega))).mono ?_
        rintro e w'' ⟨rfl, hb⟩
        exact ⟨rfl, hw'.trans (hb.mono hw'.size)⟩
      clear hK K
      refine wpQuiet_nil ?_
      intro w4 hw4
      have l4 := Nat.lt_of_lt_of_le l3 hw4.size
      have lb4 := Nat.lt_of_lt_of_le lb3 hw4.size
      have c14 := (hw4.cell (p := ⟨bk, 1, none⟩) lb3).trans c1
      have q14 := (hw4.cell (p := ⟨w.heap.size, 1, none⟩) l3).trans q1
      rw [unhide HQ] at q14
      have hR1l4 := Nat.lt_of_lt_of_le hR1l hw4.size
      have hA4 : AEnd w4 bk (.slice la c.n lc) r1 R2 E1 S (onW c k v) := ⟨(unhide HA).bm.below hw4, (unhide HA).e.keep hw4.size (hw4.block _ (unhide HA).e.lt), (unhide HA).eb, (unhide HA).ne⟩
      have hbm4 : BMut w4 bk (.slice la c.n lc) (.slice (some ⟨R1, 0, none⟩) c.m k1) R2 E1 S (onW c k v) := by rw [← unhide HE1r]; exact hA4.bm
      obtain ⟨_, _, e5, _, _, _, hc5, hf5⟩ := hbm4.ints.form (by show 0 < c.m; omega)
      cases e5
      have d5 := hc5 q (by show q < c.m; exact hqm)
      have f5 := hf5 q
      obtain ⟨cR1, hbR1⟩ := hbm4.ints.block (b := R1) rfl
      have hp := BMut.putI (d := onW c k v) hbm4 (i := q) (by show q < c.m; exact hqm) ((c.n : Int) + 1)
      rw [show entP E1 ((c.n : Int) + 1) = some ⟨E1 c.n, 0, none⟩ by unfold entP; rw [if_pos (by omega), show ((c.n : Int) + 1 - 1).toNat = c.n by omega]] at hp
      have HA5 : Hid (AEnd (w4.setCell ⟨R1, q, none⟩ (.pointer (some ⟨E1 c.n, 0, none⟩))).drew bk (.slice la c.n lc) (.slice (some ⟨R1, 0, none⟩) c.m k1) R2 E1 S { onW c k v with I := upd (onW c k v).I q ((c.n : Int) + 1) })   := hide ⟨hp.below (Below.refl _ _).drew, hA4.e.keep (by simp) (Deep.blk_setCell_other _ _ _ _ (by show E1 c.n ≠ R1; exact fun e => type_apart (e ▸ hA4.e.ob) hbR1 (by decide))), hA4.eb, hA4.ne⟩
      have HB4 := hide (((unhide HB3).trans (hw4.mono (by omega))).setCell (p := ⟨R1, q, none⟩) (by show bk ≤ R1; omega) (.pointer (some ⟨E1 c.n, 0, none⟩))).drew
      have hS0 : HeldT bk w.heap.size R1 c.m k1 q w4.drew := ⟨c14, q14⟩
      have hne : R1 ≠ w.heap.size := fun e => by
        have h1 := (unhide HVK3).keep hw4.size (hw4.block _ l3)
        have h2 := h1.k0
        rw [← e] at h2
        rw [hc5 0 (by show 0 < c.m; omega)] at h2
        cases h2
      clear hbm4 hA4 hp hbR1 hw4 HA hc5 hf5 q0 q1 q2 q3 q4 c1
      go_wp2_with fail
      refine wpN_held (HeldT bk w.heap.size R1 c.m k1 q) (by kernel_rfl) ?_
      change wpAnyH _ _ _ _ _ _ _ _ (World.drew _)
      refine tk 0 (v := ?_) rfl (by kernel_rfl) (by rfl) ?_ (by assumption) ?_
      rotate_left
      · intro w' ⟨s0, s1⟩; go_simp; first | done | with_reducible rfl
      simp only [Act.put, List.setIfInBounds_toArray, List.set_cons_succ, List.set_cons_zero]
      refine tk 1 (v := ?_) rfl (by kernel_rfl) (by rfl) ?_ (by assumption) ?_
      rotate_left
      · intro w' ⟨s0, s1⟩; go_simp; first | done | with_reducible rfl
      simp only [Act.put, List.setIfInBounds_toArray, List.set_cons_succ, List.set_cons_zero]
      refine tk 2 (v := ?_) rfl (by kernel_rfl) (by rfl) ?_ (by assumption) ?_
      rotate_left
      · intro w' ⟨s0, s1⟩; go_simp; first | done | with_reducible rfl
      simp only [Act.put, List.setIfInBounds_toArray, List.set_cons_succ, List.set_cons_zero]
      refine tk 3 (v := ?_) rfl (by kernel_rfl) (by rfl) ?_ (by assumption) ?_
      rotate_left
      · intro w' ⟨s0, s1⟩; go_simp; first | done | with_reducible rfl
      simp only [Act.put, List.setIfInBounds_toArray, List.set_cons_succ, List.set_cons_zero]
      refine tk 4 (v := ?_) rfl (by kernel_rfl) (by rfl) ?_ (by assumption) ?_
      rotate_left
      · intro w' ⟨s0, s1⟩; go_simp; first | done | with_reducible rfl
      simp only [Act.put, List.setIfInBounds_toArray, List.set_cons_succ, List.set_cons_zero]
      refine tk 5 (v := ?_) rfl (by kernel_rfl) (by rfl) ?_ (by assumption) ?_
      rotate_left
      · intro w' ⟨s0, s1⟩; go_simp; first | done | with_reducible rfl
      simp only [Act.put, List.setIfInBounds_toArray, List.set_cons_succ, List.set_cons_zero]
      refine tk 6 (v := ?_) rfl (by kernel_rfl) (by rfl) ?_ (by assumption) ?_
      rotate_left
      · intro w' ⟨s0, s1⟩; go_simp; first | done | with_reducible rfl
      simp only [Act.put, List.setIfInBounds_toArray, List.set_cons_succ, List.set_cons_zero]
      refine tk 7 (v := ?_) rfl (by kernel_rfl) (by rfl) ?_ (by assumption) ?_
      rotate_left
      · intro w' ⟨s0, s1⟩; go_simp; first | done | with_reducible rfl
      simp only [Act.put, List.setIfInBounds_toArray, List.set_cons_succ, List.set_cons_zero]
      refine tk 8 (v := ?_) rfl (by kernel_rfl) (by rfl) ?_ (by assumption) ?_
      rotate_left
      · intro w' ⟨s0, s1⟩; go_simp; first | done | with_reducible rfl
      simp only [Act.put, List.setIfInBounds_toArray, List.set_cons_succ, List.set_cons_zero]
      refine wpAnyH_ready (rs := [9]) (by kernel_rfl) (by simp) ?_
      refine AllReadyH.cons rfl (fun K hK => ?_) AllReadyH.nil
      go_simp
      refine hK.out _ _ ⟨(cell_set_block (by omega)).trans hS0.1, (cell_set_block hne).trans hS0.2⟩ (fun _ => ?_)
      clear hK K hS0
      refine wpAnyH_done (by kernel_rfl) ?_ _
      refine QN.normal ?_
      generalize hW5 : (w4.setCell ⟨R1, q, none⟩ (.pointer (some ⟨E1 c.n, 0, none⟩))).drew = W5 at *
      have HA6 : Hid (AEnd (W5) bk (.slice la c.n lc) (.slice (some ⟨R1, 0, none⟩) c.m k1) R2 E1 S { onW c k v with I := upd (onW c k v).I q ((c.n : Int) + 1) }) := hide (unhide HA5)
      have HB6 : Hid (Below bk w (W5)) := hide (unhide HB4)
      have HLOG : Hid (Rw (W5) (bk + 1) tEnt (.slice la c.n lc) c.n (fun i => some ⟨E1 i, 0, none⟩)) := hide ((unhide HA6).bm.log)
      have c0x : (W5).cell? ⟨bk, 0, none⟩ = some (.slice la c.n lc) := (unhide HA6).bm.c0
      have lbx : bk < (W5).heap.size := (unhide HA6).bm.lt
      have HFIN : Hid (∀ (o : Obj) (g3 cp3 : Nat) (w3 : World), w3.ownsRow (bk + 1) tEnt 1 (.slice (some ⟨g3, 0, none⟩) (c.n + 1) cp3) (c.n + 1) (ptL (fun i => some ⟨E1 i, 0, none⟩) c.n ++ [.pointer (some ⟨E1 c.n, 0, none⟩)]) → ((W5).alloc o).grownBy w3 (Value.slice la c.n lc).ownBlock → ((Value.slice la c.n lc).ownBlock = some g3 ∨ g3 = (W5).heap.size + 1) →
          w3.cell? ⟨bk, 0, none⟩ = some (.slice la c.n lc) ∧ w3.frozen? ⟨bk, 0, none⟩ = false ∧ bk < w3.heap.size ∧ (∃ r1' R2' S', BMut (w3.setCell ⟨bk, 0, none⟩ (.slice (some ⟨g3, 0, none⟩) (c.n + 1) cp3)) bk (.slice (some ⟨g3, 0, none⟩) (c.n + 1) cp3) r1' R2' E1 S' (comeC hf c k v)) ∧ Below bk w (w3.setCell ⟨bk, 0, none⟩ (.slice (some ⟨g3, 0, none⟩) (c.n + 1) cp3))) := hide (fun o g3 cp3 w3 h1 h2 h3 => by
        obtain ⟨p1, p2, p3, p4, p5⟩ := (unhide HA6).fin h1 h2 h3
        exact ⟨p1, p2, p3, ⟨_, _, _, by rw [← unhide HRES]; exact p4⟩, (unhide HB6).trans p5⟩)
      clear HA6 HB6
      go_wp2_with (at_builtin; refine wpList_append_lies _ rfl _ _ 60 rfl (bk + 1) tEnt i0 (.pointer none) 1 8 Tryd.underlying60 hi0 hz0 hz1 hz2 rfl (by decide) (.slice la c.n lc) c.n (ptL (fun i => some ⟨E1 i, 0, none⟩) c.n) rfl (World.ownsRow.alloc (unhide HLOG) _) ⟨(W5).heap.size, 0, none⟩ 1 1 [.pointer (some ⟨E1 c.n, 0, none⟩)] rfl rfl (World.news_of_block (Deep.blk_alloc_new _ _)) (by simp [Value.oneCell']) (by decide) (by unfold maxLen; omega) (by omega) (by simp; omega) ((W5).heap.size + 1) (by simp) ?_; intro g3 cp3 w3 hown3 hgr3 hloc3 hlt3; obtain ⟨x3, f3, lx3, hN3, hB3⟩ := unhide HFIN _ g3 cp3 w3 hown3 hgr3 hloc3; have HN3 := hide hN3; have HBB := hide hB3; clear hown3 hgr3 hloc3 hN3 hB3)
      go_end0
      obtain ⟨r1', R2', S', hN⟩ := unhide HN3
      exact ⟨⟨⟨_, rfl⟩, _, r1', R2', E1, S', hN⟩, unhide HBB⟩
    · have HSM := hide (tells_no hs)
      have HNS := hide hs
      have hci' := comeC_inv KL hci hcn hk hkb hv hv0 hcno hclive hcturn
      have HMn := hide hci'.2.2.1
      have HML := hide hci'.2.2.2.1
      clear hs hci'
      go_wp2_with fail
      refine wp_region_quiet (C := fun w' => Below W3.heap.size W3 w') (by kernel_rfl) (by kernel_rfl) ((Below.refl _ _).drew) ?_
      show wpQuiet _ _ _ _ [_, _, _, _, _, _, _] _
      refine wpQuiet_step (fun K hK => ?_)
      go_simp
      apply Exists.intro
      refine And.intro (fun w' hw' => ?_) (hK _ ?_)
      · obtain ⟨hc', hf'⟩ := bcell hw'
        go_simp
        first | rfl | exact ⟨rfl, rfl⟩ | exact ⟨rfl⟩
      clear hK K
      refine wpQuiet_step (fun K hK => ?_)
      go_simp
      refine ⟨_, fun w' hw' => rfl, hK _ ?_⟩
      clear hK K
      refine wpQuiet_step (fun K hK => ?_)
      go_simp
      refine ⟨_, fun w' hw' => rfl, hK _ ?_⟩
      clear hK K
      refine wpQuiet_step (fun K hK => ?_)
      go_simp
      refine ⟨_, fun w' hw' => rfl, hK _ ?_⟩
      clear hK K
      refine wpQuiet_step (fun K hK => ?_)
      go_simp
      apply Exists.intro
      refine And.intro (fun w' hw' => ?_) (hK _ ?_)
      · obtain ⟨hc', hf'⟩ := bcell hw'
        go_simp
        first | rfl | exact ⟨rfl, rfl⟩ | exact ⟨rfl⟩
      clear hK K
      refine wpQuiet_step (fun K hK => ?_)
      go_simp
      refine ⟨_, fun w' hw' => rfl, hK _ ?_⟩
      clear hK K
      refine wpQuiet_step (fun K hK => ?_)
      go_simp
      apply Exists.intro
      refine And.intro (fun w' hw' => ?_) (hK _ ?_)
      · refine (((unhide HSM) ▸ hasPlace_any k c.m _ (by omega))).mono ?_
        rintro e w'' ⟨rfl, hb⟩
        exact ⟨rfl, hw'.trans (hb.mono hw'.size)⟩
      clear hK K
      refine wpQuiet_nil ?_
      intro w4 hw4
      have l4 := Nat.lt_of_lt_of_le l3 hw4.size
      have lb4 := Nat.lt_of_lt_of_le lb3 hw4.size
      have vk4 := (unhide HVK3).keep hw4.size (hw4.block _ l3)
      have q04 := vk4.k0
      have q14 := vk4.k1
      have q24 := vk4.k2
      have q34 := vk4.k3
      have q44 := vk4.k4
      have hA4 : AEnd w4 bk (.slice la c.n lc) r1 R2 E1 S (onW c k v) := ⟨(unhide HA).bm.below hw4, (unhide HA).e.keep hw4.size (hw4.block _ (unhide HA).e.lt), (unhide HA).eb, (unhide HA).ne⟩
      have HB4 := hide ((unhide HB3).trans (hw4.mono (by omega)))
      have HSm : Hid (Small (onW c k v)) := hide ⟨hcn', by show c.m ≤ _; omega, by show c.x ≤ _; omega⟩
      have HNXI : Hid (∀ w', Below w4.heap.size w4 w' → Calls Tryd.prog 35 #[.pointer (some ⟨bk, 0, none⟩)] w' fun e w'' => e = .returned (V 2 ((c.m : Int) + 1) 0 ⟨#[]⟩ 0) ∧ Below w'.heap.size w' w'') := hide (fun w' hw' => by
        obtain ⟨R0', R1', hB'⟩ := (hA4.bm.below hw').book
        exact nextInt_any bk R0' R1' R2 E1 S (onW c k v) w' hB' (unhide HSm))
      have HA4 := hide hA4
      clear hw4 HA vk4 hA4 q0 q1 q2 q3 q4 c1
      by_cases hnx : k.kind = 2 ∧ k.num = (c.m : Int) + 1
      · have HNX := hide hnx
        have HF := hide (int_key hkb hnx.1)
        clear hnx
        go_wp2_with fail
        refine wp_region_quiet (C := fun w' => Below w4.heap.size w4 w') (by kernel_rfl) (by kernel_rfl) ((Below.refl _ _).drew) ?_
        show wpQuiet _ _ _ _ [_, _, _, _] _
        refine wpQuiet_step (fun K hK => ?_)
        go_simp
        apply Exists.intro
        refine And.intro (fun w' hw' => ?_) (hK _ ?_)
        · obtain ⟨hc', hf'⟩ := bcell hw'
          go_simp
          first | rfl | exact ⟨rfl, rfl⟩ | exact ⟨rfl⟩
        clear hK K
        refine wpQuiet_step (fun K hK => ?_)
        go_simp
        refine ⟨_, fun w' hw' => rfl, hK _ ?_⟩
        clear hK K
        refine wpQuiet_step (fun K hK => ?_)
        go_simp
        apply Exists.intro
        refine And.intro (fun w' hw' => ?_) (hK _ ?_)
        · refine ((unhide HNXI _ hw')).mono ?_
          rintro e w'' ⟨rfl, hb⟩
          exact ⟨rfl, hw'.trans (hb.mono hw'.size)⟩
        clear hK K
        refine wpQuiet_step (fun K hK => ?_)
        go_simp
        refine ⟨.bool true, fun w' hw' => ?_, hK _ ?_⟩
        · obtain ⟨x1, x2⟩ := unhide HNX
          obtain ⟨x3, x4, x5⟩ := unhide HF
          have x3' : FloatKind.f64.format.order k.flt 0 = some Ordering.eq := by simpa using x3
          have x4' : k.str.toList = [] := List.isEmpty_iff.1 x4
          simp only [x1, x2, x5, x3', x4', if_true]
          exact ⟨trivial, trivial⟩
        clear hK K
        refine wpQuiet_nil ?_
        intro w5 hw5
        have hA5 : AEnd w5 bk (.slice la c.n lc) r1 R2 E1 S (onW c k v) := ⟨(unhide HA4).bm.below hw5, (unhide HA4).e.keep hw5.size (hw5.block _ (unhide HA4).e.lt), (unhide HA4).eb, (unhide HA4).ne⟩
        have HB5 := hide ((unhide HB4).trans (hw5.mono (by omega)))
        have HCALL : Hid (Calls Tryd.prog 46 #[.pointer (some ⟨bk, 0, none⟩), .pointer (some ⟨E1 c.n, 0, none⟩)] w5 fun e w' => (∃ u, e = .returned u) ∧ (∃ r1' S', AEnd w' bk (.slice la c.n lc) r1' R2 E1 S' { comeC hf c k v with n := c.n }) ∧ Below bk w w') := hide (by
          obtain ⟨x1, x2⟩ := unhide HNX
          have hT5 : T w5 := hTb _ _ (unhide HT) (unhide HB5)
          have hLn : ((onW c k v).L (onW c k v).n) = ⟨k, v, c.turns + 1⟩ := onW_L c k v
          have hcome : comeC hf c k v = moveD hf (c.x + 1) (addNext c k v) := by unfold comeC; rw [if_neg (unhide HNS), if_pos ⟨x1, x2⟩]
          obtain ⟨cR1, hbR1⟩ := hA5.bm.ints.block (b := R1) (by rw [unhide HE1r]; rfl)
          obtain ⟨cR2, hbR2⟩ := hA5.bm.slots.block (b := R2) rfl
          have hae := hA5.e
          refine (addNextInt_any T hTl hf K KL hHs bk hTb (.slice la c.n lc) r1 R2 E1 S (onW c k v) w5 hT5 hA5.bm (unhide HSm) hcm (by rw [hLn]; exact x1) (by rw [hLn]; exact x2) (addNext_inv KL hci hk hkb hv hv0 hcno x1 x2 hclive hcturn)).mono ?_
          rintro e w' ⟨⟨hu, r1', S', hN⟩, hkx⟩
          have hN : BMut w' bk (.slice la c.n lc) r1' R2 E1 S' { moveD hf (c.x + 1) (addNext c k v) with n := c.n } := hN
          rw [← hcome] at hN
          have hblk := hkx.blk (E1 c.n) hae.lt (by
            rintro (e | e | e)
            · have := hA5.eb
              have h' : bk < E1 c.n := this
              omega
            · rw [unhide HE1r] at e
              have e' : R1 = E1 c.n := by simpa [Value.ownBlock] using e
              exact type_apart (e' ▸ hae.ob) hbR1 (by decide)
            · exact type_apart (e ▸ hae.ob) hbR2 (by decide))
          refine ⟨hu, ⟨r1', S', hN, ?_, hA5.eb, hA5.ne⟩, (unhide HB5).trans hkx.bel⟩
          have h1 : (comeC hf c k v).L c.n = (onW c k v).L c.n := by rw [unhide HML]; rfl
          show ECell w' (E1 c.n) ((comeC hf c k v).L c.n) c.n
          rw [h1]
          exact hae.keep hkx.bel.size hblk)
        clear hA5 HB5 hw5 HA4 HB4 HNXI q04 q14 q24 q34 q44
        go_wp2_with fail
        refine (unhide HCALL).mono ?_
        rintro e w6 ⟨⟨uu6, rfl⟩, ⟨r1x, Sx, hA6x⟩, hB6x⟩
        have HRES : Hid ({ { comeC hf c k v with n := c.n } with n := c.n + 1 } = comeC hf c k v) := hide (by
          have h1 := unhide HMn
          generalize comeC hf c k v = M at h1
          cases M
          simp only at h1
          subst h1
          rfl)
        have HA6x := hide hA6x
        have HB6x := hide hB6x
        clear hA6x hB6x HCALL
        have HA6 : Hid (AEnd (w6) bk (.slice la c.n lc) r1x R2 E1 Sx { comeC hf c k v with n := c.n }) := hide (unhide HA6x)
        have HB6 : Hid (Below bk w (w6)) := hide (unhide HB6x)
        have HLOG : Hid (Rw (w6) (bk + 1) tEnt (.slice la c.n lc) c.n (fun i => some ⟨E1 i, 0, none⟩)) := hide ((unhide HA6).bm.log)
        have c0x : (w6).cell? ⟨bk, 0, none⟩ = some (.slice la c.n lc) := (unhide HA6).bm.c0
        have lbx : bk < (w6).heap.size := (unhide HA6).bm.lt
        have HFIN : Hid (∀ (o : Obj) (g3 cp3 : Nat) (w3 : World), w3.ownsRow (bk + 1) tEnt 1 (.slice (some ⟨g3, 0, none⟩) (c.n + 1) cp3) (c.n + 1) (ptL (fun i => some ⟨E1 i, 0, none⟩) c.n ++ [.pointer (some ⟨E1 c.n, 0, none⟩)]) → ((w6).alloc o).grownBy w3 (Value.slice la c.n lc).ownBlock → ((Value.slice la c.n lc).ownBlock = some g3 ∨ g3 = (w6).heap.size + 1) →
            w3.cell? ⟨bk, 0, none⟩ = some (.slice la c.n lc) ∧ w3.frozen? ⟨bk, 0, none⟩ = false ∧ bk < w3.heap.size ∧ (∃ r1' R2' S', BMut (w3.setCell ⟨bk, 0, none⟩ (.slice (some ⟨g3, 0, none⟩) (c.n + 1) cp3)) bk (.slice (some ⟨g3, 0, none⟩) (c.n + 1) cp3) r1' R2' E1 S' (comeC hf c k v)) ∧ Below bk w (w3.setCell ⟨bk, 0, none⟩ (.slice (some ⟨g3, 0, none⟩) (c.n + 1) cp3))) := hide (fun o g3 cp3 w3 h1 h2 h3 => by
          obtain ⟨p1, p2, p3, p4, p5⟩ := (unhide HA6).fin h1 h2 h3
          exact ⟨p1, p2, p3, ⟨_, _, _, by rw [← unhide HRES]; exact p4⟩, (unhide HB6).trans p5⟩)
        clear HA6 HB6
        go_wp2_with (at_builtin; refine wpList_append_lies _ rfl _ _ 60 rfl (bk + 1) tEnt i0 (.pointer none) 1 8 Tryd.underlying60 hi0 hz0 hz1 hz2 rfl (by decide) (.slice la c.n lc) c.n (ptL (fun i => some ⟨E1 i, 0, none⟩) c.n) rfl (World.ownsRow.alloc (unhide HLOG) _) ⟨(w6).heap.size, 0, none⟩ 1 1 [.pointer (some ⟨E1 c.n, 0, none⟩)] rfl rfl (World.news_of_block (Deep.blk_alloc_new _ _)) (by simp [Value.oneCell']) (by decide) (by unfold maxLen; omega) (by omega) (by simp; omega) ((w6).heap.size + 1) (by simp) ?_; intro g3 cp3 w3 hown3 hgr3 hloc3 hlt3; obtain ⟨x3, f3, lx3, hN3, hB3⟩ := unhide HFIN _ g3 cp3 w3 hown3 hgr3 hloc3; have HN3 := hide hN3; have HBB := hide hB3; clear hown3 hgr3 hloc3 hN3 hB3)
        go_end0
        obtain ⟨r1', R2', S', hN⟩ := unhide HN3
        exact ⟨⟨⟨_, rfl⟩, _, r1', R2', E1, S', hN⟩, unhide HBB⟩
      · have HNX := hide hnx
        clear hnx
        go_wp2_with fail
        refine wp_region_quiet (C := fun w' => Below w4.heap.size w4 w') (by kernel_rfl) (by kernel_rfl) ((Below.refl _ _).drew) ?_
        show wpQuiet _ _ _ _ [_, _, _, _] _
        refine wpQuiet_step (fun K hK => ?_)
        go_simp
        apply Exists.intro
        refine And.intro (fun w' hw' => ?_) (hK _ ?_)
        · obtain ⟨hc', hf'⟩ := bcell hw'
          go_simp
          first | rfl | exact ⟨rfl, rfl⟩ | exact ⟨rfl⟩
        clear hK K
        refine wpQuiet_step (fun K hK => ?_)
        go_simp
        refine ⟨_, fun w' hw' => rfl, hK _ ?_⟩
        clear hK K
        refine wpQuiet_step (fun K hK => ?_)
        go_simp
        apply Exists.intro
        refine And.intro (fun w' hw' => ?_) (hK _ ?_)
        · refine ((unhide HNXI _ hw')).mono ?_
          rintro e w'' ⟨rfl, hb⟩
          exact ⟨rfl, hw'.trans (hb.mono hw'.size)⟩
        clear hK K
        refine wpQuiet_step (fun K hK => ?_)
        go_simp
        refine ⟨.bool false, fun w' hw' => ?_, hK _ ?_⟩
        · have hno' := unhide HNX
          by_cases x1 : k.kind = 2
          · have x2 : ¬ k.num = (c.m : Int) + 1 := fun h => hno' ⟨x1, h⟩
            simp only [x1, x2, if_true, if_false]
            exact ⟨trivial, trivial⟩
          · simp only [x1, if_false]
            exact ⟨trivial, trivial⟩
        clear hK K
        refine wpQuiet_nil ?_
        intro w5 hw5
        have hA5 : AEnd w5 bk (.slice la c.n lc) r1 R2 E1 S (onW c k v) := ⟨(unhide HA4).bm.below hw5, (unhide HA4).e.keep hw5.size (hw5.block _ (unhide HA4).e.lt), (unhide HA4).eb, (unhide HA4).ne⟩
        have HB5 := hide ((unhide HB4).trans (hw5.mono (by omega)))
        have HCALL : Hid (Calls Tryd.prog 47 #[.pointer (some ⟨bk, 0, none⟩), .pointer (some ⟨E1 c.n, 0, none⟩)] w5 fun e w' => (∃ u, e = .returned u) ∧ (∃ R2' S', AEnd w' bk (.slice la c.n lc) r1 R2' E1 S' { comeC hf c k v with n := c.n }) ∧ Below bk w w') := hide (by
          have hT5 : T w5 := hTb _ _ (unhide HT) (unhide HB5)
          have hLn : ((onW c k v).L (onW c k v).n) = ⟨k, v, c.turns + 1⟩ := onW_L c k v
          have hrn : (roomD hf c).n = c.n := (roomD_inv hci hclive).2.2.n
          have hcome : enterD hf (roomB hf (onW c k v)) ((onW c k v).L (onW c k v).n).key (onW c k v).n = { comeC hf c k v with n := c.n } := by
            have e1 : comeC hf c k v = enterD hf (addL (roomD hf c) k v) k c.n := by unfold comeC; rw [if_neg (unhide HNS), if_neg (unhide HNX)]
            rw [e1, hLn, room_onW hci.core, onW_addL hrn]
            exact enter_cut hf (addL (roomD hf c) k v) k c.n c.n
          obtain ⟨cR2, hbR2⟩ := hA5.bm.slots.block (b := R2) rfl
          have hae := hA5.e
          refine (addToIndex_any T hTl hf bk hTb (.slice la c.n lc) r1 R2 E1 S (onW c k v) w5 hT5 hA5.bm (unhide HSm) (fun i hi ht => by
            have hi' : i < c.n := hi
            rw [onW_old c k v hi'] at ht ⊢
            exact hHs _ (hci.keys i hi' ht)) (by rw [hld_onW]; exact livN_hld hci.core hclive) hae hA5.eb (by rw [hLn]; exact hHs k hk) (fun j hj => by
            rcases hci.idx.range j hj with e | e | e
            · exact .inl e
            · exact .inr (.inl e)
            · exact .inr (.inr e.1)) hci.used).mono ?_
          rintro e w' ⟨⟨hu, R2', S', hN⟩, hkx⟩
          rw [hcome] at hN
          have hblk := hkx.blk (E1 c.n) hae.lt (by
            rintro (e | e)
            · have h' : bk < E1 c.n := hA5.eb
              omega
            · exact type_apart (e ▸ hae.ob) hbR2 (by decide))
          refine ⟨hu, ⟨R2', S', hN, ?_, hA5.eb, hA5.ne⟩, (unhide HB5).trans hkx.bel⟩
          have h1 : (comeC hf c k v).L c.n = (onW c k v).L c.n := by rw [unhide HML]; rfl
          show ECell w' (E1 c.n) ((comeC hf c k v).L c.n) c.n
          rw [h1]
          exact hae.keep hkx.bel.size hblk)
        clear hA5 HB5 hw5 HA4 HB4 HNXI q04 q14 q24 q34 q44
        go_wp2_with fail
        refine (unhide HCALL).mono ?_
        rintro e w6 ⟨⟨uu6, rfl⟩, ⟨R2x, Sx, hA6x⟩, hB6x⟩
        have HRES : Hid ({ { comeC hf c k v with n := c.n } with n := c.n + 1 } = comeC hf c k v) := hide (by
          have h1 := unhide HMn
          generalize comeC hf c k v = M at h1
          cases M
          simp only at h1
          subst h1
          rfl)
        have HA6x := hide hA6x
        have HB6x := hide hB6x
        clear hA6x hB6x HCALL
        have HA6 : Hid (AEnd (w6) bk (.slice la c.n lc) r1 R2x E1 Sx { comeC hf c k v with n := c.n }) := hide (unhide HA6x)
        have HB6 : Hid (Below bk w (w6)) := hide (unhide HB6x)
        have HLOG : Hid (Rw (w6) (bk + 1) tEnt (.slice la c.n lc) c.n (fun i => some ⟨E1 i, 0, none⟩)) := hide ((unhide HA6).bm.log)
        have c0x : (w6).cell? ⟨bk, 0, none⟩ = some (.slice la c.n lc) := (unhide HA6).bm.c0
        have lbx : bk < (w6).heap.size := (unhide HA6).bm.lt
        have HFIN : Hid (∀ (o : Obj) (g3 cp3 : Nat) (w3 : World), w3.ownsRow (bk + 1) tEnt 1 (.slice (some ⟨g3, 0, none⟩) (c.n + 1) cp3) (c.n + 1) (ptL (fun i => some ⟨E1 i, 0, none⟩) c.n ++ [.pointer (some ⟨E1 c.n, 0, none⟩)]) → ((w6).alloc o).grownBy w3 (Value.slice la c.n lc).ownBlock → ((Value.slice la c.n lc).ownBlock = some g3 ∨ g3 = (w6).heap.size + 1) →
            w3.cell? ⟨bk, 0, none⟩ = some (.slice la c.n lc) ∧ w3.frozen? ⟨bk, 0, none⟩ = false ∧ bk < w3.heap.size ∧ (∃ r1' R2' S', BMut (w3.setCell ⟨bk, 0, none⟩ (.slice (some ⟨g3, 0, none⟩) (c.n + 1) cp3)) bk (.slice (some ⟨g3, 0, none⟩) (c.n + 1) cp3) r1' R2' E1 S' (comeC hf c k v)) ∧ Below bk w (w3.setCell ⟨bk, 0, none⟩ (.slice (some ⟨g3, 0, none⟩) (c.n + 1) cp3))) := hide (fun o g3 cp3 w3 h1 h2 h3 => by
          obtain ⟨p1, p2, p3, p4, p5⟩ := (unhide HA6).fin h1 h2 h3
          exact ⟨p1, p2, p3, ⟨_, _, _, by rw [← unhide HRES]; exact p4⟩, (unhide HB6).trans p5⟩)
        clear HA6 HB6
        go_wp2_with (at_builtin; refine wpList_append_lies _ rfl _ _ 60 rfl (bk + 1) tEnt i0 (.pointer none) 1 8 Tryd.underlying60 hi0 hz0 hz1 hz2 rfl (by decide) (.slice la c.n lc) c.n (ptL (fun i => some ⟨E1 i, 0, none⟩) c.n) rfl (World.ownsRow.alloc (unhide HLOG) _) ⟨(w6).heap.size, 0, none⟩ 1 1 [.pointer (some ⟨E1 c.n, 0, none⟩)] rfl rfl (World.news_of_block (Deep.blk_alloc_new _ _)) (by simp [Value.oneCell']) (by decide) (by unfold maxLen; omega) (by omega) (by simp; omega) ((w6).heap.size + 1) (by simp) ?_; intro g3 cp3 w3 hown3 hgr3 hloc3 hlt3; obtain ⟨x3, f3, lx3, hN3, hB3⟩ := unhide HFIN _ g3 cp3 w3 hown3 hgr3 hloc3; have HN3 := hide hN3; have HBB := hide hB3; clear hown3 hgr3 hloc3 hN3 hB3)
        go_end0
        obtain ⟨r1', R2', S', hN⟩ := unhide HN3
        exact ⟨⟨⟨_, rfl⟩, _, r1', R2', E1, S', hN⟩, unhide HBB⟩
end Go.Proofs.YtglcaejddckleaaDoor
namespace Go.Proofs.YtglcaejddckleaaDoor
open Go.RowKit
set_option linter.unusedVariables false
attribute [local go_sem] run_store_float run_equalIn_float

/-- An entry is written. -/
theorem BMut.setE {w w' : World} {bk : Nat} {r0 r1 : Value} {R2 : Nat} {E S : Nat → Nat} {d : Dc} (h : BMut w bk r0 r1 R2 E S d) {p : Nat} (hp : p < d.n) {q : Pr} (hz : w'.heap.size = w.heap.size) (hb : ∀ b, b ≠ E p → w'.heap[b]? = w.heap[b]?) (he : w'.heap[E p]? = some (.cells (entA q p) 57 (0, 0))) (hk : q.key = (d.L p).key ∨ ∀ j, j < d.x → d.X j ≠ (p : Int) + 1) : BMut w' bk r0 r1 R2 E S { d with L := upd d.L p q } := by
  have hep := h.ent p hp
  have hbk : E p ≠ bk := by have := h.eb p hp; omega
  have hc : ∀ q, w'.cell? ⟨bk, q, none⟩ = w.cell? ⟨bk, q, none⟩ := fun q => World.cell?_of_block (a := ⟨bk, q, none⟩) (hb bk (fun e => hbk e.symm))
  have kr : ∀ {t : TypeId} {v : Value} {n : Nat} {f : Nat → Option Addr}, Rw w (bk + 1) t v n f → t ≠ 57 → Rw w' (bk + 1) t v n f := fun {t v n f} hh ht => own_at hh (fun b e => hb b (fun e' => by
    obtain ⟨c, hb'⟩ := hh.block e
    rw [e'] at hb'
    exact type_apart hb' hep.ob ht))
  refine ⟨by rw [hz]; exact h.lt, (hc _).trans h.c0, (hc _).trans h.c1, (hc _).trans h.c2, (hc _).trans h.c3, (hc _).trans h.c4, (hc _).trans h.c5, (hc _).trans h.c6, fun q => (World.frozen?_of_block (a := ⟨bk, q, none⟩) (hb bk (fun e => hbk e.symm))).trans (h.fz q), kr h.log (by decide), kr h.ints (by decide), h.rf, kr h.slots (by decide), h.ap, fun i hi => ?_, h.eb, h.inj, fun j hj => ?_, h.sg⟩
  · show ECell w' (E i) (upd d.L p q i) i
    by_cases e : i = p
    · subst e; rw [upd_same]; exact ECell.of_ob he
    · rw [upd_other _ _ e]
      exact (h.ent i hi).keep (by omega) (hb _ (fun e' => e (h.inj i p hi hp e')))
  · have hs := (h.sl j hj).keep (w' := w') (by omega) (fun c hc' => hb _ (fun e => by
      rw [e] at hc'
      exact type_apart hc' hep.ob (by decide)))
    refine ⟨fun h0 => ?_, hs.2⟩
    have h1 := hs.1 h0
    show SCell w' (S j) (upd d.L p q (d.X j - 1).toNat).key (E (d.X j - 1).toNat)
    by_cases e : (d.X j - 1).toNat = p
    · rw [e, upd_same]
      rcases hk with hk | hk
      · rw [hk]
        have h2 : SCell w' (S j) (d.L (d.X j - 1).toNat).key (E (d.X j - 1).toNat) := h1
        rw [e] at h2
        exact h2
      · have h0' : 0 < d.X j := h0
        exact absurd (show d.X j = (p : Int) + 1 by omega) (hk j hj)
    · rw [upd_other _ _ e]
      exact h1
/-- The cells of an entry's value, one after another. -/
def valSet (w : World) (b : Nat) (v : Vl) : World := ((((w.setCell ⟨b, 5, none⟩ (.int .i64 v.kind)).setCell ⟨b, 6, none⟩ (.int .i64 v.num)).setCell ⟨b, 7, none⟩ (.float .f64 v.flt)).setCell ⟨b, 8, none⟩ (.string v.str)).setCell ⟨b, 9, none⟩ (.int .i64 v.ref)
def pairZero (w : World) (b : Nat) : World := ((((((((((w.setCell ⟨b, 0, none⟩ (.int .i64 0)).setCell ⟨b, 1, none⟩ (.int .i64 0)).setCell ⟨b, 2, none⟩ (.float .f64 0)).setCell ⟨b, 3, none⟩ (.string ⟨#[]⟩)).setCell ⟨b, 4, none⟩ (.int .i64 0)).setCell ⟨b, 5, none⟩ (.int .i64 0)).setCell ⟨b, 6, none⟩ (.int .i64 0)).setCell ⟨b, 7, none⟩ (.float .f64 0)).setCell ⟨b, 8, none⟩ (.string ⟨#[]⟩)).setCell ⟨b, 9, none⟩ (.int .i64 0)).setCell ⟨b, 10, none⟩ (.int .i64 0)
theorem valSet_other {w : World} {b b' : Nat} {v : Vl} (h : b' ≠ b) : (valSet w b v).heap[b']? = w.heap[b']? := by
  unfold valSet
  iterate 5 (refine (Deep.blk_setCell_other _ _ _ _ (by exact h)).trans ?_)
  rfl
theorem pairZero_other {w : World} {b b' : Nat} (h : b' ≠ b) : (pairZero w b).heap[b']? = w.heap[b']? := by
  unfold pairZero
  iterate 11 (refine (Deep.blk_setCell_other _ _ _ _ (by exact h)).trans ?_)
  rfl
theorem valSet_same {w : World} {b : Nat} {p : Pr} {i : Nat} {v : Vl} (h : ECell w b p i) : (valSet w b v).heap[b]? = some (.cells (entA ⟨p.key, v, p.turn⟩ i) 57 (0, 0)) := by
  have h1 := heap_setCell_same w b 5 _ _ (.int .i64 v.kind) h.ob
  have h2 := heap_setCell_same _ b 6 _ _ (.int .i64 v.num) h1
  have h3 := heap_setCell_same _ b 7 _ _ (.float .f64 v.flt) h2
  have h4 := heap_setCell_same _ b 8 _ _ (.string v.str) h3
  have h5 := heap_setCell_same _ b 9 _ _ (.int .i64 v.ref) h4
  exact h5.trans (by simp [entA])
theorem pairZero_same {w : World} {b : Nat} {p : Pr} {i : Nat} (h : ECell w b p i) : (pairZero w b).heap[b]? = some (.cells (entA default i) 57 (0, 0)) := by
  have h1 := heap_setCell_same w b 0 _ _ (.int .i64 0) h.ob
  have h2 := heap_setCell_same _ b 1 _ _ (.int .i64 0) h1
  have h3 := heap_setCell_same _ b 2 _ _ (.float .f64 0) h2
  have h4 := heap_setCell_same _ b 3 _ _ (.string ⟨#[]⟩) h3
  have h5 := heap_setCell_same _ b 4 _ _ (.int .i64 0) h4
  have h6 := heap_setCell_same _ b 5 _ _ (.int .i64 0) h5
  have h7 := heap_setCell_same _ b 6 _ _ (.int .i64 0) h6
  have h8 := heap_setCell_same _ b 7 _ _ (.float .f64 0) h7
  have h9 := heap_setCell_same _ b 8 _ _ (.string ⟨#[]⟩) h8
  have h10 := heap_setCell_same _ b 9 _ _ (.int .i64 0) h9
  have h11 := heap_setCell_same _ b 10 _ _ (.int .i64 0) h10
  exact h11.trans (by simp [entA]; exact ⟨rfl, rfl, rfl, rfl, rfl, rfl, rfl, rfl, rfl, rfl, rfl⟩)
theorem valSet_below {w : World} {bk b : Nat} {v : Vl} (h : bk ≤ b) : Below bk w (valSet w b v) := by
  unfold valSet
  iterate 5 (refine Below.setCell ?_ (by exact h) _)
  exact Below.refl _ _
theorem pairZero_below {w : World} {bk b : Nat} (h : bk ≤ b) : Below bk w (pairZero w b) := by
  unfold pairZero
  iterate 11 (refine Below.setCell ?_ (by exact h) _)
  exact Below.refl _ _
theorem valSet_size {w : World} {b : Nat} {v : Vl} : (valSet w b v).heap.size = w.heap.size := by unfold valSet; simp
theorem pairZero_size {w : World} {b : Nat} : (pairZero w b).heap.size = w.heap.size := by unfold pairZero; simp

theorem tight_any (T : World → Prop) (hTl : Lasts T) (hf : Vl → Nat) (K : Vl → Prop) (hHs : ∀ v, K v → HsI T v (hf v)) (bk : Nat) (hTb : ∀ w w', T w → Below bk w w' → T w') (r0 r1 : Value) (R2 : Nat) (E S : Nat → Nat) (d : Dc) (W : World) (hT : T W) (hM : BMut W bk r0 r1 R2 E S d) (hS : Small d) (hI : Inv0 K hf d) (hlo : looseK d) :
    Calls Tryd.prog 45 #[.pointer (some ⟨bk, 0, none⟩)] W fun e w' => ((∃ u, e = .returned u) ∧ ∃ r0' R2' E2 S', BMut w' bk r0' r1 R2' E2 S' (compactD hf d)) ∧ Below bk W w' := by
  refine (tighten_any T hTl hf bk hTb r0 r1 R2 E S d W hT hM hS (fun i hi ht => hHs _ (hI.keys i hi ht)) (by have := hI.core.live_n; have := hI.le; omega) (fun j hj => by
    rcases hI.ints j hj with e | e
    · exact .inl e
    · exact .inr ⟨e.1, e.2.1, e.2.2.1⟩) (fun j hj h0 => by
    rcases hI.idx.range j hj with e | e | ⟨e1, e2, e3, _⟩
    · omega
    · omega
    · exact ⟨by omega, e3⟩)).mono ?_
  rintro e w' ⟨⟨hu, r0', R2', E2, S', hN⟩, hkx⟩
  exact ⟨⟨hu, r0', R2', E2, S', hN.compact hI.core (by have := hlo.1; have := hlo.2; omega)⟩, hkx.bel⟩
theorem loose_not {hf : Vl → Nat} {d : Dc} (h : ¬ looseK d) : compactD hf d = d := if_pos (by
  by_cases h8 : (d.n : Int) < 8
  · exact .inl h8
  · exact .inr (by
      refine Classical.byContradiction fun h2 => h ⟨by omega, by omega⟩))
end Go.Proofs.YtglcaejddckleaaDoor
namespace Go.Proofs.YtglcaejddckleaaDoor
open Go.RowKit
set_option linter.unusedVariables false
attribute [local go_sem] run_store_float run_equalIn_float

set_option maxRecDepth 100000 in
set_option maxHeartbeats 8000000 in
theorem remove_any (T : World → Prop) (hTl : Lasts T) (hf : Vl → Nat) (K : Vl → Prop) (KL : KeyLaw K hf) (hHs : ∀ v, K v → HsI T v (hf v)) (bk : Nat) (hTb : ∀ w w', T w → Below bk w w' → T w') (r0 r1 : Value) (R2 : Nat) (E S : Nat → Nat) (d : Dc) (p : Nat) (w : World) (hT : T w) (hM : BMut w bk r0 r1 R2 E S d) (hS : Small d)
    (hI : Inv K hf d) (hp : p < d.n) (ht : (d.L p).turn ≠ 0) :
    Calls Tryd.prog 28 #[.pointer (some ⟨bk, 0, none⟩), .pointer (some ⟨E p, 0, none⟩)] w fun e w' => ((∃ u, e = .returned u) ∧ ∃ r0' r1' R2' E2 S', BMut w' bk r0' r1' R2' E2 S' (goD hf d p)) ∧ Below bk w w' := by
  obtain ⟨g1, g2, g3, g4, g5, g6⟩ := goC_inv KL hI.i0 hI.next hp ht
  have hlt := hM.lt
  have hen := hM.ent p hp
  have k0 := hen.k0
  have k1 := hen.k1
  have k2 := hen.k2
  have k3 := hen.k3
  have k4 := hen.k4
  have hel := hen.lt
  have heb := hM.eb p hp
  obtain ⟨R1, q1, e1⟩ := hM.rf
  have c1 := hM.c1
  rw [e1] at c1
  have hdm := hS.m
  have hcnt := hI.i0.log.cnt
  have hle := hI.i0.le
  have hlv : 1 ≤ d.live := by
    have h1 := rank_lt hp ht
    have h2 : (lvN d : Int) = d.live := hcnt
    have h3 : rank d d.n = lvN d := rfl
    omega
  have hw5 : IntKind.i64.wrap (d.live - 1) = d.live - 1 := by rw [IntKind.wrap_i64]; omega
  -- the end: the pair made empty, the count, the tightening
  have END : ∀ (W : World) (r1' : Value) (S' : Nat → Nat) (c : Dc), Below bk w W → BMut W bk r0 r1' R2 E S' c → c.n = d.n → c.L = d.L → (∀ j, j < c.x → c.X j ≠ (p : Int) + 1) → { c with L := upd c.L p default, live := d.live - 1 } = goC hf d p → c.live = d.live → Small c →
      (W.frozen? ⟨E p, 0, none⟩ = false ∧ ∀ q, W.frozen? ⟨E p, q, none⟩ = false) ∧ E p < W.heap.size ∧ ECell W (E p) (d.L p) p ∧ ECell (pairZero W (E p)) (E p) default p ∧ BMut (pairZero W (E p)) bk r0 r1' R2 E S' { c with L := upd c.L p default } ∧ BMut ((pairZero W (E p)).setCell ⟨bk, 5, none⟩ (.int .i64 (d.live - 1))) bk r0 r1' R2 E S' (goC hf d p) ∧ Below bk w ((pairZero W (E p)).setCell ⟨bk, 5, none⟩ (.int .i64 (d.live - 1))) := fun W r1' S' c hB hMc hn hL hx hg hl hs => by
    have he : ECell W (E p) (d.L p) p := by have := hMc.ent p (by omega); rwa [hL] at this
    have hM2 := hMc.setE (p := p) (by omega) (q := default) (w' := pairZero W (E p)) pairZero_size (fun b hb => pairZero_other hb) (pairZero_same he) (.inr hx)
    have hM3 := hM2.setLive (d.live - 1)
    have hM3 : BMut ((pairZero W (E p)).setCell ⟨bk, 5, none⟩ (.int .i64 (d.live - 1))) bk r0 r1' R2 E S' { c with L := upd c.L p default, live := d.live - 1 } := hM3
    rw [hg] at hM3
    have hfz : ∀ q, W.frozen? ⟨E p, q, none⟩ = false := fun q => by simp [World.frozen?, he.ob]
    exact ⟨⟨hfz 0, hfz⟩, he.lt, he, ECell.of_ob (pairZero_same he), hM2, hM3, (hB.trans (pairZero_below (by omega))).setCell (by exact Nat.le_refl _) _⟩
  have HEND := hide END
  have LAST : ∀ (W : World) (r1' : Value) (S' : Nat → Nat), Below bk w W → BMut W bk r0 r1' R2 E S' (goC hf d p) → Small (goC hf d p) → (Calls Tryd.prog 44 #[.pointer (some ⟨bk, 0, none⟩)] W fun e w' => e = .returned (.bool (tells (looseK (goC hf d p)))) ∧ Below W.heap.size W w') ∧ (∀ W', Below W.heap.size W W' → looseK (goC hf d p) → Calls Tryd.prog 45 #[.pointer (some ⟨bk, 0, none⟩)] W' fun e w' => ((∃ u, e = .returned u) ∧ ∃ r0' R2' E2 S', BMut w' bk r0' r1' R2' E2 S' (goD hf d p)) ∧ Below bk W' w') ∧ (∀ W', Below W.heap.size W W' → ¬ looseK (goC hf d p) → BMut W' bk r0 r1' R2 E S' (goD hf d p)) := fun W r1' S' hB hMc hs => by
    refine ⟨isLoose_any bk r0 r1' R2 E S' (goC hf d p) W hMc hs (by rw [g5]; omega) (by rw [g5]; omega), fun W' hW' hlo => ?_, fun W' hW' hlo => ?_⟩
    · exact tight_any T hTl hf K hHs bk hTb r0 r1' R2 E S' (goC hf d p) W' (hTb _ _ hT (hB.trans (hW'.mono (by have := hMc.lt; omega)))) (hMc.below hW') hs g1 hlo
    · show BMut W' bk r0 r1' R2 E S' (compactD hf (goC hf d p))
      rw [loose_not hlo]
      exact hMc.below hW'
  have HLAST := hide LAST
  have HM := hide hM
  have HT := hide hT
  have HS := hide hS
  have HI := hide hI
  have HEN := hide hen
  by_cases hs : smallK d.m (d.L p).key
  · have HSM := hide (tells_yes hs)
    obtain ⟨a1, a2, a3⟩ := hs
    obtain ⟨q, hq⟩ : ∃ q : Nat, (d.L p).key.num = (q : Int) + 1 := ⟨((d.L p).key.num - 1).toNat, by omega⟩
    have hqm : q < d.m := by omega
    have HG : Hid ({ { d with m := shrink (upd d.I q 0) d.m, I := upd d.I q 0 } with L := upd d.L p default, live := d.live - 1 } = goC hf d p) := hide (by
      rw [goC_small ⟨a1, a2, a3⟩]
      unfold goSmall
      rw [show ((d.L p).key.num - 1).toNat = q by omega]
      rfl)
    have hXp : ∀ j, j < d.x → d.X j ≠ (p : Int) + 1 := fun j hj e => by
      rcases hI.i0.idx.range j hj with h | h | ⟨h1, h2, h3, h4⟩
      · omega
      · omega
      · rw [show (d.X j - 1).toNat = p by omega] at h4
        exact h4 ⟨a1, a2, a3⟩
    have hsh := (shrink_says (upd d.I q 0) d.m).1
    have HREM : Hid (∀ W, Below w.heap.size w W → Calls Tryd.prog 42 #[.pointer (some ⟨bk, 0, none⟩), .int .i64 ((q : Int) + 1)] W fun e w' => ((∃ u, e = .returned u) ∧ ∃ r1', BMut w' bk r0 r1' R2 E S { d with m := shrink (upd d.I q 0) d.m, I := upd d.I q 0 }) ∧ Below bk W w') := hide (fun W hW => removeInt_any bk r0 r1 R2 E S d q W (hM.below hW) hS hqm (fun j hj => by
      rcases hI.i0.ints j hj with e | e <;> omega))
    have HQ := hide hq
    have HXP := hide hXp
    clear a1 a2 a3 hq hXp hM hT hS hI hen END LAST g1 g2 g3 g4 g5 g6
    go_enter Tryd.func28, Tryd.ntmps28
    go_wp2_with fail
    refine wp_region_quiet (C := fun w' => Below w.heap.size w w') (by kernel_rfl) (by kernel_rfl) ((Below.refl _ _).drew) ?_
    show wpQuiet _ _ _ _ [_, _, _, _, _, _, _, _, _, _, _] _
    refine wpQuiet_step (fun K hK => ?_)
    go_simp
    refine ⟨_, fun w' hw' => rfl, hK _ ?_⟩
    clear hK K
    refine wpQuiet_step (fun K hK => ?_)
    go_simp
    refine ⟨_, fun w' hw' => rfl, hK _ ?_⟩
    clear hK K
    refine wpQuiet_step (fun K hK => ?_)
    go_simp
    refine ⟨_, fun w' hw' => rfl, hK _ ?_⟩
    clear hK K
    refine wpQuiet_step (fun K hK => ?_)
    go_simp
    refine ⟨_, fun w' hw' => rfl, hK _ ?_⟩
    clear hK K
    refine wpQuiet_step (fun K hK => ?_)
    go_simp
    apply Exists.intro
    refine And.intro (fun w' hw' => ?_) (hK _ ?_)
    · obtain ⟨hc', hf'⟩ := bcell hw'
      go_simp
      first | rfl | exact ⟨rfl, rfl⟩ | exact ⟨rfl⟩
    clear hK K
    refine wpQuiet_step (fun K hK => ?_)
    go_simp
    refine ⟨_, fun w' hw' => rfl, hK _ ?_⟩
    clear hK K
    refine wpQuiet_step (fun K hK => ?_)
    go_simp
    refine ⟨_, fun w' hw' => rfl, hK _ ?_⟩
    clear hK K
    refine wpQuiet_step (fun K hK => ?_)
    go_simp
    refine ⟨_, fun w' hw' => rfl, hK _ ?_⟩
    clear hK K
    refine wpQuiet_step (fun K hK => ?_)
    go_simp
    apply Exists.intro
    refine And.intro (fun w' hw' => ?_) (hK _ ?_)
    · obtain ⟨hc', hf'⟩ := bcell hw'
      go_simp
      first | rfl | exact ⟨rfl, rfl⟩ | exact ⟨rfl⟩
    clear hK K
    refine wpQuiet_step (fun K hK => ?_)
    go_simp
    refine ⟨_, fun w' hw' => rfl, hK _ ?_⟩
    clear hK K
    refine wpQuiet_step (fun K hK => ?_)
    go_simp
    apply Exists.intro
    refine And.intro (fun w' hw' => ?_) (hK _ ?_)
    · refine (((unhide HSM) ▸ hasPlace_any (d.L p).key d.m _ hdm)).mono ?_
      rintro e w'' ⟨rfl, hb⟩
      exact ⟨rfl, hw'.trans (hb.mono hw'.size)⟩
    clear hK K
    refine wpQuiet_nil ?_
    intro w1 hw1
    have k11 := (hw1.cell (p := ⟨E p, 1, none⟩) hel).trans k1
    rw [unhide HQ] at k11
    have hel1 := Nat.lt_of_lt_of_le hel hw1.size
    have HW1 := hide hw1
    clear hw1 k0 k1 k2 k3 k4 c1
    go_wp2_with fail
    refine (unhide HREM _ (unhide HW1)).mono ?_
    rintro e w2 ⟨⟨⟨uu, rfl⟩, r1', hM2⟩, hb2⟩
    obtain ⟨⟨ff0, ff⟩, l2, e2, e2', m2, m3, b3⟩ := unhide HEND w2 r1' S _ ((unhide HW1).mono (by omega) |>.trans hb2) hM2 rfl rfl (unhide HXP) (unhide HG) rfl ⟨(unhide HS).n, by show shrink (upd d.I q 0) d.m ≤ _; omega, (unhide HS).x⟩
    have c5 := hM2.c5
    have f5 := hM2.fz 5
    have lb2 := hM2.lt
    have hne : E p ≠ bk := by omega
    have z0 := e2.k0
    have z1 := e2.k1
    have z2 := e2.k2
    have z3 := e2.k3
    have z4 := e2.k4
    have z5 := e2.v0
    have z6 := e2.v1
    have z7 := e2.v2
    have z8 := e2.v3
    have z9 := e2.v4
    have z10 := e2.tn
    have HSg : Hid (Small (goC hf d p)) := hide (by rw [← unhide HG]; exact ⟨(unhide HS).n, by show shrink (upd d.I q 0) d.m ≤ _; omega, (unhide HS).x⟩)
    obtain ⟨L1, L2, L3⟩ := unhide HLAST _ _ _ b3 m3 (unhide HSg)
    unfold pairZero at L1 L2 L3 b3
    have HL1 := hide L1
    have HL2 := hide L2
    have HL3 := hide L3
    have HB3 := hide b3
    clear hM2 hb2 e2 e2' m2 m3 b3 L1 L2 L3
    go_wp2_with fail
    by_cases hlo : looseK (goC hf d p)
    · have HLT := hide (tells_yes hlo)
      have HL2' := hide (fun W' hW' => unhide HL2 W' hW' hlo)
      clear hlo HL2 HL3
      refine (unhide HL1).mono ?_
      rintro e w5 ⟨rfl, hb5⟩
      rw [unhide HLT]
      have HB5 := hide hb5
      clear hb5
      go_wp2_with fail
      refine (unhide HL2' _ (unhide HB5)).mono ?_
      rintro e w6 ⟨⟨⟨uu6, rfl⟩, r06, R26, E6, S6, hM6⟩, hb6⟩
      have z5b := (unhide HB3).size
      have HB6 := hide ((unhide HB3).trans (((unhide HB5).mono (by simp; omega)).trans hb6))
      have HM6 := hide hM6
      clear hM6 hb6
      go_wp2
      go_end0
      exact ⟨⟨⟨_, rfl⟩, r06, _, R26, E6, S6, unhide HM6⟩, unhide HB6⟩
    · have HLT := hide (tells_no hlo)
      have HL3' := hide (fun W' hW' => unhide HL3 W' hW' hlo)
      clear hlo HL2 HL3
      refine (unhide HL1).mono ?_
      rintro e w5 ⟨rfl, hb5⟩
      rw [unhide HLT]
      have HB6 := hide ((unhide HB3).trans (hb5.mono (by simp; omega)))
      have HM6 := hide (unhide HL3' _ hb5)
      clear hb5 HL1
      go_wp2
      go_end0
      exact ⟨⟨⟨_, rfl⟩, _, _, _, _, _, unhide HM6⟩, unhide HB6⟩
  · have HSM := hide (tells_no hs)
    obtain ⟨s, hs1, hs2, hs3⟩ := hI.i0.found KL (hI.i0.keys p hp ht) ⟨hp, ht, hs⟩ (KL.refl _ (hI.i0.keys p hp ht))
    have HG : Hid ({ { d with X := upd d.X s (-1) } with L := upd d.L p default, live := d.live - 1 } = goC hf d p) := hide (by rw [goC_slot hs hs3]; rfl)
    have hXp : ∀ j, j < d.x → upd d.X s (-1) j ≠ (p : Int) + 1 := fun j hj e => by
      by_cases ej : j = s
      · rw [ej, upd_same] at e; omega
      · rw [upd_other _ _ ej] at e
        exact ej (hI.i0.idx.uniq j s hj hs1 (by omega) (by omega))
    have HFIND : Hid (∀ W, Below w.heap.size w W → Calls Tryd.prog 41 #[.pointer (some ⟨bk, 2, none⟩), V (d.L p).key.kind (d.L p).key.num (d.L p).key.flt (d.L p).key.str (d.L p).key.ref] W fun e w' => e = .returned (.int .i64 (s : Int)) ∧ Below W.heap.size W w') := hide (fun W hW => by
      obtain ⟨R0', R1', hB⟩ := (hM.below hW).book
      have := find_any T hTl bk R0' R1' R2 E S d (d.L p).key (hf (d.L p).key) (hHs _ (hI.i0.keys p hp ht)) W (hTl _ _ hT hW) hB hS hI.i0.d4
      rw [hs3] at this
      exact this)
    have HREM : Hid (∀ W, Below w.heap.size w W → Calls Tryd.prog 43 #[.pointer (some ⟨bk, 2, none⟩), .int .i64 (s : Int)] W fun e w' => ((∃ u, e = .returned u) ∧ ∃ S', BMut w' bk r0 r1 R2 E S' { d with X := upd d.X s (-1) }) ∧ KX (fun b => b = R2) bk W w') := hide (fun W hW => indexRemove_kx bk r0 r1 R2 E S d s W (hM.below hW) hS hs1)
    obtain ⟨cR2, hbR2⟩ := hM.slots.block (b := R2) rfl
    have hEp2 : E p ≠ R2 := fun e => type_apart (e ▸ hen.ob) hbR2 (by decide)
    have HXP := hide hXp
    clear hs hXp hM hT hS hI hen END LAST g1 g2 g3 g4 g5 g6 hs2 hs3 hbR2
    go_enter Tryd.func28, Tryd.ntmps28
    go_wp2_with fail
    refine wp_region_quiet (C := fun w' => Below w.heap.size w w') (by kernel_rfl) (by kernel_rfl) ((Below.refl _ _).drew) ?_
    show wpQuiet _ _ _ _ [_, _, _, _, _, _, _, _, _, _, _] _
    refine wpQuiet_step (fun K hK => ?_)
    go_simp
    refine ⟨_, fun w' hw' => rfl, hK _ ?_⟩
    clear hK K
    refine wpQuiet_step (fun K hK => ?_)
    go_simp
    refine ⟨_, fun w' hw' => rfl, hK _ ?_⟩
    clear hK K
    refine wpQuiet_step (fun K hK => ?_)
    go_simp
    refine ⟨_, fun w' hw' => rfl, hK _ ?_⟩
    clear hK K
    refine wpQuiet_step (fun K hK => ?_)
    go_simp
    refine ⟨_, fun w' hw' => rfl, hK _ ?_⟩
    clear hK K
    refine wpQuiet_step (fun K hK => ?_)
    go_simp
    apply Exists.intro
    refine And.intro (fun w' hw' => ?_) (hK _ ?_)
    · obtain ⟨hc', hf'⟩ := bcell hw'
      go_simp
      first | rfl | exact ⟨rfl, rfl⟩ | exact ⟨rfl⟩
    clear hK K
    refine wpQuiet_step (fun K hK => ?_)
    go_simp
    refine ⟨_, fun w' hw' => rfl, hK _ ?_⟩
    clear hK K
    refine wpQuiet_step (fun K hK => ?_)
    go_simp
    refine ⟨_, fun w' hw' => rfl, hK _ ?_⟩
    clear hK K
    refine wpQuiet_step (fun K hK => ?_)
    go_simp
    refine ⟨_, fun w' hw' => rfl, hK _ ?_⟩
    clear hK K
    refine wpQuiet_step (fun K hK => ?_)
    go_simp
    apply Exists.intro
    refine And.intro (fun w' hw' => ?_) (hK _ ?_)
    · obtain ⟨hc', hf'⟩ := bcell hw'
      go_simp
      first | rfl | exact ⟨rfl, rfl⟩ | exact ⟨rfl⟩
    clear hK K
    refine wpQuiet_step (fun K hK => ?_)
    go_simp
    refine ⟨_, fun w' hw' => rfl, hK _ ?_⟩
    clear hK K
    refine wpQuiet_step (fun K hK => ?_)
    go_simp
    apply Exists.intro
    refine And.intro (fun w' hw' => ?_) (hK _ ?_)
    · refine (((unhide HSM) ▸ hasPlace_any (d.L p).key d.m _ hdm)).mono ?_
      rintro e w'' ⟨rfl, hb⟩
      exact ⟨rfl, hw'.trans (hb.mono hw'.size)⟩
    clear hK K
    refine wpQuiet_nil ?_
    intro w1 hw1
    have hen1 := (unhide HEN).keep hw1.size (hw1.block _ hel)
    have hS0 : HeldE (E p) (d.L p).key w1.drew := ⟨hen1.k0, hen1.k1, hen1.k2, hen1.k3, hen1.k4⟩
    have hel1 := hen1.lt
    have hz1 := hw1.size
    have HW1 := hide hw1
    clear hw1 k0 k1 k2 k3 k4 c1 hen1
    go_wp2_with fail
    refine wpN_held (HeldE (E p) (d.L p).key) (by kernel_rfl) ?_
    change wpAnyH _ _ _ _ _ _ _ _ (World.drew _)
    refine tk 0 (v := ?_) rfl (by kernel_rfl) (by rfl) ?_ (by assumption) ?_
    rotate_left
    · intro w' ⟨s0, s1, s2, s3, s4⟩; go_simp; first | done | with_reducible rfl
    simp only [Act.put, List.setIfInBounds_toArray, List.set_cons_succ, List.set_cons_zero]
    refine tk 1 (v := ?_) rfl (by kernel_rfl) (by rfl) ?_ (by assumption) ?_
    rotate_left
    · intro w' ⟨s0, s1, s2, s3, s4⟩; go_simp; first | done | with_reducible rfl
    simp only [Act.put, List.setIfInBounds_toArray, List.set_cons_succ, List.set_cons_zero]
    refine tk 2 (v := ?_) rfl (by kernel_rfl) (by rfl) ?_ (by assumption) ?_
    rotate_left
    · intro w' ⟨s0, s1, s2, s3, s4⟩; go_simp; first | done | with_reducible rfl
    simp only [Act.put, List.setIfInBounds_toArray, List.set_cons_succ, List.set_cons_zero]
    refine tk 3 (v := ?_) rfl (by kernel_rfl) (by rfl) ?_ (by assumption) ?_
    rotate_left
    · intro w' ⟨s0, s1, s2, s3, s4⟩; go_simp; first | done | with_reducible rfl
    simp only [Act.put, List.setIfInBounds_toArray, List.set_cons_succ, List.set_cons_zero]
    refine tk 4 (v := ?_) rfl (by kernel_rfl) (by rfl) ?_ (by assumption) ?_
    rotate_left
    · intro w' ⟨s0, s1, s2, s3, s4⟩; go_simp; first | done | with_reducible rfl
    simp only [Act.put, List.setIfInBounds_toArray, List.set_cons_succ, List.set_cons_zero]
    refine tk 5 (v := ?_) rfl (by kernel_rfl) (by rfl) ?_ (by assumption) ?_
    rotate_left
    · intro w' ⟨s0, s1, s2, s3, s4⟩; go_simp; first | done | with_reducible rfl
    simp only [Act.put, List.setIfInBounds_toArray, List.set_cons_succ, List.set_cons_zero]
    refine tk 6 (v := ?_) rfl (by kernel_rfl) (by rfl) ?_ (by assumption) ?_
    rotate_left
    · intro w' ⟨s0, s1, s2, s3, s4⟩; go_simp; first | done | with_reducible rfl
    simp only [Act.put, List.setIfInBounds_toArray, List.set_cons_succ, List.set_cons_zero]
    refine tk 7 (v := ?_) rfl (by kernel_rfl) (by rfl) ?_ (by assumption) ?_
    rotate_left
    · intro w' ⟨s0, s1, s2, s3, s4⟩; go_simp; first | done | with_reducible rfl
    simp only [Act.put, List.setIfInBounds_toArray, List.set_cons_succ, List.set_cons_zero]
    refine tk 8 (v := ?_) rfl (by kernel_rfl) (by rfl) ?_ (by assumption) ?_
    rotate_left
    · intro w' ⟨s0, s1, s2, s3, s4⟩; go_simp; first | done | with_reducible rfl
    simp only [Act.put, List.setIfInBounds_toArray, List.set_cons_succ, List.set_cons_zero]
    refine tk 9 (v := ?_) rfl (by kernel_rfl) (by rfl) ?_ (by assumption) ?_
    rotate_left
    · intro w' ⟨s0, s1, s2, s3, s4⟩; go_simp; first | done | with_reducible rfl
    simp only [Act.put, List.setIfInBounds_toArray, List.set_cons_succ, List.set_cons_zero]
    refine tk 10 (v := ?_) rfl (by kernel_rfl) (by rfl) ?_ (by assumption) ?_
    rotate_left
    · intro w' ⟨s0, s1, s2, s3, s4⟩; go_simp; first | done | with_reducible rfl
    simp only [Act.put, List.setIfInBounds_toArray, List.set_cons_succ, List.set_cons_zero]
    refine wpAnyH_ready (rs := [11]) (by kernel_rfl) (by simp) ?_
    refine AllReadyH.cons rfl (fun K hK => ?_) AllReadyH.nil
    go_simp
    refine (unhide HFIND _ (unhide HW1).drew).mono ?_
    rintro e wf ⟨rfl, hbf⟩
    have hbf : Below w1.heap.size w1 wf := (Below.refl w1.heap.size w1).drew.trans hbf
    have hSf : HeldE (E p) (d.L p).key wf := ⟨(hbf.cell (p := ⟨E p, 0, none⟩) hel1).trans hS0.1, (hbf.cell (p := ⟨E p, 1, none⟩) hel1).trans hS0.2.1, (hbf.cell (p := ⟨E p, 2, none⟩) hel1).trans hS0.2.2.1, (hbf.cell (p := ⟨E p, 3, none⟩) hel1).trans hS0.2.2.2.1, (hbf.cell (p := ⟨E p, 4, none⟩) hel1).trans hS0.2.2.2.2⟩
    refine hK.out _ _ hSf (fun _ => ?_)
    clear hK K hS0
    have hzf := hbf.size
    have HWf := hide ((unhide HW1).trans (hbf.mono (by omega)))
    clear hbf
    refine wpAnyH_ready (rs := [12]) (by kernel_rfl) (by simp) ?_
    refine AllReadyH.cons rfl (fun K hK => ?_) AllReadyH.nil
    go_simp
    refine (unhide HREM _ (unhide HWf)).mono ?_
    rintro e w2 ⟨⟨⟨uu, rfl⟩, S2, hM2⟩, hkx2⟩
    have hb2 := hkx2.bel
    have hbl := hkx2.blk (E p) (by omega) hEp2
    refine hK.out _ _ ⟨(World.cell?_of_block (a := ⟨E p, 0, none⟩) hbl).trans hSf.1, (World.cell?_of_block (a := ⟨E p, 1, none⟩) hbl).trans hSf.2.1, (World.cell?_of_block (a := ⟨E p, 2, none⟩) hbl).trans hSf.2.2.1, (World.cell?_of_block (a := ⟨E p, 3, none⟩) hbl).trans hSf.2.2.2.1, (World.cell?_of_block (a := ⟨E p, 4, none⟩) hbl).trans hSf.2.2.2.2⟩ (fun _ => ?_)
    clear hK K hSf hkx2 hbl
    refine wpAnyH_done (by kernel_rfl) ?_ _
    refine QN.normal ?_
    obtain ⟨⟨ff0, ff⟩, l2, e2, e2', m2, m3, b3⟩ := unhide HEND w2 r1 S2 _ ((unhide HWf).mono (by omega) |>.trans hb2) hM2 rfl rfl (unhide HXP) (unhide HG) rfl ⟨(unhide HS).n, (unhide HS).m, (unhide HS).x⟩
    have c5 := hM2.c5
    have f5 := hM2.fz 5
    have lb2 := hM2.lt
    have hne : E p ≠ bk := by omega
    have z0 := e2.k0
    have z1 := e2.k1
    have z2 := e2.k2
    have z3 := e2.k3
    have z4 := e2.k4
    have z5 := e2.v0
    have z6 := e2.v1
    have z7 := e2.v2
    have z8 := e2.v3
    have z9 := e2.v4
    have z10 := e2.tn
    have HSg : Hid (Small (goC hf d p)) := hide (by rw [← unhide HG]; exact ⟨(unhide HS).n, (unhide HS).m, (unhide HS).x⟩)
    obtain ⟨L1, L2, L3⟩ := unhide HLAST _ _ _ b3 m3 (unhide HSg)
    unfold pairZero at L1 L2 L3 b3
    have HL1 := hide L1
    have HL2 := hide L2
    have HL3 := hide L3
    have HB3 := hide b3
    clear hM2 hb2 e2 e2' m2 m3 b3 L1 L2 L3
    go_wp2_with fail
    by_cases hlo : looseK (goC hf d p)
    · have HLT := hide (tells_yes hlo)
      have HL2' := hide (fun W' hW' => unhide HL2 W' hW' hlo)
      clear hlo HL2 HL3
      refine (unhide HL1).mono ?_
      rintro e w5 ⟨rfl, hb5⟩
      rw [unhide HLT]
      have HB5 := hide hb5
      clear hb5
      go_wp2_with fail
      refine (unhide HL2' _ (unhide HB5)).mono ?_
      rintro e w6 ⟨⟨⟨uu6, rfl⟩, r06, R26, E6, S6, hM6⟩, hb6⟩
      have z5b := (unhide HB3).size
      have HB6 := hide ((unhide HB3).trans (((unhide HB5).mono (by simp; omega)).trans hb6))
      have HM6 := hide hM6
      clear hM6 hb6
      go_wp2
      go_end0
      exact ⟨⟨⟨_, rfl⟩, r06, _, R26, E6, S6, unhide HM6⟩, unhide HB6⟩
    · have HLT := hide (tells_no hlo)
      have HL3' := hide (fun W' hW' => unhide HL3 W' hW' hlo)
      clear hlo HL2 HL3
      refine (unhide HL1).mono ?_
      rintro e w5 ⟨rfl, hb5⟩
      rw [unhide HLT]
      have HB6 := hide ((unhide HB3).trans (hb5.mono (by simp; omega)))
      have HM6 := hide (unhide HL3' _ hb5)
      clear hb5 HL1
      go_wp2
      go_end0
      exact ⟨⟨⟨_, rfl⟩, _, _, _, _, _, unhide HM6⟩, unhide HB6⟩
end Go.Proofs.YtglcaejddckleaaDoor
namespace Go.Proofs.YtglcaejddckleaaDoor
open Go.RowKit
set_option linter.unusedVariables false
attribute [local go_sem] run_store_float run_equalIn_float

set_option maxRecDepth 100000 in
set_option maxHeartbeats 8000000 in
theorem put_any (T : World → Prop) (hTl : Lasts T) (hf : Vl → Nat) (K : Vl → Prop) (KL : KeyLaw K hf) (hHs : ∀ v, K v → HsI T v (hf v)) (bk : Nat) (hTb : ∀ w w', T w → Below bk w w' → T w') (r0 r1 : Value) (R2 : Nat) (E S : Nat → Nat) (d : Dc) (k v : Vl) (w : World) (hT : T w) (hM : BMut w bk r0 r1 R2 E S d) (hS : Small d) (hm4 : d.m ≤ 4000000)
    (hI : Inv K hf d) (hk : K k) (hkb : keyB k = true) (hv : v.ok = true) :
    Calls Tryd.prog 15 #[.pointer (some ⟨bk, 0, none⟩), V k.kind k.num k.flt k.str k.ref, V v.kind v.num v.flt v.str v.ref] w fun e w' => ((∃ u, e = .returned u) ∧ ∃ r0' r1' R2' E2 S', BMut w' bk r0' r1' R2' E2 S' (putD hf d k v)) ∧ Below bk w w' := by
  have hlt := hM.lt
  have hb0 : Below w.heap.size w ((w.alloc (.cells #[.int .i64 k.kind, .int .i64 k.num, .float .f64 k.flt, .string k.str, .int .i64 k.ref] 32)).alloc (.cells #[.int .i64 v.kind, .int .i64 v.num, .float .f64 v.flt, .string v.str, .int .i64 v.ref] 32)) := ((Below.refl _ _).alloc (Nat.le_refl _) _).alloc (by simp) _
  have HV0 : Hid (VBox ((w.alloc (.cells #[.int .i64 k.kind, .int .i64 k.num, .float .f64 k.flt, .string k.str, .int .i64 k.ref] 32)).alloc (.cells #[.int .i64 v.kind, .int .i64 v.num, .float .f64 v.flt, .string v.str, .int .i64 v.ref] 32)) w.heap.size k ∧ VBox ((w.alloc (.cells #[.int .i64 k.kind, .int .i64 k.num, .float .f64 k.flt, .string k.str, .int .i64 k.ref] 32)).alloc (.cells #[.int .i64 v.kind, .int .i64 v.num, .float .f64 v.flt, .string v.str, .int .i64 v.ref] 32)) (w.heap.size + 1) v) := hide ⟨⟨by simp; omega, by simp [go_sem], by simp [go_sem], by simp [go_sem], by simp [go_sem], by simp [go_sem]⟩, ⟨by simp, by simp [go_sem], by simp [go_sem], by simp [go_sem], by simp [go_sem], by simp [go_sem]⟩⟩
  have HB0 := hide hb0
  have FND : ∀ W, Below w.heap.size w W → Calls Tryd.prog 27 #[.pointer (some ⟨bk, 0, none⟩), V k.kind k.num k.flt k.str k.ref] W fun e w' => e = .returned (.pointer (placeP E (placeI d k (hf k)))) ∧ Below W.heap.size W w' := fun W hW => by
    obtain ⟨R0', R1', hB⟩ := (hM.below hW).book
    exact bfind_any T hTl bk R0' R1' R2 E S d k (hf k) (hHs k hk) W (hTl _ _ hT hW) hB hS hI.i0.d3 hI.i0.d4
  rcases hI.i0.place KL hk with ⟨i, h1, h2, h3, h4⟩ | ⟨h1, h2⟩
  · have hp : 0 ≤ placeI d k (hf k) := by omega
    have hi : (placeI d k (hf k)).toNat = i := by omega
    have hpp : placeP E (placeI d k (hf k)) = some ⟨E i, 0, none⟩ := by unfold placeP; rw [if_pos hp, hi]
    rw [hpp] at FND
    have HFND := hide FND
    have hEb := hM.eb i h1
    by_cases hv0 : v.kind = 0
    · have HRES : Hid (putD hf d k v = goD hf d i) := hide (by rw [putD_go hp hv0, hi])
      have HREM : Hid (∀ W, Below w.heap.size w W → Calls Tryd.prog 28 #[.pointer (some ⟨bk, 0, none⟩), .pointer (some ⟨E i, 0, none⟩)] W fun e w' => ((∃ u, e = .returned u) ∧ ∃ r0' r1' R2' E2 S', BMut w' bk r0' r1' R2' E2 S' (goD hf d i)) ∧ Below bk W w') := hide (fun W hW => remove_any T hTl hf K KL hHs bk hTb r0 r1 R2 E S d i W (hTl _ _ hT hW) (hM.below hW) hS hI h1 h2)
      have HV := hide hv0
      rw [unhide HRES]
      clear hM hT hS hI h2 h3 h4 hp hi hpp FND hb0 hv0
      go_enter Tryd.func15, Tryd.ntmps15
      go_wp2_with fail
      refine (unhide HFND _ (unhide HB0)).mono ?_
      rintro e w1 ⟨rfl, hb1⟩
      have vv := (unhide HV0).2.keep hb1.size (hb1.block _ (unhide HV0).2.lt)
      have v0 := vv.k0
      rw [unhide HV] at v0
      have lv := vv.lt
      have HB1 := hide ((unhide HB0).trans (hb1.mono (unhide HB0).size))
      clear hb1 vv
      go_wp2_with fail
      refine (unhide HREM _ (unhide HB1)).mono ?_
      rintro e w2 ⟨⟨⟨uu, rfl⟩, r0', r1', R2', E2, S', hM2⟩, hb2⟩
      have HM2 := hide hM2
      have HB2 := hide (((unhide HB1).mono (Nat.le_of_lt hlt)).trans hb2)
      clear hM2 hb2
      go_wp2
      go_end0
      exact ⟨⟨⟨_, rfl⟩, r0', r1', R2', E2, S', unhide HM2⟩, unhide HB2⟩
    · have HRES : Hid (putD hf d k v = setV d i v) := hide (by rw [putD_set hp hv0, hi])
      have hv0' : (v.kind != 0) = true := by simp [hv0]
      have HSET : Hid (∀ W, Below w.heap.size w W → ECell W (E i) (d.L i) i ∧ BMut (valSet W (E i) v) bk r0 r1 R2 E S (setV d i v)) := hide (fun W hW => by
        have he := (hM.below hW).ent i h1
        exact ⟨he, (hM.below hW).setE h1 valSet_size (fun b hb => valSet_other hb) (valSet_same he) (.inl rfl)⟩)
      rw [unhide HRES]
      clear hM hT hS hI h2 h3 h4 hp hi hpp FND hb0 hv0
      go_enter Tryd.func15, Tryd.ntmps15
      go_wp2_with fail
      refine (unhide HFND _ (unhide HB0)).mono ?_
      rintro e w1 ⟨rfl, hb1⟩
      have vv := (unhide HV0).2.keep hb1.size (hb1.block _ (unhide HV0).2.lt)
      have v0 := vv.k0
      have v1 := vv.k1
      have v2 := vv.k2
      have v3 := vv.k3
      have v4 := vv.k4
      have lv := vv.lt
      have hB1 := (unhide HB0).trans (hb1.mono (unhide HB0).size)
      obtain ⟨he, hN⟩ := unhide HSET _ hB1
      have hff : ∀ q, w1.frozen? ⟨E i, q, none⟩ = false := fun q => by simp [World.frozen?, he.ob]
      have z5 := he.v0
      have z6 := he.v1
      have z7 := he.v2
      have z8 := he.v3
      have z9 := he.v4
      have hel := he.lt
      have HB2 : Hid (Below bk w (valSet w1 (E i) v)) := hide ((hB1.mono (Nat.le_of_lt hlt)).trans (valSet_below (bk := bk) (w := w1) (b := E i) (v := v) (Nat.le_of_lt hEb)))
      have HN := hide hN
      clear hb1 vv hB1 he hN HSET HV0 HFND HB0
      go_wp2
      go_end0
      exact ⟨⟨⟨_, rfl⟩, _, _, _, _, _, unhide HN⟩, unhide HB2⟩
  · have hp : ¬ 0 ≤ placeI d k (hf k) := by omega
    have hpp : placeP E (placeI d k (hf k)) = none := by unfold placeP; rw [if_neg hp]
    rw [hpp] at FND
    have HFND := hide FND
    have hcnt := hI.i0.log.cnt
    have hle := hI.i0.le
    have htn := hI.i0.turns
    by_cases hc : v.kind ≠ 0 ∧ d.live < 500 ∧ d.turns < 1000000000000
    · have HRES : Hid (putD hf d k v = comeD hf d k v) := hide (putD_come hp hc)
      obtain ⟨hc1, hc2, hc3⟩ := hc
      have hc1' : (v.kind != 0) = true := by simp [hc1]
      have hc2' : decide (d.live < 500) = true := by simp [hc2]
      have hc3' : decide (d.turns < 1000000000000) = true := by simp [hc3]
      have HADD : Hid (∀ W, Below w.heap.size w W → Calls Tryd.prog 29 #[.pointer (some ⟨bk, 0, none⟩), V k.kind k.num k.flt k.str k.ref, V v.kind v.num v.flt v.str v.ref] W fun e w' => ((∃ u, e = .returned u) ∧ ∃ r0' r1' R2' E2 S', BMut w' bk r0' r1' R2' E2 S' (comeD hf d k v)) ∧ Below bk W w') := hide (fun W hW => add_any T hTl hf K KL hHs bk hTb r0 r1 R2 E S d k v W (hTl _ _ hT hW) (hM.below hW) hS hm4 hI hk hkb hv hc1 h1 hc2 hc3)
      have HM := hide hM
      rw [unhide HRES]
      clear hM hT hS hI h1 h2 hp hpp FND hb0 hc1 hc2 hc3
      go_enter Tryd.func15, Tryd.ntmps15
      go_wp2_with fail
      refine (unhide HFND _ (unhide HB0)).mono ?_
      rintro e w1 ⟨rfl, hb1⟩
      have hB1 := (unhide HB0).trans (hb1.mono (unhide HB0).size)
      have vv := (unhide HV0).2.keep hb1.size (hb1.block _ (unhide HV0).2.lt)
      have vk := (unhide HV0).1.keep hb1.size (hb1.block _ (unhide HV0).1.lt)
      have v0 := vv.k0
      have v1 := vv.k1
      have v2 := vv.k2
      have v3 := vv.k3
      have v4 := vv.k4
      have lv := vv.lt
      have y0 := vk.k0
      have y1 := vk.k1
      have y2 := vk.k2
      have y3 := vk.k3
      have y4 := vk.k4
      have lk := vk.lt
      have c5 := ((unhide HM).below hB1).c5
      have c6 := ((unhide HM).below hB1).c6
      have lb := ((unhide HM).below hB1).lt
      have HB1 := hide hB1
      clear hb1 vv vk hB1
      go_wp2_with fail
      refine (unhide HADD _ (unhide HB1)).mono ?_
      rintro e w2 ⟨⟨⟨uu, rfl⟩, r0', r1', R2', E2, S', hM2⟩, hb2⟩
      have HM2 := hide hM2
      have HB2 := hide (((unhide HB1).mono (Nat.le_of_lt hlt)).trans hb2)
      clear hM2 hb2
      go_wp2
      go_end0
      exact ⟨⟨⟨_, rfl⟩, r0', r1', R2', E2, S', unhide HM2⟩, unhide HB2⟩
    · have HRES : Hid (putD hf d k v = d) := hide (putD_not hp hc)
      have HM := hide hM
      rw [unhide HRES]
      have hcc : v.kind = 0 ∨ (v.kind ≠ 0 ∧ ¬ d.live < 500) ∨ (v.kind ≠ 0 ∧ d.live < 500 ∧ ¬ d.turns < 1000000000000) := by
        by_cases e1 : v.kind = 0
        · exact .inl e1
        · by_cases e2 : d.live < 500
          · exact .inr (.inr ⟨e1, e2, fun e3 => hc ⟨e1, e2, e3⟩⟩)
          · exact .inr (.inl ⟨e1, e2⟩)
      clear hM hT hS hI h1 h2 hp hpp FND hb0 hc
      go_enter Tryd.func15, Tryd.ntmps15
      go_wp2_with fail
      refine (unhide HFND _ (unhide HB0)).mono ?_
      rintro e w1 ⟨rfl, hb1⟩
      have hB1 := (unhide HB0).trans (hb1.mono (unhide HB0).size)
      have vv := (unhide HV0).2.keep hb1.size (hb1.block _ (unhide HV0).2.lt)
      have v0 := vv.k0
      have lv := vv.lt
      have hM1 := (unhide HM).below hB1
      have c5 := hM1.c5
      have c6 := hM1.c6
      have lb := hM1.lt
      have HM1 := hide hM1
      have HB1 := hide (hB1.mono (Nat.le_of_lt hlt))
      clear hb1 vv hB1 hM1
      rcases hcc with e1 | ⟨e1, e2⟩ | ⟨e1, e2, e3⟩
      · rw [e1] at v0
        clear e1
        go_wp2
        go_end0
        exact ⟨⟨⟨_, rfl⟩, _, _, _, _, _, unhide HM1⟩, unhide HB1⟩
      · have e1' : (v.kind != 0) = true := by simp [e1]
        have e2' : decide (d.live < 500) = false := by simp [e2]
        clear e1 e2
        go_wp2
        go_end0
        exact ⟨⟨⟨_, rfl⟩, _, _, _, _, _, unhide HM1⟩, unhide HB1⟩
      · have e1' : (v.kind != 0) = true := by simp [e1]
        have e2' : decide (d.live < 500) = true := by simp [e2]
        have e3' : decide (d.turns < 1000000000000) = false := by simp [e3]
        clear e1 e2 e3
        go_wp2
        go_end0
        exact ⟨⟨⟨_, rfl⟩, _, _, _, _, _, unhide HM1⟩, unhide HB1⟩
end Go.Proofs.YtglcaejddckleaaDoor
