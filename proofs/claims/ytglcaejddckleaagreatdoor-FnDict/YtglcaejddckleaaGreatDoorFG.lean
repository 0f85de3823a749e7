import Derived.Test.YtglcaejddckleaaGreatDoorFF
set_option linter.unusedVariables false
namespace Go.Proofs.YtglcaejddckleaaGreatDoor
section
open Go.RowKit
section
variable {w w3 : World} {bk : Nat} {r0 r1 : Value} {R2 : Nat} {E S : Nat → Nat} {d : Dc}
theorem BMut.pushL (h : BMut w bk r0 r1 R2 E S d) {W : World} (hW : Below w.heap.size w W) {g3 cp3 : Nat} (he : ECell w (E d.n) (d.L d.n) d.n) (heb : bk < E d.n) (hin : ∀ i, i < d.n → E i ≠ E d.n) (h1 : w3.ownsRow (bk + 1) tEnt 1 (.slice (some ⟨g3, 0, none⟩) (d.n + 1) cp3) (d.n + 1) (ptL (fun i => some ⟨E i, 0, none⟩) d.n ++ [.pointer (some ⟨E d.n, 0, none⟩)])) (hg : W.grownBy w3 r0.ownBlock) (hl : r0.ownBlock = some g3 ∨ w.heap.size ≤ g3) :
  BMut (w3.setCell ⟨bk, 0, none⟩ (.slice (some ⟨g3, 0, none⟩) (d.n + 1) cp3)) bk (.slice (some ⟨g3, 0, none⟩) (d.n + 1) cp3) r1 R2 E S { d with n := d.n + 1 } ∧ Below bk w (w3.setCell ⟨bk, 0, none⟩ (.slice (some ⟨g3, 0, none⟩) (d.n + 1) cp3)) := by
 have hlt := h.lt
 have hwz := hW.size
 have hz : w.heap.size ≤ w3.heap.size := Nat.le_trans hwz hg.size
 have hB : ∀ b, b < w.heap.size → r0.ownBlock ≠ some b → w3.heap[b]? = w.heap[b]? := fun b hb he => (hg.block b (by omega) (fun e => he e.symm)).trans (hW.block b hb)
 have hbk : r0.ownBlock ≠ some bk := fun e => by have := (h.log.lt bk e).1; omega
 have os : ∀ b, b ≠ bk → (w3.setCell ⟨bk, 0, none⟩ (.slice (some ⟨g3, 0, none⟩) (d.n + 1) cp3)).heap[b]? = w3.heap[b]? := fun b hb => Deep.blk_setCell_other _ _ _ _ (by exact hb)
 have hc : ∀ q, w3.cell? ⟨bk, q, none⟩ = w.cell? ⟨bk, q, none⟩ := fun q => World.cell?_of_block (a := ⟨bk, q, none⟩) (hB bk hlt hbk)
 have ho : ∀ q, q ≠ 0 → (w3.setCell ⟨bk, 0, none⟩ (.slice (some ⟨g3, 0, none⟩) (d.n + 1) cp3)).cell? ⟨bk, q, none⟩ = w.cell? ⟨bk, q, none⟩ := fun q hq => (cell_set_other (fun e => hq e.symm)).trans (hc q)
 have ty : ∀ {t : TypeId} {c : Array Value} {b : Nat}, w.heap[b]? = some (.cells c t (0, 0)) → t ≠ tEnt → r0.ownBlock ≠ some b := fun {t c b} hb ht e => by
  obtain ⟨c', hb'⟩ := h.log.block e
  exact type_apart hb hb' ht
 have hg3 := (World.ownsRow.lt h1 g3 rfl).1
 have kE : ∀ {b : Nat} {p : Pr} {i : Nat}, ECell w b p i → bk < b → ECell (w3.setCell ⟨bk, 0, none⟩ (.slice (some ⟨g3, 0, none⟩) (d.n + 1) cp3)) b p i := fun {b p i} hh hb => hh.keep (by simpa using hz) ((os _ (by omega)).trans (hB _ hh.lt (ty hh.ob (by decide))))
 refine ⟨⟨by simpa using Nat.lt_of_lt_of_le hlt hz, World.cell?_setCell_same' _ _ _ (by rw [hc, h.c0]; rfl), (ho 1 (by decide)).trans h.c1, (ho 2 (by decide)).trans h.c2, (ho 3 (by decide)).trans h.c3, (ho 4 (by decide)).trans h.c4, (ho 5 (by decide)).trans h.c5, (ho 6 (by decide)).trans h.c6, fun q => by rw [World.frozen?_setCell]; exact (World.frozen?_of_block (a := ⟨bk, q, none⟩) (hB bk hlt hbk)).trans (h.fz q), ?_, ?_, h.rf, ?_, ?_, fun i hi => ?_, fun i hi => ?_, fun i j hi hj e => ?_, fun j hj => ?_, h.sg⟩, ?_⟩
 ·have h2 : (w3.setCell ⟨bk, 0, none⟩ (.slice (some ⟨g3, 0, none⟩) (d.n + 1) cp3)).ownsRow (bk + 1) tEnt 1 (.slice (some ⟨g3, 0, none⟩) (d.n + 1) cp3) (d.n + 1) (ptL (fun i => some ⟨E i, 0, none⟩) d.n ++ [.pointer (some ⟨E d.n, 0, none⟩)]) := own_at h1 (fun q e => os q (by
   have e' : g3 = q := by simpa [Value.ownBlock] using e
   omega))
  exact h2
 ·exact own_at h.ints (fun q e => (os q (by have := (h.ints.lt q e).1; omega)).trans (hB q (h.ints.lt q e).2 (fun e' => h.ap q e' e)))
 ·exact own_at h.slots (fun q e => by
   obtain ⟨c, hb⟩ := h.slots.block e
   exact (os q (by have := (h.slots.lt q e).1; omega)).trans (hB q (h.slots.lt q e).2 (ty hb (by decide))))
 ·intro q e e'
  have e2 : g3 = q := by simpa [Value.ownBlock] using e
  subst e2
  rcases hl with hl | hl
  ·exact h.ap g3 hl e'
  ·have := (h.ints.lt g3 e').2; omega
 ·have hi' : i < d.n + 1 := hi
  by_cases e : i = d.n
  ·subst e; exact kE he heb
  ·exact kE (h.ent i (by omega)) (h.eb i (by omega))
 ·have hi' : i < d.n + 1 := hi
  by_cases e : i = d.n
  ·subst e; exact heb
  ·exact h.eb i (by omega)
 ·have hi' : i < d.n + 1 := hi
  have hj' : j < d.n + 1 := hj
  by_cases ei : i = d.n
  ·by_cases ej : j = d.n
   ·omega
   ·subst ei; exact absurd e.symm (hin j (by omega))
  ·by_cases ej : j = d.n
   ·subst ej; exact absurd e (hin i (by omega))
   ·exact h.inj i j (by omega) (by omega) e
 ·by_cases h0 : d.X j = 0
  ·exact ⟨fun hp => absurd hp (by show ¬ 0 < d.X j; omega), fun hp => absurd hp (by show ¬ d.X j < 0; omega)⟩
  ·exact SlotIs.keep (d := { d with n := d.n + 1 }) (w := w) (h.sl j hj) (by simpa using hz) (fun c hc => (os _ (by have := h.sg j hj h0; omega)).trans (hB _ (Array.getElem?_eq_some_iff.1 hc).1 (ty hc (by decide))))
 ·exact ((hW.mono (by omega)).grown hg (by omega) (fun k e => by have := (h.log.lt k e).1; omega)).setCell (by exact Nat.le_refl _) _
end
theorem BMut.compact {K : Vl → Prop} {hf : Vl → Nat} {w : World} {bk : Nat} {r0 r1 : Value} {R2 : Nat} {E S : Nat → Nat} {d : Dc} (hc : Core K d) (hl : ¬ ((d.n : Int) < 8 ∨ (d.n : Int) ≤ 2 * d.live)) (h : BMut w bk r0 r1 R2 E S (fillL hf (packX d) (sizeX (hldL (packX d) (packX d).n).length) (hldL (packX d) (packX d).n))) : BMut w bk r0 r1 R2 E S (compactD hf d) := by
 have hp := packD_core hc
 have h : BMut w bk r0 r1 R2 E S (fillL hf (packD d) (sizeX (hldL (packD d) (packD d).n).length) (hldL (packD d) (packD d).n)) := h
 have e1 : compactD hf d = reindexD hf (packD d) 0 := if_neg hl
 have rf := fun x => refill_fill (hf := hf) (d := packD d) (x := x) (fun i hi ht => hp.pos hi ht) (packD d).n (Nat.le_refl _)
 rw [e1]
 by_cases h0 : (hldL (packD d) (packD d).n).length = 0
 ·rw [reindexD_none (by rw [(rf 0).2]; omega)]
  have hn : hldL (packD d) (packD d).n = [] := List.eq_nil_of_length_eq_zero h0
  rw [h0, hn] at h
  have h : BMut w bk r0 r1 R2 E S { packD d with x := 0, X := fun _ => 0, used := 0 } := h
  exact h.of_same rfl rfl rfl rfl rfl rfl (fun _ _ => rfl) (fun j hj => absurd hj (Nat.not_lt_zero _)) (fun _ _ => rfl) (fun _ _ => rfl) (fun i hi => by
   rcases hp.ints i hi with e | e
   ·show (packD d).I i ≤ ((packD d).n : Int); omega
   ·exact e.2.1) (fun j hj => absurd hj (Nat.not_lt_zero _))
 ·rw [reindexD_some (by rw [(rf 0).2]; omega), (rf _).1, (rf 0).2]
  have e2 : sizeX (hldL (packD d) (packD d).n).length = sizeFor ((hldL (packD d) (packD d).n).length + 0) := if_neg h0
  rw [e2] at h
  exact h
def onW (c : Dc) (k v : Vl) : Dc := { addL c k v with n := c.n }
theorem onW_L (c : Dc) (k v : Vl) : (onW c k v).L c.n = ⟨k, v, c.turns + 1⟩ := upd_same _ _ _
theorem onW_old (c : Dc) (k v : Vl) {i : Nat} (hi : i < c.n) : (onW c k v).L i = c.L i := upd_other _ _ (by omega)
theorem enter_onW (hf : Vl → Nat) (c : Dc) (k v k' : Vl) (p : Nat) : enterD hf (onW c k v) k' p = onW (enterD hf c k' p) k v := by
 unfold enterD
 show (match freeSlot c.x c.X (hf k' % c.x) with | none => _ | some s => _) = _
 cases freeSlot c.x c.X (hf k' % c.x) <;> rfl
theorem enter_cut (hf : Vl → Nat) (c : Dc) (k' : Vl) (p n : Nat) : enterD hf { c with n := n } k' p = { enterD hf c k' p with n := n } := by
 unfold enterD
 show (match freeSlot c.x c.X (hf k' % c.x) with | none => _ | some s => _) = _
 cases freeSlot c.x c.X (hf k' % c.x) <;> rfl
theorem fill_onW (hf : Vl → Nat) (c : Dc) (k v : Vl) (x : Nat) (l : List Nat) (hl : ∀ p ∈ l, p < c.n) : fillL hf (onW c k v) x l = onW (fillL hf c x l) k v := by
 suffices h : ∀ (l : List Nat), (∀ p ∈ l, p < c.n) → ∀ b : Dc, l.foldl (fun e p => enterD hf e ((onW c k v).L p).key p) (onW b k v) = onW (l.foldl (fun e p => enterD hf e (c.L p).key p) b) k v from h l hl { c with x := x, X := fun _ => 0, used := 0 }
 intro l
 induction l with
 | nil => intro _ b; rfl
 | cons p l ih =>
  intro hl b
  show l.foldl _ (enterD hf (onW b k v) ((onW c k v).L p).key p) = _
  rw [onW_old c k v (hl p (by simp)), enter_onW]
  exact ih (fun q hq => hl q (by simp [hq])) _
theorem hld_onW (c : Dc) (k v : Vl) : hldL (onW c k v) (onW c k v).n = hldL c c.n := by
 unfold hldL
 have e : livL (onW c k v) (onW c k v).n = livL c c.n := livL_congr c.n (fun i hi => by rw [onW_old c k v hi])
 rw [e]
 refine List.filter_congr (fun i hi => ?_)
 rw [onW_old c k v (mem_livL.1 hi).1]
 rfl
theorem room_onW {K : Vl → Prop} {hf : Vl → Nat} {c : Dc} {k v : Vl} (hc : Core K c) : roomB hf (onW c k v) = onW (roomD hf c) k v := by
 have rf := fun x => refill_fill (hf := hf) (d := c) (x := x) (fun i hi ht => hc.pos hi ht) c.n (Nat.le_refl _)
 unfold roomB roomD
 rw [hld_onW]
 by_cases h : (c.x : Int) < 2 * (c.used + 1)
 ·rw [if_pos h, if_pos (show ((onW c k v).x : Int) < 2 * ((onW c k v).used + 1) from h), reindexD_some (by omega), (rf _).1, (rf 0).2, fill_onW hf c k v _ _ (fun p hp => (mem_hldL hp).1)]
  have e : sizeX ((hldL c c.n).length + 1) = sizeFor ((hldL c c.n).length + 1) := if_neg (by omega)
  rw [e]
 ·rw [if_neg h, if_neg (show ¬ ((onW c k v).x : Int) < 2 * ((onW c k v).used + 1) from h)]
theorem onW_addL {c : Dc} {k v : Vl} {n : Nat} (h : c.n = n) : onW c k v = { addL c k v with n := n } := by subst h; rfl
end
section
open Go.RowKit
attribute [local go_sem] run_store_float run_equalIn_float
structure VBox (W : World) (b : Nat) (k : Vl) : Prop where
 lt : b < W.heap.size
 k0 : W.cell? ⟨b, 0, none⟩ = some (.int .i64 k.kind)
 k1 : W.cell? ⟨b, 1, none⟩ = some (.int .i64 k.num)
 k2 : W.cell? ⟨b, 2, none⟩ = some (.float .f64 k.flt)
 k3 : W.cell? ⟨b, 3, none⟩ = some (.string k.str)
 k4 : W.cell? ⟨b, 4, none⟩ = some (.int .i64 k.ref)
theorem VBox.keep {W W' : World} {b : Nat} {k : Vl} (h : VBox W b k) (hz : W.heap.size ≤ W'.heap.size) (e : W'.heap[b]? = W.heap[b]?) : VBox W' b k :=
 ⟨Nat.lt_of_lt_of_le h.lt hz, (World.cell?_of_block e).trans h.k0, (World.cell?_of_block e).trans h.k1, (World.cell?_of_block e).trans h.k2, (World.cell?_of_block e).trans h.k3, (World.cell?_of_block e).trans h.k4⟩
def HeldN (n0 bk : Nat) (k v : Vl) (t : Int) (a : Option Addr) (n c : Nat) (W : World) : Prop := W.cell? ⟨n0, 0, none⟩ = some (.int .i64 k.kind) ∧ W.cell? ⟨n0, 1, none⟩ = some (.int .i64 k.num) ∧ W.cell? ⟨n0, 2, none⟩ = some (.float .f64 k.flt) ∧ W.cell? ⟨n0, 3, none⟩ = some (.string k.str) ∧ W.cell? ⟨n0, 4, none⟩ = some (.int .i64 k.ref) ∧ W.cell? ⟨n0 + 1, 0, none⟩ = some (.int .i64 v.kind) ∧ W.cell? ⟨n0 + 1, 1, none⟩ = some (.int .i64 v.num) ∧ W.cell? ⟨n0 + 1, 2, none⟩ = some (.float .f64 v.flt) ∧ W.cell? ⟨n0 + 1, 3, none⟩ = some (.string v.str) ∧ W.cell? ⟨n0 + 1, 4, none⟩ = some (.int .i64 v.ref) ∧ W.cell? ⟨bk, 6, none⟩ = some (.int .i64 t) ∧ W.cell? ⟨bk, 0, none⟩ = some (.slice a n c)
def HeldT (bk n0 R1 m k1 q : Nat) (W : World) : Prop := W.cell? ⟨bk, 1, none⟩ = some (.slice (some ⟨R1, 0, none⟩) m k1) ∧ W.cell? ⟨n0, 1, none⟩ = some (.int .i64 ((q : Int) + 1))
theorem livN_hld {K : Vl → Prop} {c : Dc} (h : Core K c) (hl : c.live < 500) : (hldL c c.n).length + 1 ≤ 500 := by
 have h1 := hldL_le c c.n
 have h2 := h.live_n
 have h3 : lvN c = (livL c c.n).length := rfl
 omega
structure AEnd (W : World) (bk : Nat) (r0 r1 : Value) (R2 : Nat) (E S : Nat → Nat) (D : Dc) : Prop where
 bm : BMut W bk r0 r1 R2 E S D
 e : ECell W (E D.n) (D.L D.n) D.n
 eb : bk < E D.n
 ne : ∀ i, i < D.n → E i ≠ E D.n
theorem AEnd.fin {Wx w3 : World} {bk : Nat} {r0 r1 : Value} {R2 : Nat} {E S : Nat → Nat} {D : Dc} (h : AEnd Wx bk r0 r1 R2 E S D) {o : Obj} {g3 cp3 : Nat} (h1 : w3.ownsRow (bk + 1) tEnt 1 (.slice (some ⟨g3, 0, none⟩) (D.n + 1) cp3) (D.n + 1) (ptL (fun i => some ⟨E i, 0, none⟩) D.n ++ [.pointer (some ⟨E D.n, 0, none⟩)])) (hg : (Wx.alloc o).grownBy w3 r0.ownBlock) (hl : r0.ownBlock = some g3 ∨ g3 = Wx.heap.size + 1) :
  w3.cell? ⟨bk, 0, none⟩ = some r0 ∧ w3.frozen? ⟨bk, 0, none⟩ = false ∧ bk < w3.heap.size ∧ BMut (w3.setCell ⟨bk, 0, none⟩ (.slice (some ⟨g3, 0, none⟩) (D.n + 1) cp3)) bk (.slice (some ⟨g3, 0, none⟩) (D.n + 1) cp3) r1 R2 E S { D with n := D.n + 1 } ∧ Below bk Wx (w3.setCell ⟨bk, 0, none⟩ (.slice (some ⟨g3, 0, none⟩) (D.n + 1) cp3)) := by
 have hlt := h.bm.lt
 have hn : r0.ownBlock ≠ some bk := fun e => by have := (h.bm.log.lt bk e).1; omega
 have hb : w3.heap[bk]? = Wx.heap[bk]? := (hg.block bk (by simp; omega) (fun e => hn e.symm)).trans (Deep.blk_alloc_lt _ _ _ hlt)
 have hz : Wx.heap.size + 1 ≤ w3.heap.size := by have := hg.size; simpa using this
 obtain ⟨p1, p2⟩ := h.bm.pushL ((Below.refl _ _).alloc (Nat.le_refl _) o) h.e h.eb h.ne h1 hg (by rcases hl with hl | hl; exact .inl hl; exact .inr (by omega))
 exact ⟨(World.cell?_of_block (a := ⟨bk, 0, none⟩) hb).trans h.bm.c0, (World.frozen?_of_block (a := ⟨bk, 0, none⟩) hb).trans (h.bm.fz 0), by omega, p1, p2⟩
theorem HeldN.below {n0 bk : Nat} {k v : Vl} {t : Int} {a : Option Addr} {n c : Nat} {W W' : World} (h : HeldN n0 bk k v t a n c W) (hb : Below W.heap.size W W') (h0 : n0 + 1 < W.heap.size) (h1 : bk < W.heap.size) : HeldN n0 bk k v t a n c W' := by
 obtain ⟨s0, s1, s2, s3, s4, s5, s6, s7, s8, s9, s10, s11⟩ := h
 have e : ∀ {b q : Nat}, b < W.heap.size → W'.cell? ⟨b, q, none⟩ = W.cell? ⟨b, q, none⟩ := fun {b q} hh => hb.cell (p := ⟨b, q, none⟩) hh
 exact ⟨(e (by omega)).trans s0, (e (by omega)).trans s1, (e (by omega)).trans s2, (e (by omega)).trans s3, (e (by omega)).trans s4, (e h0).trans s5, (e h0).trans s6, (e h0).trans s7, (e h0).trans s8, (e h0).trans s9, (e h1).trans s10, (e h1).trans s11⟩
set_option maxRecDepth 100000 in
set_option maxHeartbeats 8000000 in
theorem add_any (T : World → Prop) (hTl : Lasts T) (hf : Vl → Nat) (K : Vl → Prop) (KL : KeyLaw K hf) (hHs : ∀ v, K v → HsI T v (hf v)) (bk : Nat) (hTb : ∀ w w', T w → Below bk w w' → T w') (r0 r1 : Value) (R2 : Nat) (E S : Nat → Nat) (d : Dc) (k v : Vl) (w : World) (hT : T w) (hM : BMut w bk r0 r1 R2 E S d) (hS : Small d) (hm4 : d.m ≤ 4000000)
  (hI : Inv K hf d) (hk : K k) (hkb : keyB k = true) (hv : v.ok = true) (hv0 : v.kind ≠ 0) (hno : ∀ i, i < d.n → (d.L i).turn ≠ 0 → likeB (d.L i).key k = false) (hl : d.live < 500) (ht : d.turns < 1000000000000) :
  Calls Tryz.prog 96 #[.pointer (some ⟨bk, 0, none⟩), V k.kind k.num k.flt k.str k.ref, V v.kind v.num v.flt v.str v.ref] w fun e w' => ((∃ u, e = .returned u) ∧ ∃ r0' r1' R2' E2 S', BMut w' bk r0' r1' R2' E2 S' (comeD hf d k v)) ∧ Below bk w w' := by
 obtain ⟨i0, hi0, hz0, hz1, hz2⟩ := info_parts infoEnt
 have hlt := hM.lt
 have hcnt : 0 ≤ d.live := by have := hI.i0.log.cnt; omega
 have hb0 : Below w.heap.size w ((w.alloc (.cells #[.int .i64 k.kind, .int .i64 k.num, .float .f64 k.flt, .string k.str, .int .i64 k.ref] 30)).alloc (.cells #[.int .i64 v.kind, .int .i64 v.num, .float .f64 v.flt, .string v.str, .int .i64 v.ref] 30)) := ((Below.refl _ _).alloc (Nat.le_refl _) _).alloc (by simp) _
 -- what is known behind the tightening
 obtain ⟨cl1, cl2, cl3, cl4⟩ := compactD_live (hf := hf) hI.i0.core
 have hci := compactD_inv hI.i0
 have hcn := compactD_next (hf := hf) hI.i0.core hI.next
 have hcno : ∀ i, i < (compactD hf d).n → ((compactD hf d).L i).turn ≠ 0 → likeB ((compactD hf d).L i).key k = false := fun i hi hti => by
  cases e : likeB ((compactD hf d).L i).key k
  ·rfl
  ·obtain ⟨j, h1, h2, h3⟩ := (compactD_pairs (hf := hf) hI.i0.core (fun p => likeB p.key k = true)).1 ⟨i, hi, hti, e⟩
   have h4 := hno j h1 h2
   rw [h3] at h4
   cases h4
 have hcx : (compactD hf d).x ≤ 4000 := by
  rcases hci.sz with h | h
  ·omega
  ·exact h.2.1
 have hcn' : (compactD hf d).n ≤ 4194304 := by
  rcases cl4 with h | h <;> omega
 have hcI : ∀ i, i < (compactD hf d).m → (compactD hf d).I i ≤ (compactD hf d).n := fun i hi => by
  rcases hci.ints i hi with e | e
  ·omega
  ·exact e.2.1
 have hcX : ∀ j, j < (compactD hf d).x → (compactD hf d).X j ≤ (compactD hf d).n := fun j hj => by
  rcases hci.idx.range j hj with e | e | ⟨e1, e2, _⟩ <;> omega
 have HRES : Hid (comeD hf d k v = comeC hf (compactD hf d) k v) := uy rfl
 have TIGHT : ∀ W, Below w.heap.size w W → looseK d → Calls Tryz.prog 124 #[.pointer (some ⟨bk, 0, none⟩)] W fun e w' => ((∃ u, e = .returned u) ∧ ∃ r0' R2' E2 S', BMut w' bk r0' r1 R2' E2 S' (compactD hf d)) ∧ KX (fun b => b = bk ∨ ∃ i, i < d.n ∧ E i = b) bk W w' := fun W hW hlo => by
  refine (tighten_any T hTl hf bk hTb r0 r1 R2 E S d W (hTl _ _ hT hW) (hM.below hW) hS (fun i hi ht => hHs _ (hI.i0.keys i hi ht)) (by have := hI.i0.core.live_n; omega) (fun j hj => by
   rcases hI.i0.ints j hj with e | e
   ·exact .inl e
   ·exact .inr ⟨e.1, e.2.1, e.2.2.1⟩) (fun j hj h0 => by
   rcases hI.i0.idx.range j hj with e | e | ⟨e1, e2, e3, _⟩
   ·omega
   ·omega
   ·exact ⟨by omega, e3⟩)).mono ?_
  rintro e w' ⟨⟨hu, r0', R2', E2, S', hN⟩, hkx⟩
  exact ⟨⟨hu, r0', R2', E2, S', hN.compact hI.i0.core (by have := hlo.1; have := hlo.2; omega)⟩, hkx⟩
 have HTIGHT := uy TIGHT
 have HE : Hid (∀ i, i < d.n → E i < w.heap.size) := uy (fun i hi => (hM.ent i hi).lt)
 have HC : Hid (¬ looseK d → compactD hf d = d) := uy (fun h => if_pos (by
  by_cases h8 : (d.n : Int) < 8
  ·exact .inl h8
  ·exact .inr (by
    refine Classical.byContradiction fun h2 => h ⟨by omega, by omega⟩)))
 have HM := uy hM
 have HLO : Hid (∀ W, Below w.heap.size w W → Calls Tryz.prog 123 #[.pointer (some ⟨bk, 0, none⟩)] W fun e w' => e = .returned (.bool (tells (looseK d))) ∧ Below W.heap.size W w') := uy (fun W hW => isLoose_any bk r0 r1 R2 E S d W (hM.below hW) hS hcnt (by omega))
 have HB0 := uy hb0
 have HT := uy hT
 rw [uh HRES]
 have hclive : (compactD hf d).live < 500 := by omega
 have hcturn : (compactD hf d).turns < 1000000000000 := by omega
 have hcm : (compactD hf d).m ≤ 4000000 := by omega
 clear cl1 cl2 cl3 cl4 HRES TIGHT hM hS hT hb0 hI hno hl ht hcnt
 generalize compactD hf d = c at *
 have HV0 : Hid (VBox ((w.alloc (.cells #[.int .i64 k.kind, .int .i64 k.num, .float .f64 k.flt, .string k.str, .int .i64 k.ref] 30)).alloc (.cells #[.int .i64 v.kind, .int .i64 v.num, .float .f64 v.flt, .string v.str, .int .i64 v.ref] 30)) w.heap.size k ∧ VBox ((w.alloc (.cells #[.int .i64 k.kind, .int .i64 k.num, .float .f64 k.flt, .string k.str, .int .i64 k.ref] 30)).alloc (.cells #[.int .i64 v.kind, .int .i64 v.num, .float .f64 v.flt, .string v.str, .int .i64 v.ref] 30)) (w.heap.size + 1) v) := uy ⟨⟨by simp; omega, by simp [go_sem], by simp [go_sem], by simp [go_sem], by simp [go_sem], by simp [go_sem]⟩, ⟨by simp, by simp [go_sem], by simp [go_sem], by simp [go_sem], by simp [go_sem], by simp [go_sem]⟩⟩
 by_cases hlo : looseK d
 ·have HLT := uy (tells_yes hlo)
  have HT2 := uy (fun W hW => uh HTIGHT W hW hlo)
  clear hlo HC
  go_enter Tryz.func96, Tryz.ntmps96
  go_wp2_with fail
  refine (uh HLO _ (uh HB0)).mono ?_
  rintro e w1 ⟨rfl, hb1⟩
  rw [uh HLT]
  have HB1 := uy ((uh HB0).trans (hb1.mono (uh HB0).size))
  have HK1 := uy ((uh HV0).1.keep hb1.size (hb1.block _ (uh HV0).1.lt))
  have HV1 := uy ((uh HV0).2.keep hb1.size (hb1.block _ (uh HV0).2.lt))
  clear hb1
  go_wp2_with fail
  refine (uh HT2 _ (uh HB1)).mono ?_
  rintro e W ⟨⟨⟨uu, rfl⟩, r0c, R2c, Ec, Sc, hMc⟩, hkx⟩
  have vk : VBox W w.heap.size k := (uh HK1).keep hkx.bel.size (hkx.blk _ (uh HK1).lt (by
   rintro (e | ⟨i, hi, e⟩)
   ·omega
   ·have := uh HE i hi; omega))
  have vv : VBox W (w.heap.size + 1) v := (uh HV1).keep hkx.bel.size (hkx.blk _ (uh HV1).lt (by
   rintro (e | ⟨i, hi, e⟩)
   ·omega
   ·have := uh HE i hi; omega))
  have hBW : Below bk w W := ((uh HB1).mono (by omega)).trans hkx.bel
  clear hkx HT2 HK1 HV1 HB1 HV0 HB0 HLO HTIGHT
  obtain ⟨la, lc, e0⟩ := hMc.log.slice
  subst e0
  have c6 := hMc.c6
  have c5 := hMc.c5
  have f5 := hMc.fz 5
  have f6 := hMc.fz 6
  have hlW := hMc.lt
  have tp := hci.turns.1
  have cp0 : 0 ≤ c.live := by have := hci.log.cnt; omega
  have hw6 : IntKind.i64.wrap (c.turns + 1) = c.turns + 1 := by rw [IntKind.wrap_i64]; omega
  have hw5 : IntKind.i64.wrap (c.live + 1) = c.live + 1 := by rw [IntKind.wrap_i64]; omega
  have HM2 := uy ((hMc.setTurns (c.turns + 1)).setLive (c.live + 1))
  have HVK := uy vk
  have HVV := uy vv
  have HBW := uy hBW
  clear hMc vk vv hBW
  go_wp2_with fail
  generalize hW2 : (W.setCell ⟨bk, 6, none⟩ (.int .i64 (c.turns + 1))).setCell ⟨bk, 5, none⟩ (.int .i64 (c.live + 1)) = W2 at *
  have vk2 : VBox W2 w.heap.size k := (uh HVK).keep (by rw [← hW2]; simp) (by rw [← hW2]; exact (Deep.blk_setCell_other _ _ _ _ (by show w.heap.size ≠ bk; omega)).trans (Deep.blk_setCell_other _ _ _ _ (by show w.heap.size ≠ bk; omega)))
  have vv2 : VBox W2 (w.heap.size + 1) v := (uh HVV).keep (by rw [← hW2]; simp) (by rw [← hW2]; exact (Deep.blk_setCell_other _ _ _ _ (by show w.heap.size + 1 ≠ bk; omega)).trans (Deep.blk_setCell_other _ _ _ _ (by show w.heap.size + 1 ≠ bk; omega)))
  have HB2 : Hid (Below bk w W2) := uy (by rw [← hW2]; exact ((uh HBW).setCell (by exact Nat.le_refl _) _).setCell (by exact Nat.le_refl _) _)
  have hM2 := uh HM2
  have hl2 : bk < W2.heap.size := hM2.lt
  have c6' : W2.cell? ⟨bk, 6, none⟩ = some (.int .i64 (c.turns + 1)) := hM2.c6
  have c0' : W2.cell? ⟨bk, 0, none⟩ = some (.slice la c.n lc) := hM2.c0
  have lk2 := vk2.lt
  have lv2 := vv2.lt
  have hS0 : HeldN w.heap.size bk k v (c.turns + 1) la c.n lc W2.drew := ⟨vk2.k0, vk2.k1, vk2.k2, vk2.k3, vk2.k4, vv2.k0, vv2.k1, vv2.k2, vv2.k3, vv2.k4, c6', c0'⟩
  have HVK2 := uy vk2
  clear HVK HVV HBW hM2 vk2 vv2 c6 c5 f5 f6 c6' c0' hW2 hw5 hw6
  refine wpN_held (HeldN w.heap.size bk k v (c.turns + 1) la c.n lc) (by kernel_rfl) ?_
  change wpAnyH _ _ _ _ _ _ _ _ (World.drew _)
  refine tk 0 (v := ?_) rfl (by kernel_rfl) (by rfl) ?_ (by assumption) ?_
  rotate_left
  ·intro w' ⟨s0, s1, s2, s3, s4, s5, s6, s7, s8, s9, s10, s11⟩; go_simp; try with_reducible rfl
  simp only [Act.put, sA, sB, sC]
  refine tk 1 (v := ?_) rfl (by kernel_rfl) (by rfl) ?_ (by assumption) ?_
  rotate_left
  ·intro w' ⟨s0, s1, s2, s3, s4, s5, s6, s7, s8, s9, s10, s11⟩; go_simp; try with_reducible rfl
  simp only [Act.put, sA, sB, sC]
  refine tk 2 (v := ?_) rfl (by kernel_rfl) (by rfl) ?_ (by assumption) ?_
  rotate_left
  ·intro w' ⟨s0, s1, s2, s3, s4, s5, s6, s7, s8, s9, s10, s11⟩; go_simp; try with_reducible rfl
  simp only [Act.put, sA, sB, sC]
  refine tk 3 (v := ?_) rfl (by kernel_rfl) (by rfl) ?_ (by assumption) ?_
  rotate_left
  ·intro w' ⟨s0, s1, s2, s3, s4, s5, s6, s7, s8, s9, s10, s11⟩; go_simp; try with_reducible rfl
  simp only [Act.put, sA, sB, sC]
  refine tk 4 (v := ?_) rfl (by kernel_rfl) (by rfl) ?_ (by assumption) ?_
  rotate_left
  ·intro w' ⟨s0, s1, s2, s3, s4, s5, s6, s7, s8, s9, s10, s11⟩; go_simp; try with_reducible rfl
  simp only [Act.put, sA, sB, sC]
  refine tk 5 (v := ?_) rfl (by kernel_rfl) (by rfl) ?_ (by assumption) ?_
  rotate_left
  ·intro w' ⟨s0, s1, s2, s3, s4, s5, s6, s7, s8, s9, s10, s11⟩; go_simp; try with_reducible rfl
  simp only [Act.put, sA, sB, sC]
  refine tk 6 (v := ?_) rfl (by kernel_rfl) (by rfl) ?_ (by assumption) ?_
  rotate_left
  ·intro w' ⟨s0, s1, s2, s3, s4, s5, s6, s7, s8, s9, s10, s11⟩; go_simp; try with_reducible rfl
  simp only [Act.put, sA, sB, sC]
  refine tk 7 (v := ?_) rfl (by kernel_rfl) (by rfl) ?_ (by assumption) ?_
  rotate_left
  ·intro w' ⟨s0, s1, s2, s3, s4, s5, s6, s7, s8, s9, s10, s11⟩; go_simp; try with_reducible rfl
  simp only [Act.put, sA, sB, sC]
  refine tk 8 (v := ?_) rfl (by kernel_rfl) (by rfl) ?_ (by assumption) ?_
  rotate_left
  ·intro w' ⟨s0, s1, s2, s3, s4, s5, s6, s7, s8, s9, s10, s11⟩; go_simp; try with_reducible rfl
  simp only [Act.put, sA, sB, sC]
  refine tk 9 (v := ?_) rfl (by kernel_rfl) (by rfl) ?_ (by assumption) ?_
  rotate_left
  ·intro w' ⟨s0, s1, s2, s3, s4, s5, s6, s7, s8, s9, s10, s11⟩; go_simp; try with_reducible rfl
  simp only [Act.put, sA, sB, sC]
  refine tk 10 (v := ?_) rfl (by kernel_rfl) (by rfl) ?_ (by assumption) ?_
  rotate_left
  ·intro w' ⟨s0, s1, s2, s3, s4, s5, s6, s7, s8, s9, s10, s11⟩; go_simp; try with_reducible rfl
  simp only [Act.put, sA, sB, sC]
  refine tk 11 (v := ?_) rfl (by kernel_rfl) (by rfl) ?_ (by assumption) ?_
  rotate_left
  ·intro w' ⟨s0, s1, s2, s3, s4, s5, s6, s7, s8, s9, s10, s11⟩; go_simp; try with_reducible rfl
  simp only [Act.put, sA, sB, sC]
  refine tk 12 (v := ?_) rfl (by kernel_rfl) (by rfl) ?_ (by assumption) ?_
  rotate_left
  ·intro w' ⟨s0, s1, s2, s3, s4, s5, s6, s7, s8, s9, s10, s11⟩; go_simp; try with_reducible rfl
  simp only [Act.put, sA, sB, sC]
  refine wpAnyH_ready (rs := [13]) (by kernel_rfl) (by simp) ?_
  refine AllReadyH.cons rfl (fun K hK => ?_) AllReadyH.nil
  go_simp
  refine hK.out _ _ (hS0.below ((Below.refl _ _).alloc (Nat.le_refl _) _) lv2 hl2) (fun hS1 => ?_)
  clear hK K
  refine tk 14 (v := ?_) rfl (by kernel_rfl) (by rfl) ?_ (by assumption) ?_
  rotate_left
  ·intro w' ⟨s0, s1, s2, s3, s4, s5, s6, s7, s8, s9, s10, s11⟩; go_simp; try with_reducible rfl
  simp only [Act.put, sA, sB, sC]
  try simp only [List.getElem_toArray]
  try simp only [List.getElem_cons_succ]
  try simp only [List.getElem_cons_zero]
  try simp only [List.setIfInBounds_toArray]
  try simp only [List.set_cons_succ]
  try simp only [List.set_cons_zero]
  refine wpAnyH_done (by kernel_rfl) ?_ _
  refine QN.normal ?_
  clear hS0 hS1
  obtain ⟨W3, hW3⟩ : ∃ W3, W3 = (W2.alloc (.cells (entA ⟨k, v, c.turns + 1⟩ c.n) 92)).drew := ⟨_, rfl⟩
  try simp only [World.alloc_drew]
  rw [← hW3]
  have z3 : W3.heap.size = W2.heap.size + 1 := by rw [hW3]; simp
  have hb3 : Below W2.heap.size W2 W3 := by rw [hW3]; exact ((Below.refl _ _).alloc (Nat.le_refl _) _).drew
  have ob3 : W3.heap[W2.heap.size]? = some (.cells (entA ⟨k, v, c.turns + 1⟩ c.n) 92 (0, 0)) := by rw [hW3]; exact Deep.blk_alloc_new _ _
  have vk3 : VBox W3 w.heap.size k := (uh HVK2).keep hb3.size (hb3.block _ lk2)
  have HB3 := uy ((uh HB2).trans (hb3.mono (by omega)))
  obtain ⟨E1, hE1⟩ : ∃ E1, E1 = upd Ec c.n W2.heap.size := ⟨_, rfl⟩
  have hE1n : E1 c.n = W2.heap.size := by rw [hE1]; exact upd_same _ _ _
  have hA : AEnd W3 bk (.slice la c.n lc) r1 R2c E1 Sc (onW c k v) := by
   have hM3 := (uh HM2).below hb3
   refine ⟨hM3.of_same rfl rfl rfl rfl rfl rfl (fun _ _ => rfl) (fun _ _ => rfl) (fun i hi => upd_other _ _ (by have hi' : i < c.n := hi; omega)) (fun i hi => by rw [hE1]; exact upd_other _ _ (by have hi' : i < c.n := hi; omega)) hcI hcX, ?_, ?_, fun i hi => ?_⟩
   ·show ECell W3 (E1 c.n) ((onW c k v).L c.n) c.n
    rw [hE1n, onW_L]
    exact ECell.of_ob ob3
   ·show bk < E1 c.n
    omega
   ·have hi' : i < c.n := hi
    show E1 i ≠ E1 c.n
    rw [hE1n, hE1, upd_other _ _ (by omega)]
    have := ((uh HM2).ent i hi').lt
    omega
  have l3 := vk3.lt
  have lb3 := hA.bm.lt
  obtain ⟨R1, k1, e1⟩ := hA.bm.rf
  have e1 : r1 = .slice (some ⟨R1, 0, none⟩) c.m k1 := e1
  have c1 : W3.cell? ⟨bk, 1, none⟩ = some (.slice (some ⟨R1, 0, none⟩) c.m k1) := by rw [← e1]; exact hA.bm.c1
  have hR1 := (hA.bm.ints.lt R1 (by rw [e1]; rfl)).1
  have hR1l := (hA.bm.ints.lt R1 (by rw [e1]; rfl)).2
  have q0 := vk3.k0
  have q1 := vk3.k1
  have q2 := vk3.k2
  have q3 := vk3.k3
  have q4 := vk3.k4
  have HA := uy hA
  have HVK3 := uy vk3
  have HE1 := uy hE1n
  have HE1r := uy e1
  rw [← hE1n]
  clear hA vk3 hE1 hE1n e1 ob3 hb3 hW3 HM2 HB2 HVK2 z3
  by_cases hs : smallK c.m k
  ·have HSM := uy (tells_yes hs)
   obtain ⟨a1, a2, a3⟩ := hs
   obtain ⟨q, hq⟩ : ∃ q : Nat, k.num = (q : Int) + 1 := ⟨(k.num - 1).toNat, by omega⟩
   have hqm : q < c.m := by omega
   have HRES : Hid ({ onW c k v with I := upd (onW c k v).I q ((c.n : Int) + 1), n := c.n + 1 } = comeC hf c k v) := uy (by
    have e : comeC hf c k v = addSmall c k v := if_pos ⟨a1, a2, a3⟩
    rw [e]
    unfold addSmall
    rw [show (k.num - 1).toNat = q by omega]
    rfl)
   have hwq : IntKind.i64.wrap (q : Int) = q := by rw [IntKind.wrap_i64]; omega
   have HQ := uy hq
   clear a1 a2 a3 hq
   go_wp2_with fail
   refine wp_region_quiet (C := fun w' => Below W3.heap.size W3 w') (by kernel_rfl) (by kernel_rfl) ((Below.refl _ _).drew) ?_
   show wpQuiet _ _ _ _ [_, _, _, _, _, _, _] _
   refine wpQuiet_step (fun K hK => ?_)
   go_simp
   apply Exists.intro
   refine And.intro (fun w' hw' => ?_) (hK _ ?_)
   ·obtain ⟨hc', hf'⟩ := bcell hw'
    go_simp
    first | rfl | exact ⟨rfl, rfl⟩ | exact ⟨rfl⟩
   clear hK K
   iterate 3 (refine wpQuiet_step (fun K hK => ?_); go_simp; refine ⟨_, fun w' hw' => rfl, hK _ ?_⟩; clear hK K)
   refine wpQuiet_step (fun K hK => ?_)
   go_simp
   apply Exists.intro
   refine And.intro (fun w' hw' => ?_) (hK _ ?_)
   ·obtain ⟨hc', hf'⟩ := bcell hw'
    go_simp
    first | rfl | exact ⟨rfl, rfl⟩ | exact ⟨rfl⟩
   clear hK K
   refine wpQuiet_step (fun K hK => ?_)
   go_simp
   refine ⟨_, fun w' hw' => rfl, hK _ ?_⟩
   clear hK K
   refine wpQuiet_step (fun K hK => ?_)
   go_simp
   apply Exists.intro
   refine And.intro (fun w' hw' => ?_) (hK _ ?_)
   ·refine (((uh HSM) ▸ hasPlace_any k c.m _ (by omega))).mono ?_
    rintro e w'' ⟨rfl, hb⟩
    exact ⟨rfl, hw'.trans (hb.mono hw'.size)⟩
   clear hK K
   refine wpQuiet_nil ?_
   intro w4 hw4
   have l4 := Nat.lt_of_lt_of_le l3 hw4.size
   have lb4 := Nat.lt_of_lt_of_le lb3 hw4.size
   have c14 := (hw4.cell (p := ⟨bk, 1, none⟩) lb3).trans c1
   have q14 := (hw4.cell (p := ⟨w.heap.size, 1, none⟩) l3).trans q1
   rw [uh HQ] at q14
   have hR1l4 := Nat.lt_of_lt_of_le hR1l hw4.size
   have hA4 : AEnd w4 bk (.slice la c.n lc) r1 R2c E1 Sc (onW c k v) := ⟨(uh HA).bm.below hw4, (uh HA).e.keep hw4.size (hw4.block _ (uh HA).e.lt), (uh HA).eb, (uh HA).ne⟩
   have hbm4 : BMut w4 bk (.slice la c.n lc) (.slice (some ⟨R1, 0, none⟩) c.m k1) R2c E1 Sc (onW c k v) := by rw [← uh HE1r]; exact hA4.bm
   obtain ⟨_, _, e5, _, _, _, hc5, hf5⟩ := hbm4.ints.form (by show 0 < c.m; omega)
   cases e5
   have d5 := hc5 q (by show q < c.m; exact hqm)
   have f5 := hf5 q
   obtain ⟨cR1, hbR1⟩ := hbm4.ints.block (b := R1) rfl
   have hp := BMut.putI (d := onW c k v) hbm4 (i := q) (by show q < c.m; exact hqm) ((c.n : Int) + 1)
   rw [show entP E1 ((c.n : Int) + 1) = some ⟨E1 c.n, 0, none⟩ by unfold entP; rw [if_pos (by omega), show ((c.n : Int) + 1 - 1).toNat = c.n by omega]] at hp
   have HA5 : Hid (AEnd (w4.setCell ⟨R1, q, none⟩ (.pointer (some ⟨E1 c.n, 0, none⟩))).drew bk (.slice la c.n lc) (.slice (some ⟨R1, 0, none⟩) c.m k1) R2c E1 Sc { onW c k v with I := upd (onW c k v).I q ((c.n : Int) + 1) })   := uy ⟨hp.below (Below.refl _ _).drew, hA4.e.keep (by simp) (Deep.blk_setCell_other _ _ _ _ (by show E1 c.n ≠ R1; exact fun e => type_apart (e ▸ hA4.e.ob) hbR1 (by decide))), hA4.eb, hA4.ne⟩
   have HB4 := uy (((uh HB3).trans (hw4.mono (by omega))).setCell (p := ⟨R1, q, none⟩) (by show bk ≤ R1; omega) (.pointer (some ⟨E1 c.n, 0, none⟩))).drew
   have hS0 : HeldT bk w.heap.size R1 c.m k1 q w4.drew := ⟨c14, q14⟩
   have hne : R1 ≠ w.heap.size := fun e => by
    have h1 := (uh HVK3).keep hw4.size (hw4.block _ l3)
    have h2 := h1.k0
    rw [← e] at h2
    rw [hc5 0 (by show 0 < c.m; omega)] at h2
    cases h2
   clear hbm4 hA4 hp hbR1 hw4 HA hc5 hf5 q0 q1 q2 q3 q4 c1
   go_wp2_with fail
   refine wpN_held (HeldT bk w.heap.size R1 c.m k1 q) (by kernel_rfl) ?_
   change wpAnyH _ _ _ _ _ _ _ _ (World.drew _)
   refine tk 0 (v := ?_) rfl (by kernel_rfl) (by rfl) ?_ (by assumption) ?_
   rotate_left
   ·intro w' ⟨s0, s1⟩; go_simp; try with_reducible rfl
   simp only [Act.put, sA, sB, sC]
   refine tk 1 (v := ?_) rfl (by kernel_rfl) (by rfl) ?_ (by assumption) ?_
   rotate_left
   ·intro w' ⟨s0, s1⟩; go_simp; try with_reducible rfl
   simp only [Act.put, sA, sB, sC]
   refine tk 2 (v := ?_) rfl (by kernel_rfl) (by rfl) ?_ (by assumption) ?_
   rotate_left
   ·intro w' ⟨s0, s1⟩; go_simp; try with_reducible rfl
   simp only [Act.put, sA, sB, sC]
   refine tk 3 (v := ?_) rfl (by kernel_rfl) (by rfl) ?_ (by assumption) ?_
   rotate_left
   ·intro w' ⟨s0, s1⟩; go_simp; try with_reducible rfl
   simp only [Act.put, sA, sB, sC]
   refine tk 4 (v := ?_) rfl (by kernel_rfl) (by rfl) ?_ (by assumption) ?_
   rotate_left
   ·intro w' ⟨s0, s1⟩; go_simp; try with_reducible rfl
   simp only [Act.put, sA, sB, sC]
   refine tk 5 (v := ?_) rfl (by kernel_rfl) (by rfl) ?_ (by assumption) ?_
   rotate_left
   ·intro w' ⟨s0, s1⟩; go_simp; try with_reducible rfl
   simp only [Act.put, sA, sB, sC]
   refine tk 6 (v := ?_) rfl (by kernel_rfl) (by rfl) ?_ (by assumption) ?_
   rotate_left
   ·intro w' ⟨s0, s1⟩; go_simp; try with_reducible rfl
   simp only [Act.put, sA, sB, sC]
   refine tk 7 (v := ?_) rfl (by kernel_rfl) (by rfl) ?_ (by assumption) ?_
   rotate_left
   ·intro w' ⟨s0, s1⟩; go_simp; try with_reducible rfl
   simp only [Act.put, sA, sB, sC]
   refine tk 8 (v := ?_) rfl (by kernel_rfl) (by rfl) ?_ (by assumption) ?_
   rotate_left
   ·intro w' ⟨s0, s1⟩; go_simp; try with_reducible rfl
   simp only [Act.put, sA, sB, sC]
   refine wpAnyH_ready (rs := [9]) (by kernel_rfl) (by simp) ?_
   refine AllReadyH.cons rfl (fun K hK => ?_) AllReadyH.nil
   go_simp
   refine hK.out _ _ ⟨(cell_set_block (by omega)).trans hS0.1, (cell_set_block hne).trans hS0.2⟩ (fun _ => ?_)
   clear hK K hS0
   refine wpAnyH_done (by kernel_rfl) ?_ _
   refine QN.normal ?_
   generalize hW5 : (w4.setCell ⟨R1, q, none⟩ (.pointer (some ⟨E1 c.n, 0, none⟩))).drew = W5 at *
   have HA6 : Hid (AEnd (W5) bk (.slice la c.n lc) (.slice (some ⟨R1, 0, none⟩) c.m k1) R2c E1 Sc { onW c k v with I := upd (onW c k v).I q ((c.n : Int) + 1) }) := uy (uh HA5)
   have HB6 : Hid (Below bk w (W5)) := uy (uh HB4)
   have HLOG : Hid (Rw (W5) (bk + 1) tEnt (.slice la c.n lc) c.n (fun i => some ⟨E1 i, 0, none⟩)) := uy ((uh HA6).bm.log)
   have c0x : (W5).cell? ⟨bk, 0, none⟩ = some (.slice la c.n lc) := (uh HA6).bm.c0
   have lbx : bk < (W5).heap.size := (uh HA6).bm.lt
   have HFIN : Hid (∀ (o : Obj) (g3 cp3 : Nat) (w3 : World), w3.ownsRow (bk + 1) tEnt 1 (.slice (some ⟨g3, 0, none⟩) (c.n + 1) cp3) (c.n + 1) (ptL (fun i => some ⟨E1 i, 0, none⟩) c.n ++ [.pointer (some ⟨E1 c.n, 0, none⟩)]) → ((W5).alloc o).grownBy w3 (Value.slice la c.n lc).ownBlock → ((Value.slice la c.n lc).ownBlock = some g3 ∨ g3 = (W5).heap.size + 1) →
     w3.cell? ⟨bk, 0, none⟩ = some (.slice la c.n lc) ∧ w3.frozen? ⟨bk, 0, none⟩ = false ∧ bk < w3.heap.size ∧ (∃ r1' R2' S', BMut (w3.setCell ⟨bk, 0, none⟩ (.slice (some ⟨g3, 0, none⟩) (c.n + 1) cp3)) bk (.slice (some ⟨g3, 0, none⟩) (c.n + 1) cp3) r1' R2' E1 S' (comeC hf c k v)) ∧ Below bk w (w3.setCell ⟨bk, 0, none⟩ (.slice (some ⟨g3, 0, none⟩) (c.n + 1) cp3))) := uy (fun o g3 cp3 w3 h1 h2 h3 => by
    obtain ⟨p1, p2, p3, p4, p5⟩ := (uh HA6).fin h1 h2 h3
    exact ⟨p1, p2, p3, ⟨_, _, _, by rw [← uh HRES]; exact p4⟩, (uh HB6).trans p5⟩)
   clear HA6 HB6
   go_wp2_with (at_builtin; refine wpList_append_lies _ rfl _ _ 110 rfl (bk + 1) tEnt i0 (.pointer none) 1 8 Tryz.underlying110 hi0 hz0 hz1 hz2 rfl (by decide) (.slice la c.n lc) c.n (ptL (fun i => some ⟨E1 i, 0, none⟩) c.n) rfl (World.ownsRow.alloc (uh HLOG) _) ⟨(W5).heap.size, 0, none⟩ 1 1 [.pointer (some ⟨E1 c.n, 0, none⟩)] rfl rfl (World.news_of_block (Deep.blk_alloc_new _ _)) (by simp [Value.oneCell']) (by decide) (by unfold maxLen; omega) (by omega) (by simp; omega) ((W5).heap.size + 1) (by simp) ?_; intro g3 cp3 w3 hown3 hgr3 hloc3 hlt3; obtain ⟨x3, f3, lx3, hN3, hB3⟩ := uh HFIN _ g3 cp3 w3 hown3 hgr3 hloc3; have HN3 := uy hN3; have HBB := uy hB3; clear hown3 hgr3 hloc3 hN3 hB3)
   go_end0
   obtain ⟨r1', R2', S', hN⟩ := uh HN3
   exact ⟨⟨⟨_, rfl⟩, _, r1', R2', E1, S', hN⟩, uh HBB⟩
  ·have HSM := uy (tells_no hs)
   have HNS := uy hs
   have hci' := comeC_inv KL hci hcn hk hkb hv hv0 hcno hclive hcturn
   have HMn := uy hci'.2.2.1
   have HML := uy hci'.2.2.2.1
   clear hs hci'
   go_wp2_with fail
   refine wp_region_quiet (C := fun w' => Below W3.heap.size W3 w') (by kernel_rfl) (by kernel_rfl) ((Below.refl _ _).drew) ?_
   show wpQuiet _ _ _ _ [_, _, _, _, _, _, _] _
   refine wpQuiet_step (fun K hK => ?_)
   go_simp
   apply Exists.intro
   refine And.intro (fun w' hw' => ?_) (hK _ ?_)
   ·obtain ⟨hc', hf'⟩ := bcell hw'
    go_simp
    first | rfl | exact ⟨rfl, rfl⟩ | exact ⟨rfl⟩
   clear hK K
   iterate 3 (refine wpQuiet_step (fun K hK => ?_); go_simp; refine ⟨_, fun w' hw' => rfl, hK _ ?_⟩; clear hK K)
   refine wpQuiet_step (fun K hK => ?_)
   go_simp
   apply Exists.intro
   refine And.intro (fun w' hw' => ?_) (hK _ ?_)
   ·obtain ⟨hc', hf'⟩ := bcell hw'
    go_simp
    first | rfl | exact ⟨rfl, rfl⟩ | exact ⟨rfl⟩
   clear hK K
   refine wpQuiet_step (fun K hK => ?_)
   go_simp
   refine ⟨_, fun w' hw' => rfl, hK _ ?_⟩
   clear hK K
   refine wpQuiet_step (fun K hK => ?_)
   go_simp
   apply Exists.intro
   refine And.intro (fun w' hw' => ?_) (hK _ ?_)
   ·refine (((uh HSM) ▸ hasPlace_any k c.m _ (by omega))).mono ?_
    rintro e w'' ⟨rfl, hb⟩
    exact ⟨rfl, hw'.trans (hb.mono hw'.size)⟩
   clear hK K
   refine wpQuiet_nil ?_
   intro w4 hw4
   have l4 := Nat.lt_of_lt_of_le l3 hw4.size
   have lb4 := Nat.lt_of_lt_of_le lb3 hw4.size
   have vk4 := (uh HVK3).keep hw4.size (hw4.block _ l3)
   have q04 := vk4.k0
   have q14 := vk4.k1
   have q24 := vk4.k2
   have q34 := vk4.k3
   have q44 := vk4.k4
   have hA4 : AEnd w4 bk (.slice la c.n lc) r1 R2c E1 Sc (onW c k v) := ⟨(uh HA).bm.below hw4, (uh HA).e.keep hw4.size (hw4.block _ (uh HA).e.lt), (uh HA).eb, (uh HA).ne⟩
   have HB4 := uy ((uh HB3).trans (hw4.mono (by omega)))
   have HSm : Hid (Small (onW c k v)) := uy ⟨hcn', by show c.m ≤ _; omega, by show c.x ≤ _; omega⟩
   have HNXI : Hid (∀ w', Below w4.heap.size w4 w' → Calls Tryz.prog 103 #[.pointer (some ⟨bk, 0, none⟩)] w' fun e w'' => e = .returned (V 2 ((c.m : Int) + 1) 0 ⟨#[]⟩ 0) ∧ Below w'.heap.size w' w'') := uy (fun w' hw' => by
    obtain ⟨R0', R1', hB'⟩ := (hA4.bm.below hw').book
    exact nextInt_any bk R0' R1' R2c E1 Sc (onW c k v) w' hB' (uh HSm))
   have HA4 := uy hA4
   clear hw4 HA vk4 hA4 q0 q1 q2 q3 q4 c1
   by_cases hnx : k.kind = 2 ∧ k.num = (c.m : Int) + 1
   ·have HNX := uy hnx
    have HF := uy (int_key hkb hnx.1)
    clear hnx
    go_wp2_with fail
    refine wp_region_quiet (C := fun w' => Below w4.heap.size w4 w') (by kernel_rfl) (by kernel_rfl) ((Below.refl _ _).drew) ?_
    show wpQuiet _ _ _ _ [_, _, _, _] _
    refine wpQuiet_step (fun K hK => ?_)
    go_simp
    apply Exists.intro
    refine And.intro (fun w' hw' => ?_) (hK _ ?_)
    ·obtain ⟨hc', hf'⟩ := bcell hw'
     go_simp
     first | rfl | exact ⟨rfl, rfl⟩ | exact ⟨rfl⟩
    clear hK K
    refine wpQuiet_step (fun K hK => ?_)
    go_simp
    refine ⟨_, fun w' hw' => rfl, hK _ ?_⟩
    clear hK K
    refine wpQuiet_step (fun K hK => ?_)
    go_simp
    apply Exists.intro
    refine And.intro (fun w' hw' => ?_) (hK _ ?_)
    ·refine ((uh HNXI _ hw')).mono ?_
     rintro e w'' ⟨rfl, hb⟩
     exact ⟨rfl, hw'.trans (hb.mono hw'.size)⟩
    clear hK K
    refine wpQuiet_step (fun K hK => ?_)
    go_simp
    refine ⟨.bool true, fun w' hw' => ?_, hK _ ?_⟩
    ·obtain ⟨x1, x2⟩ := uh HNX
     obtain ⟨x3, x4, x5⟩ := uh HF
     have x3' : FloatKind.f64.format.order k.flt 0 = some Ordering.eq := by simpa using x3
     have x4' : k.str.toList = [] := List.isEmpty_iff.1 x4
     simp only [x1, x2, x5, x3', x4', if_true]
     exact ⟨trivial, trivial⟩
    clear hK K
    refine wpQuiet_nil ?_
    intro w5 hw5
    have hA5 : AEnd w5 bk (.slice la c.n lc) r1 R2c E1 Sc (onW c k v) := ⟨(uh HA4).bm.below hw5, (uh HA4).e.keep hw5.size (hw5.block _ (uh HA4).e.lt), (uh HA4).eb, (uh HA4).ne⟩
    have HB5 := uy ((uh HB4).trans (hw5.mono (by omega)))
    have HCALL : Hid (Calls Tryz.prog 125 #[.pointer (some ⟨bk, 0, none⟩), .pointer (some ⟨E1 c.n, 0, none⟩)] w5 fun e w' => (∃ u, e = .returned u) ∧ (∃ r1' S', AEnd w' bk (.slice la c.n lc) r1' R2c E1 S' { comeC hf c k v with n := c.n }) ∧ Below bk w w') := uy (by
     obtain ⟨x1, x2⟩ := uh HNX
     have hT5 : T w5 := hTb _ _ (uh HT) (uh HB5)
     have hLn : ((onW c k v).L (onW c k v).n) = ⟨k, v, c.turns + 1⟩ := onW_L c k v
     have hcome : comeC hf c k v = moveD hf (c.x + 1) (addNext c k v) := by unfold comeC; rw [if_neg (uh HNS), if_pos ⟨x1, x2⟩]
     obtain ⟨cR1, hbR1⟩ := hA5.bm.ints.block (b := R1) (by rw [uh HE1r]; rfl)
     obtain ⟨cR2, hbR2⟩ := hA5.bm.slots.block (b := R2c) rfl
     have hae := hA5.e
     refine (addNextInt_any T hTl hf K KL hHs bk hTb (.slice la c.n lc) r1 R2c E1 Sc (onW c k v) w5 hT5 hA5.bm (uh HSm) hcm (by rw [hLn]; exact x1) (by rw [hLn]; exact x2) (addNext_inv KL hci hk hkb hv hv0 hcno x1 x2 hclive hcturn)).mono ?_
     rintro e w' ⟨⟨hu, r1', S', hN⟩, hkx⟩
     have hN : BMut w' bk (.slice la c.n lc) r1' R2c E1 S' { moveD hf (c.x + 1) (addNext c k v) with n := c.n } := hN
     rw [← hcome] at hN
     have hblk := hkx.blk (E1 c.n) hae.lt (by
      rintro (e | e | e)
      ·have := hA5.eb
       have h' : bk < E1 c.n := this
       omega
      ·rw [uh HE1r] at e
       have e' : R1 = E1 c.n := by simpa [Value.ownBlock] using e
       exact type_apart (e' ▸ hae.ob) hbR1 (by decide)
      ·exact type_apart (e ▸ hae.ob) hbR2 (by decide))
     refine ⟨hu, ⟨r1', S', hN, ?_, hA5.eb, hA5.ne⟩, (uh HB5).trans hkx.bel⟩
     have h1 : (comeC hf c k v).L c.n = (onW c k v).L c.n := by rw [uh HML]; rfl
     show ECell w' (E1 c.n) ((comeC hf c k v).L c.n) c.n
     rw [h1]
     exact hae.keep hkx.bel.size hblk)
    clear hA5 HB5 hw5 HA4 HB4 HNXI q04 q14 q24 q34 q44
    go_wp2_with fail
    refine (uh HCALL).mono ?_
    rintro e w6 ⟨⟨uu6, rfl⟩, ⟨r1x, Sx, hA6x⟩, hB6x⟩
    have HRES : Hid ({ { comeC hf c k v with n := c.n } with n := c.n + 1 } = comeC hf c k v) := uy (by
     have h1 := uh HMn
     generalize comeC hf c k v = M at h1
     cases M
     simp only at h1
     subst h1
     rfl)
    have HA6x := uy hA6x
    have HB6x := uy hB6x
    clear hA6x hB6x HCALL
    have HA6 : Hid (AEnd (w6) bk (.slice la c.n lc) r1x R2c E1 Sx { comeC hf c k v with n := c.n }) := uy (uh HA6x)
    have HB6 : Hid (Below bk w (w6)) := uy (uh HB6x)
    have HLOG : Hid (Rw (w6) (bk + 1) tEnt (.slice la c.n lc) c.n (fun i => some ⟨E1 i, 0, none⟩)) := uy ((uh HA6).bm.log)
    have c0x : (w6).cell? ⟨bk, 0, none⟩ = some (.slice la c.n lc) := (uh HA6).bm.c0
    have lbx : bk < (w6).heap.size := (uh HA6).bm.lt
    have HFIN : Hid (∀ (o : Obj) (g3 cp3 : Nat) (w3 : World), w3.ownsRow (bk + 1) tEnt 1 (.slice (some ⟨g3, 0, none⟩) (c.n + 1) cp3) (c.n + 1) (ptL (fun i => some ⟨E1 i, 0, none⟩) c.n ++ [.pointer (some ⟨E1 c.n, 0, none⟩)]) → ((w6).alloc o).grownBy w3 (Value.slice la c.n lc).ownBlock → ((Value.slice la c.n lc).ownBlock = some g3 ∨ g3 = (w6).heap.size + 1) →
      w3.cell? ⟨bk, 0, none⟩ = some (.slice la c.n lc) ∧ w3.frozen? ⟨bk, 0, none⟩ = false ∧ bk < w3.heap.size ∧ (∃ r1' R2' S', BMut (w3.setCell ⟨bk, 0, none⟩ (.slice (some ⟨g3, 0, none⟩) (c.n + 1) cp3)) bk (.slice (some ⟨g3, 0, none⟩) (c.n + 1) cp3) r1' R2' E1 S' (comeC hf c k v)) ∧ Below bk w (w3.setCell ⟨bk, 0, none⟩ (.slice (some ⟨g3, 0, none⟩) (c.n + 1) cp3))) := uy (fun o g3 cp3 w3 h1 h2 h3 => by
     obtain ⟨p1, p2, p3, p4, p5⟩ := (uh HA6).fin h1 h2 h3
     exact ⟨p1, p2, p3, ⟨_, _, _, by rw [← uh HRES]; exact p4⟩, (uh HB6).trans p5⟩)
    clear HA6 HB6
    go_wp2_with (at_builtin; refine wpList_append_lies _ rfl _ _ 110 rfl (bk + 1) tEnt i0 (.pointer none) 1 8 Tryz.underlying110 hi0 hz0 hz1 hz2 rfl (by decide) (.slice la c.n lc) c.n (ptL (fun i => some ⟨E1 i, 0, none⟩) c.n) rfl (World.ownsRow.alloc (uh HLOG) _) ⟨(w6).heap.size, 0, none⟩ 1 1 [.pointer (some ⟨E1 c.n, 0, none⟩)] rfl rfl (World.news_of_block (Deep.blk_alloc_new _ _)) (by simp [Value.oneCell']) (by decide) (by unfold maxLen; omega) (by omega) (by simp; omega) ((w6).heap.size + 1) (by simp) ?_; intro g3 cp3 w3 hown3 hgr3 hloc3 hlt3; obtain ⟨x3, f3, lx3, hN3, hB3⟩ := uh HFIN _ g3 cp3 w3 hown3 hgr3 hloc3; have HN3 := uy hN3; have HBB := uy hB3; clear hown3 hgr3 hloc3 hN3 hB3)
    go_end0
    obtain ⟨r1', R2', S', hN⟩ := uh HN3
    exact ⟨⟨⟨_, rfl⟩, _, r1', R2', E1, S', hN⟩, uh HBB⟩
   ·have HNX := uy hnx
    clear hnx
    go_wp2_with fail
    refine wp_region_quiet (C := fun w' => Below w4.heap.size w4 w') (by kernel_rfl) (by kernel_rfl) ((Below.refl _ _).drew) ?_
    show wpQuiet _ _ _ _ [_, _, _, _] _
    refine wpQuiet_step (fun K hK => ?_)
    go_simp
    apply Exists.intro
    refine And.intro (fun w' hw' => ?_) (hK _ ?_)
    ·obtain ⟨hc', hf'⟩ := bcell hw'
     go_simp
     first | rfl | exact ⟨rfl, rfl⟩ | exact ⟨rfl⟩
    clear hK K
    refine wpQuiet_step (fun K hK => ?_)
    go_simp
    refine ⟨_, fun w' hw' => rfl, hK _ ?_⟩
    clear hK K
    refine wpQuiet_step (fun K hK => ?_)
    go_simp
    apply Exists.intro
    refine And.intro (fun w' hw' => ?_) (hK _ ?_)
    ·refine ((uh HNXI _ hw')).mono ?_
     rintro e w'' ⟨rfl, hb⟩
     exact ⟨rfl, hw'.trans (hb.mono hw'.size)⟩
    clear hK K
    refine wpQuiet_step (fun K hK => ?_)
    go_simp
    refine ⟨.bool false, fun w' hw' => ?_, hK _ ?_⟩
    ·have hno' := uh HNX
     by_cases x1 : k.kind = 2
     ·have x2 : ¬ k.num = (c.m : Int) + 1 := fun h => hno' ⟨x1, h⟩
      simp only [x1, x2, if_true, if_false]
      exact ⟨trivial, trivial⟩
     ·simp only [x1, if_false]
      exact ⟨trivial, trivial⟩
    clear hK K
    refine wpQuiet_nil ?_
    intro w5 hw5
    have hA5 : AEnd w5 bk (.slice la c.n lc) r1 R2c E1 Sc (onW c k v) := ⟨(uh HA4).bm.below hw5, (uh HA4).e.keep hw5.size (hw5.block _ (uh HA4).e.lt), (uh HA4).eb, (uh HA4).ne⟩
    have HB5 := uy ((uh HB4).trans (hw5.mono (by omega)))
    have HCALL : Hid (Calls Tryz.prog 126 #[.pointer (some ⟨bk, 0, none⟩), .pointer (some ⟨E1 c.n, 0, none⟩)] w5 fun e w' => (∃ u, e = .returned u) ∧ (∃ R2' S', AEnd w' bk (.slice la c.n lc) r1 R2' E1 S' { comeC hf c k v with n := c.n }) ∧ Below bk w w') := uy (by
     have hT5 : T w5 := hTb _ _ (uh HT) (uh HB5)
     have hLn : ((onW c k v).L (onW c k v).n) = ⟨k, v, c.turns + 1⟩ := onW_L c k v
     have hrn : (roomD hf c).n = c.n := (roomD_inv hci hclive).2.2.n
     have hcome : enterD hf (roomB hf (onW c k v)) ((onW c k v).L (onW c k v).n).key (onW c k v).n = { comeC hf c k v with n := c.n } := by
      have e1 : comeC hf c k v = enterD hf (addL (roomD hf c) k v) k c.n := by unfold comeC; rw [if_neg (uh HNS), if_neg (uh HNX)]
      rw [e1, hLn, room_onW hci.core, onW_addL hrn]
      exact enter_cut hf (addL (roomD hf c) k v) k c.n c.n
     obtain ⟨cR2, hbR2⟩ := hA5.bm.slots.block (b := R2c) rfl
     have hae := hA5.e
     refine (addToIndex_any T hTl hf bk hTb (.slice la c.n lc) r1 R2c E1 Sc (onW c k v) w5 hT5 hA5.bm (uh HSm) (fun i hi ht => by
      have hi' : i < c.n := hi
      rw [onW_old c k v hi'] at ht ⊢
      exact hHs _ (hci.keys i hi' ht)) (by rw [hld_onW]; exact livN_hld hci.core hclive) hae hA5.eb (by rw [hLn]; exact hHs k hk) (fun j hj => by
      rcases hci.idx.range j hj with e | e | e
      ·exact .inl e
      ·exact .inr (.inl e)
      ·exact .inr (.inr e.1)) hci.used).mono ?_
     rintro e w' ⟨⟨hu, R2', S', hN⟩, hkx⟩
     rw [hcome] at hN
     have hblk := hkx.blk (E1 c.n) hae.lt (by
      rintro (e | e)
      ·have h' : bk < E1 c.n := hA5.eb
       omega
      ·exact type_apart (e ▸ hae.ob) hbR2 (by decide))
     refine ⟨hu, ⟨R2', S', hN, ?_, hA5.eb, hA5.ne⟩, (uh HB5).trans hkx.bel⟩
     have h1 : (comeC hf c k v).L c.n = (onW c k v).L c.n := by rw [uh HML]; rfl
     show ECell w' (E1 c.n) ((comeC hf c k v).L c.n) c.n
     rw [h1]
     exact hae.keep hkx.bel.size hblk)
    clear hA5 HB5 hw5 HA4 HB4 HNXI q04 q14 q24 q34 q44
    go_wp2_with fail
    refine (uh HCALL).mono ?_
    rintro e w6 ⟨⟨uu6, rfl⟩, ⟨R2x, Sx, hA6x⟩, hB6x⟩
    have HRES : Hid ({ { comeC hf c k v with n := c.n } with n := c.n + 1 } = comeC hf c k v) := uy (by
     have h1 := uh HMn
     generalize comeC hf c k v = M at h1
     cases M
     simp only at h1
     subst h1
     rfl)
    have HA6x := uy hA6x
    have HB6x := uy hB6x
    clear hA6x hB6x HCALL
    have HA6 : Hid (AEnd (w6) bk (.slice la c.n lc) r1 R2x E1 Sx { comeC hf c k v with n := c.n }) := uy (uh HA6x)
    have HB6 : Hid (Below bk w (w6)) := uy (uh HB6x)
    have HLOG : Hid (Rw (w6) (bk + 1) tEnt (.slice la c.n lc) c.n (fun i => some ⟨E1 i, 0, none⟩)) := uy ((uh HA6).bm.log)
    have c0x : (w6).cell? ⟨bk, 0, none⟩ = some (.slice la c.n lc) := (uh HA6).bm.c0
    have lbx : bk < (w6).heap.size := (uh HA6).bm.lt
    have HFIN : Hid (∀ (o : Obj) (g3 cp3 : Nat) (w3 : World), w3.ownsRow (bk + 1) tEnt 1 (.slice (some ⟨g3, 0, none⟩) (c.n + 1) cp3) (c.n + 1) (ptL (fun i => some ⟨E1 i, 0, none⟩) c.n ++ [.pointer (some ⟨E1 c.n, 0, none⟩)]) → ((w6).alloc o).grownBy w3 (Value.slice la c.n lc).ownBlock → ((Value.slice la c.n lc).ownBlock = some g3 ∨ g3 = (w6).heap.size + 1) →
      w3.cell? ⟨bk, 0, none⟩ = some (.slice la c.n lc) ∧ w3.frozen? ⟨bk, 0, none⟩ = false ∧ bk < w3.heap.size ∧ (∃ r1' R2' S', BMut (w3.setCell ⟨bk, 0, none⟩ (.slice (some ⟨g3, 0, none⟩) (c.n + 1) cp3)) bk (.slice (some ⟨g3, 0, none⟩) (c.n + 1) cp3) r1' R2' E1 S' (comeC hf c k v)) ∧ Below bk w (w3.setCell ⟨bk, 0, none⟩ (.slice (some ⟨g3, 0, none⟩) (c.n + 1) cp3))) := uy (fun o g3 cp3 w3 h1 h2 h3 => by
     obtain ⟨p1, p2, p3, p4, p5⟩ := (uh HA6).fin h1 h2 h3
     exact ⟨p1, p2, p3, ⟨_, _, _, by rw [← uh HRES]; exact p4⟩, (uh HB6).trans p5⟩)
    clear HA6 HB6
    go_wp2_with (at_builtin; refine wpList_append_lies _ rfl _ _ 110 rfl (bk + 1) tEnt i0 (.pointer none) 1 8 Tryz.underlying110 hi0 hz0 hz1 hz2 rfl (by decide) (.slice la c.n lc) c.n (ptL (fun i => some ⟨E1 i, 0, none⟩) c.n) rfl (World.ownsRow.alloc (uh HLOG) _) ⟨(w6).heap.size, 0, none⟩ 1 1 [.pointer (some ⟨E1 c.n, 0, none⟩)] rfl rfl (World.news_of_block (Deep.blk_alloc_new _ _)) (by simp [Value.oneCell']) (by decide) (by unfold maxLen; omega) (by omega) (by simp; omega) ((w6).heap.size + 1) (by simp) ?_; intro g3 cp3 w3 hown3 hgr3 hloc3 hlt3; obtain ⟨x3, f3, lx3, hN3, hB3⟩ := uh HFIN _ g3 cp3 w3 hown3 hgr3 hloc3; have HN3 := uy hN3; have HBB := uy hB3; clear hown3 hgr3 hloc3 hN3 hB3)
    go_end0
    obtain ⟨r1', R2', S', hN⟩ := uh HN3
    exact ⟨⟨⟨_, rfl⟩, _, r1', R2', E1, S', hN⟩, uh HBB⟩
 ·have HLT := uy (tells_no hlo)
  have hcd := uh HC hlo
  subst hcd
  clear hlo HC HTIGHT
  go_enter Tryz.func96, Tryz.ntmps96
  go_wp2_with fail
  refine (uh HLO _ (uh HB0)).mono ?_
  rintro e W ⟨rfl, hb1⟩
  rw [uh HLT]
  have hMc := (uh HM).below ((uh HB0).trans (hb1.mono (uh HB0).size))
  have vk : VBox W w.heap.size k := (uh HV0).1.keep hb1.size (hb1.block _ (uh HV0).1.lt)
  have vv : VBox W (w.heap.size + 1) v := (uh HV0).2.keep hb1.size (hb1.block _ (uh HV0).2.lt)
  have hBW : Below bk w W := ((uh HB0).trans (hb1.mono (uh HB0).size)).mono (by omega)
  clear hb1 HV0 HB0 HLO
  obtain ⟨la, lc, e0⟩ := hMc.log.slice
  subst e0
  have c6 := hMc.c6
  have c5 := hMc.c5
  have f5 := hMc.fz 5
  have f6 := hMc.fz 6
  have hlW := hMc.lt
  have tp := hci.turns.1
  have cp0 : 0 ≤ c.live := by have := hci.log.cnt; omega
  have hw6 : IntKind.i64.wrap (c.turns + 1) = c.turns + 1 := by rw [IntKind.wrap_i64]; omega
  have hw5 : IntKind.i64.wrap (c.live + 1) = c.live + 1 := by rw [IntKind.wrap_i64]; omega
  have HM2 := uy ((hMc.setTurns (c.turns + 1)).setLive (c.live + 1))
  have HVK := uy vk
  have HVV := uy vv
  have HBW := uy hBW
  clear hMc vk vv hBW
  go_wp2_with fail
  generalize hW2 : (W.setCell ⟨bk, 6, none⟩ (.int .i64 (c.turns + 1))).setCell ⟨bk, 5, none⟩ (.int .i64 (c.live + 1)) = W2 at *
  have vk2 : VBox W2 w.heap.size k := (uh HVK).keep (by rw [← hW2]; simp) (by rw [← hW2]; exact (Deep.blk_setCell_other _ _ _ _ (by show w.heap.size ≠ bk; omega)).trans (Deep.blk_setCell_other _ _ _ _ (by show w.heap.size ≠ bk; omega)))
  have vv2 : VBox W2 (w.heap.size + 1) v := (uh HVV).keep (by rw [← hW2]; simp) (by rw [← hW2]; exact (Deep.blk_setCell_other _ _ _ _ (by show w.heap.size + 1 ≠ bk; omega)).trans (Deep.blk_setCell_other _ _ _ _ (by show w.heap.size + 1 ≠ bk; omega)))
  have HB2 : Hid (Below bk w W2) := uy (by rw [← hW2]; exact ((uh HBW).setCell (by exact Nat.le_refl _) _).setCell (by exact Nat.le_refl _) _)
  have hM2 := uh HM2
  have hl2 : bk < W2.heap.size := hM2.lt
  have c6' : W2.cell? ⟨bk, 6, none⟩ = some (.int .i64 (c.turns + 1)) := hM2.c6
  have c0' : W2.cell? ⟨bk, 0, none⟩ = some (.slice la c.n lc) := hM2.c0
  have lk2 := vk2.lt
  have lv2 := vv2.lt
  have hS0 : HeldN w.heap.size bk k v (c.turns + 1) la c.n lc W2.drew := ⟨vk2.k0, vk2.k1, vk2.k2, vk2.k3, vk2.k4, vv2.k0, vv2.k1, vv2.k2, vv2.k3, vv2.k4, c6', c0'⟩
  have HVK2 := uy vk2
  clear HVK HVV HBW hM2 vk2 vv2 c6 c5 f5 f6 c6' c0' hW2 hw5 hw6
  refine wpN_held (HeldN w.heap.size bk k v (c.turns + 1) la c.n lc) (by kernel_rfl) ?_
  change wpAnyH _ _ _ _ _ _ _ _ (World.drew _)
  refine tk 0 (v := ?_) rfl (by kernel_rfl) (by rfl) ?_ (by assumption) ?_
  rotate_left
  ·intro w' ⟨s0, s1, s2, s3, s4, s5, s6, s7, s8, s9, s10, s11⟩; go_simp; try with_reducible rfl
  simp only [Act.put, sA, sB, sC]
  refine tk 1 (v := ?_) rfl (by kernel_rfl) (by rfl) ?_ (by assumption) ?_
  rotate_left
  ·intro w' ⟨s0, s1, s2, s3, s4, s5, s6, s7, s8, s9, s10, s11⟩; go_simp; try with_reducible rfl
  simp only [Act.put, sA, sB, sC]
  refine tk 2 (v := ?_) rfl (by kernel_rfl) (by rfl) ?_ (by assumption) ?_
  rotate_left
  ·intro w' ⟨s0, s1, s2, s3, s4, s5, s6, s7, s8, s9, s10, s11⟩; go_simp; try with_reducible rfl
  simp only [Act.put, sA, sB, sC]
  refine tk 3 (v := ?_) rfl (by kernel_rfl) (by rfl) ?_ (by assumption) ?_
  rotate_left
  ·intro w' ⟨s0, s1, s2, s3, s4, s5, s6, s7, s8, s9, s10, s11⟩; go_simp; try with_reducible rfl
  simp only [Act.put, sA, sB, sC]
  refine tk 4 (v := ?_) rfl (by kernel_rfl) (by rfl) ?_ (by assumption) ?_
  rotate_left
  ·intro w' ⟨s0, s1, s2, s3, s4, s5, s6, s7, s8, s9, s10, s11⟩; go_simp; try with_reducible rfl
  simp only [Act.put, sA, sB, sC]
  refine tk 5 (v := ?_) rfl (by kernel_rfl) (by rfl) ?_ (by assumption) ?_
  rotate_left
  ·intro w' ⟨s0, s1, s2, s3, s4, s5, s6, s7, s8, s9, s10, s11⟩; go_simp; try with_reducible rfl
  simp only [Act.put, sA, sB, sC]
  refine tk 6 (v := ?_) rfl (by kernel_rfl) (by rfl) ?_ (by assumption) ?_
  rotate_left
  ·intro w' ⟨s0, s1, s2, s3, s4, s5, s6, s7, s8, s9, s10, s11⟩; go_simp; try with_reducible rfl
  simp only [Act.put, sA, sB, sC]
  refine tk 7 (v := ?_) rfl (by kernel_rfl) (by rfl) ?_ (by assumption) ?_
  rotate_left
  ·intro w' ⟨s0, s1, s2, s3, s4, s5, s6, s7, s8, s9, s10, s11⟩; go_simp; try with_reducible rfl
  simp only [Act.put, sA, sB, sC]
  refine tk 8 (v := ?_) rfl (by kernel_rfl) (by rfl) ?_ (by assumption) ?_
  rotate_left
  ·intro w' ⟨s0, s1, s2, s3, s4, s5, s6, s7, s8, s9, s10, s11⟩; go_simp; try with_reducible rfl
  simp only [Act.put, sA, sB, sC]
  refine tk 9 (v := ?_) rfl (by kernel_rfl) (by rfl) ?_ (by assumption) ?_
  rotate_left
  ·intro w' ⟨s0, s1, s2, s3, s4, s5, s6, s7, s8, s9, s10, s11⟩; go_simp; try with_reducible rfl
  simp only [Act.put, sA, sB, sC]
  refine tk 10 (v := ?_) rfl (by kernel_rfl) (by rfl) ?_ (by assumption) ?_
  rotate_left
  ·intro w' ⟨s0, s1, s2, s3, s4, s5, s6, s7, s8, s9, s10, s11⟩; go_simp; try with_reducible rfl
  simp only [Act.put, sA, sB, sC]
  refine tk 11 (v := ?_) rfl (by kernel_rfl) (by rfl) ?_ (by assumption) ?_
  rotate_left
  ·intro w' ⟨s0, s1, s2, s3, s4, s5, s6, s7, s8, s9, s10, s11⟩; go_simp; try with_reducible rfl
  simp only [Act.put, sA, sB, sC]
  refine tk 12 (v := ?_) rfl (by kernel_rfl) (by rfl) ?_ (by assumption) ?_
  rotate_left
  ·intro w' ⟨s0, s1, s2, s3, s4, s5, s6, s7, s8, s9, s10, s11⟩; go_simp; try with_reducible rfl
  simp only [Act.put, sA, sB, sC]
  refine wpAnyH_ready (rs := [13]) (by kernel_rfl) (by simp) ?_
  refine AllReadyH.cons rfl (fun K hK => ?_) AllReadyH.nil
  go_simp
  refine hK.out _ _ (hS0.below ((Below.refl _ _).alloc (Nat.le_refl _) _) lv2 hl2) (fun hS1 => ?_)
  clear hK K
  refine tk 14 (v := ?_) rfl (by kernel_rfl) (by rfl) ?_ (by assumption) ?_
  rotate_left
  ·intro w' ⟨s0, s1, s2, s3, s4, s5, s6, s7, s8, s9, s10, s11⟩; go_simp; try with_reducible rfl
  simp only [Act.put, sA, sB, sC]
  try simp only [List.getElem_toArray]
  try simp only [List.getElem_cons_succ]
  try simp only [List.getElem_cons_zero]
  try simp only [List.setIfInBounds_toArray]
  try simp only [List.set_cons_succ]
  try simp only [List.set_cons_zero]
  refine wpAnyH_done (by kernel_rfl) ?_ _
  refine QN.normal ?_
  clear hS0 hS1
  obtain ⟨W3, hW3⟩ : ∃ W3, W3 = (W2.alloc (.cells (entA ⟨k, v, c.turns + 1⟩ c.n) 92)).drew := ⟨_, rfl⟩
  try simp only [World.alloc_drew]
  rw [← hW3]
  have z3 : W3.heap.size = W2.heap.size + 1 := by rw [hW3]; simp
  have hb3 : Below W2.heap.size W2 W3 := by rw [hW3]; exact ((Below.refl _ _).alloc (Nat.le_refl _) _).drew
  have ob3 : W3.heap[W2.heap.size]? = some (.cells (entA ⟨k, v, c.turns + 1⟩ c.n) 92 (0, 0)) := by rw [hW3]; exact Deep.blk_alloc_new _ _
  have vk3 : VBox W3 w.heap.size k := (uh HVK2).keep hb3.size (hb3.block _ lk2)
  have HB3 := uy ((uh HB2).trans (hb3.mono (by omega)))
  obtain ⟨E1, hE1⟩ : ∃ E1, E1 = upd E c.n W2.heap.size := ⟨_, rfl⟩
  have hE1n : E1 c.n = W2.heap.size := by rw [hE1]; exact upd_same _ _ _
  have hA : AEnd W3 bk (.slice la c.n lc) r1 R2 E1 S (onW c k v) := by
   have hM3 := (uh HM2).below hb3
   refine ⟨hM3.of_same rfl rfl rfl rfl rfl rfl (fun _ _ => rfl) (fun _ _ => rfl) (fun i hi => upd_other _ _ (by have hi' : i < c.n := hi; omega)) (fun i hi => by rw [hE1]; exact upd_other _ _ (by have hi' : i < c.n := hi; omega)) hcI hcX, ?_, ?_, fun i hi => ?_⟩
   ·show ECell W3 (E1 c.n) ((onW c k v).L c.n) c.n
    rw [hE1n, onW_L]
    exact ECell.of_ob ob3
   ·show bk < E1 c.n
    omega
   ·have hi' : i < c.n := hi
    show E1 i ≠ E1 c.n
    rw [hE1n, hE1, upd_other _ _ (by omega)]
    have := ((uh HM2).ent i hi').lt
    omega
  have l3 := vk3.lt
  have lb3 := hA.bm.lt
  obtain ⟨R1, k1, e1⟩ := hA.bm.rf
  have e1 : r1 = .slice (some ⟨R1, 0, none⟩) c.m k1 := e1
  have c1 : W3.cell? ⟨bk, 1, none⟩ = some (.slice (some ⟨R1, 0, none⟩) c.m k1) := by rw [← e1]; exact hA.bm.c1
  have hR1 := (hA.bm.ints.lt R1 (by rw [e1]; rfl)).1
  have hR1l := (hA.bm.ints.lt R1 (by rw [e1]; rfl)).2
  have q0 := vk3.k0
  have q1 := vk3.k1
  have q2 := vk3.k2
  have q3 := vk3.k3
  have q4 := vk3.k4
  have HA := uy hA
  have HVK3 := uy vk3
  have HE1 := uy hE1n
  have HE1r := uy e1
  rw [← hE1n]
  clear hA vk3 hE1 hE1n e1 ob3 hb3 hW3 HM2 HB2 HVK2 z3
  by_cases hs : smallK c.m k
  ·have HSM := uy (tells_yes hs)
   obtain ⟨a1, a2, a3⟩ := hs
   obtain ⟨q, hq⟩ : ∃ q : Nat, k.num = (q : Int) + 1 := ⟨(k.num - 1).toNat, by omega⟩
   have hqm : q < c.m := by omega
   have HRES : Hid ({ onW c k v with I := upd (onW c k v).I q ((c.n : Int) + 1), n := c.n + 1 } = comeC hf c k v) := uy (by
    have e : comeC hf c k v = addSmall c k v := if_pos ⟨a1, a2, a3⟩
    rw [e]
    unfold addSmall
    rw [show (k.num - 1).toNat = q by omega]
    rfl)
   have hwq : IntKind.i64.wrap (q : Int) = q := by rw [IntKind.wrap_i64]; omega
   have HQ := uy hq
   clear a1 a2 a3 hq
   go_wp2_with fail
   refine wp_region_quiet (C := fun w' => Below W3.heap.size W3 w') (by kernel_rfl) (by kernel_rfl) ((Below.refl _ _).drew) ?_
   show wpQuiet _ _ _ _ [_, _, _, _, _, _, _] _
   refine wpQuiet_step (fun K hK => ?_)
   go_simp
   apply Exists.intro
   refine And.intro (fun w' hw' => ?_) (hK _ ?_)
   ·obtain ⟨hc', hf'⟩ := bcell hw'
    go_simp
    first | rfl | exact ⟨rfl, rfl⟩ | exact ⟨rfl⟩
   clear hK K
   iterate 3 (refine wpQuiet_step (fun K hK => ?_); go_simp; refine ⟨_, fun w' hw' => rfl, hK _ ?_⟩; clear hK K)
   refine wpQuiet_step (fun K hK => ?_)
   go_simp
   apply Exists.intro
   refine And.intro (fun w' hw' => ?_) (hK _ ?_)
   ·obtain ⟨hc', hf'⟩ := bcell hw'
    go_simp
    first | rfl | exact ⟨rfl, rfl⟩ | exact ⟨rfl⟩
   clear hK K
   refine wpQuiet_step (fun K hK => ?_)
   go_simp
   refine ⟨_, fun w' hw' => rfl, hK _ ?_⟩
   clear hK K
   refine wpQuiet_step (fun K hK => ?_)
   go_simp
   apply Exists.intro
   refine And.intro (fun w' hw' => ?_) (hK _ ?_)
   ·refine (((uh HSM) ▸ hasPlace_any k c.m _ (by omega))).mono ?_
    rintro e w'' ⟨rfl, hb⟩
    exact ⟨rfl, hw'.trans (hb.mono hw'.size)⟩
   clear hK K
   refine wpQuiet_nil ?_
   intro w4 hw4
   have l4 := Nat.lt_of_lt_of_le l3 hw4.size
   have lb4 := Nat.lt_of_lt_of_le lb3 hw4.size
   have c14 := (hw4.cell (p := ⟨bk, 1, none⟩) lb3).trans c1
   have q14 := (hw4.cell (p := ⟨w.heap.size, 1, none⟩) l3).trans q1
   rw [uh HQ] at q14
   have hR1l4 := Nat.lt_of_lt_of_le hR1l hw4.size
   have hA4 : AEnd w4 bk (.slice la c.n lc) r1 R2 E1 S (onW c k v) := ⟨(uh HA).bm.below hw4, (uh HA).e.keep hw4.size (hw4.block _ (uh HA).e.lt), (uh HA).eb, (uh HA).ne⟩
   have hbm4 : BMut w4 bk (.slice la c.n lc) (.slice (some ⟨R1, 0, none⟩) c.m k1) R2 E1 S (onW c k v) := by rw [← uh HE1r]; exact hA4.bm
   obtain ⟨_, _, e5, _, _, _, hc5, hf5⟩ := hbm4.ints.form (by show 0 < c.m; omega)
   cases e5
   have d5 := hc5 q (by show q < c.m; exact hqm)
   have f5 := hf5 q
   obtain ⟨cR1, hbR1⟩ := hbm4.ints.block (b := R1) rfl
   have hp := BMut.putI (d := onW c k v) hbm4 (i := q) (by show q < c.m; exact hqm) ((c.n : Int) + 1)
   rw [show entP E1 ((c.n : Int) + 1) = some ⟨E1 c.n, 0, none⟩ by unfold entP; rw [if_pos (by omega), show ((c.n : Int) + 1 - 1).toNat = c.n by omega]] at hp
   have HA5 : Hid (AEnd (w4.setCell ⟨R1, q, none⟩ (.pointer (some ⟨E1 c.n, 0, none⟩))).drew bk (.slice la c.n lc) (.slice (some ⟨R1, 0, none⟩) c.m k1) R2 E1 S { onW c k v with I := upd (onW c k v).I q ((c.n : Int) + 1) })   := uy ⟨hp.below (Below.refl _ _).drew, hA4.e.keep (by simp) (Deep.blk_setCell_other _ _ _ _ (by show E1 c.n ≠ R1; exact fun e => type_apart (e ▸ hA4.e.ob) hbR1 (by decide))), hA4.eb, hA4.ne⟩
   have HB4 := uy (((uh HB3).trans (hw4.mono (by omega))).setCell (p := ⟨R1, q, none⟩) (by show bk ≤ R1; omega) (.pointer (some ⟨E1 c.n, 0, none⟩))).drew
   have hS0 : HeldT bk w.heap.size R1 c.m k1 q w4.drew := ⟨c14, q14⟩
   have hne : R1 ≠ w.heap.size := fun e => by
    have h1 := (uh HVK3).keep hw4.size (hw4.block _ l3)
    have h2 := h1.k0
    rw [← e] at h2
    rw [hc5 0 (by show 0 < c.m; omega)] at h2
    cases h2
   clear hbm4 hA4 hp hbR1 hw4 HA hc5 hf5 q0 q1 q2 q3 q4 c1
   go_wp2_with fail
   refine wpN_held (HeldT bk w.heap.size R1 c.m k1 q) (by kernel_rfl) ?_
   change wpAnyH _ _ _ _ _ _ _ _ (World.drew _)
   refine tk 0 (v := ?_) rfl (by kernel_rfl) (by rfl) ?_ (by assumption) ?_
   rotate_left
   ·intro w' ⟨s0, s1⟩; go_simp; try with_reducible rfl
   simp only [Act.put, sA, sB, sC]
   refine tk 1 (v := ?_) rfl (by kernel_rfl) (by rfl) ?_ (by assumption) ?_
   rotate_left
   ·intro w' ⟨s0, s1⟩; go_simp; try with_reducible rfl
   simp only [Act.put, sA, sB, sC]
   refine tk 2 (v := ?_) rfl (by kernel_rfl) (by rfl) ?_ (by assumption) ?_
   rotate_left
   ·intro w' ⟨s0, s1⟩; go_simp; try with_reducible rfl
   simp only [Act.put, sA, sB, sC]
   refine tk 3 (v := ?_) rfl (by kernel_rfl) (by rfl) ?_ (by assumption) ?_
   rotate_left
   ·intro w' ⟨s0, s1⟩; go_simp; try with_reducible rfl
   simp only [Act.put, sA, sB, sC]
   refine tk 4 (v := ?_) rfl (by kernel_rfl) (by rfl) ?_ (by assumption) ?_
   rotate_left
   ·intro w' ⟨s0, s1⟩; go_simp; try with_reducible rfl
   simp only [Act.put, sA, sB, sC]
   refine tk 5 (v := ?_) rfl (by kernel_rfl) (by rfl) ?_ (by assumption) ?_
   rotate_left
   ·intro w' ⟨s0, s1⟩; go_simp; try with_reducible rfl
   simp only [Act.put, sA, sB, sC]
   refine tk 6 (v := ?_) rfl (by kernel_rfl) (by rfl) ?_ (by assumption) ?_
   rotate_left
   ·intro w' ⟨s0, s1⟩; go_simp; try with_reducible rfl
   simp only [Act.put, sA, sB, sC]
   refine tk 7 (v := ?_) rfl (by kernel_rfl) (by rfl) ?_ (by assumption) ?_
   rotate_left
   ·intro w' ⟨s0, s1⟩; go_simp; try with_reducible rfl
   simp only [Act.put, sA, sB, sC]
   refine tk 8 (v := ?_) rfl (by kernel_rfl) (by rfl) ?_ (by assumption) ?_
   rotate_left
   ·intro w' ⟨s0, s1⟩; go_simp; try with_reducible rfl
   simp only [Act.put, sA, sB, sC]
   refine wpAnyH_ready (rs := [9]) (by kernel_rfl) (by simp) ?_
   refine AllReadyH.cons rfl (fun K hK => ?_) AllReadyH.nil
   go_simp
   refine hK.out _ _ ⟨(cell_set_block (by omega)).trans hS0.1, (cell_set_block hne).trans hS0.2⟩ (fun _ => ?_)
   clear hK K hS0
   refine wpAnyH_done (by kernel_rfl) ?_ _
   refine QN.normal ?_
   generalize hW5 : (w4.setCell ⟨R1, q, none⟩ (.pointer (some ⟨E1 c.n, 0, none⟩))).drew = W5 at *
   have HA6 : Hid (AEnd (W5) bk (.slice la c.n lc) (.slice (some ⟨R1, 0, none⟩) c.m k1) R2 E1 S { onW c k v with I := upd (onW c k v).I q ((c.n : Int) + 1) }) := uy (uh HA5)
   have HB6 : Hid (Below bk w (W5)) := uy (uh HB4)
   have HLOG : Hid (Rw (W5) (bk + 1) tEnt (.slice la c.n lc) c.n (fun i => some ⟨E1 i, 0, none⟩)) := uy ((uh HA6).bm.log)
   have c0x : (W5).cell? ⟨bk, 0, none⟩ = some (.slice la c.n lc) := (uh HA6).bm.c0
   have lbx : bk < (W5).heap.size := (uh HA6).bm.lt
   have HFIN : Hid (∀ (o : Obj) (g3 cp3 : Nat) (w3 : World), w3.ownsRow (bk + 1) tEnt 1 (.slice (some ⟨g3, 0, none⟩) (c.n + 1) cp3) (c.n + 1) (ptL (fun i => some ⟨E1 i, 0, none⟩) c.n ++ [.pointer (some ⟨E1 c.n, 0, none⟩)]) → ((W5).alloc o).grownBy w3 (Value.slice la c.n lc).ownBlock → ((Value.slice la c.n lc).ownBlock = some g3 ∨ g3 = (W5).heap.size + 1) →
     w3.cell? ⟨bk, 0, none⟩ = some (.slice la c.n lc) ∧ w3.frozen? ⟨bk, 0, none⟩ = false ∧ bk < w3.heap.size ∧ (∃ r1' R2' S', BMut (w3.setCell ⟨bk, 0, none⟩ (.slice (some ⟨g3, 0, none⟩) (c.n + 1) cp3)) bk (.slice (some ⟨g3, 0, none⟩) (c.n + 1) cp3) r1' R2' E1 S' (comeC hf c k v)) ∧ Below bk w (w3.setCell ⟨bk, 0, none⟩ (.slice (some ⟨g3, 0, none⟩) (c.n + 1) cp3))) := uy (fun o g3 cp3 w3 h1 h2 h3 => by
    obtain ⟨p1, p2, p3, p4, p5⟩ := (uh HA6).fin h1 h2 h3
    exact ⟨p1, p2, p3, ⟨_, _, _, by rw [← uh HRES]; exact p4⟩, (uh HB6).trans p5⟩)
   clear HA6 HB6
   go_wp2_with (at_builtin; refine wpList_append_lies _ rfl _ _ 110 rfl (bk + 1) tEnt i0 (.pointer none) 1 8 Tryz.underlying110 hi0 hz0 hz1 hz2 rfl (by decide) (.slice la c.n lc) c.n (ptL (fun i => some ⟨E1 i, 0, none⟩) c.n) rfl (World.ownsRow.alloc (uh HLOG) _) ⟨(W5).heap.size, 0, none⟩ 1 1 [.pointer (some ⟨E1 c.n, 0, none⟩)] rfl rfl (World.news_of_block (Deep.blk_alloc_new _ _)) (by simp [Value.oneCell']) (by decide) (by unfold maxLen; omega) (by omega) (by simp; omega) ((W5).heap.size + 1) (by simp) ?_; intro g3 cp3 w3 hown3 hgr3 hloc3 hlt3; obtain ⟨x3, f3, lx3, hN3, hB3⟩ := uh HFIN _ g3 cp3 w3 hown3 hgr3 hloc3; have HN3 := uy hN3; have HBB := uy hB3; clear hown3 hgr3 hloc3 hN3 hB3)
   go_end0
   obtain ⟨r1', R2', S', hN⟩ := uh HN3
   exact ⟨⟨⟨_, rfl⟩, _, r1', R2', E1, S', hN⟩, uh HBB⟩
  ·have HSM := uy (tells_no hs)
   have HNS := uy hs
   have hci' := comeC_inv KL hci hcn hk hkb hv hv0 hcno hclive hcturn
   have HMn := uy hci'.2.2.1
   have HML := uy hci'.2.2.2.1
   clear hs hci'
   go_wp2_with fail
   refine wp_region_quiet (C := fun w' => Below W3.heap.size W3 w') (by kernel_rfl) (by kernel_rfl) ((Below.refl _ _).drew) ?_
   show wpQuiet _ _ _ _ [_, _, _, _, _, _, _] _
   refine wpQuiet_step (fun K hK => ?_)
   go_simp
   apply Exists.intro
   refine And.intro (fun w' hw' => ?_) (hK _ ?_)
   ·obtain ⟨hc', hf'⟩ := bcell hw'
    go_simp
    first | rfl | exact ⟨rfl, rfl⟩ | exact ⟨rfl⟩
   clear hK K
   iterate 3 (refine wpQuiet_step (fun K hK => ?_); go_simp; refine ⟨_, fun w' hw' => rfl, hK _ ?_⟩; clear hK K)
   refine wpQuiet_step (fun K hK => ?_)
   go_simp
   apply Exists.intro
   refine And.intro (fun w' hw' => ?_) (hK _ ?_)
   ·obtain ⟨hc', hf'⟩ := bcell hw'
    go_simp
    first | rfl | exact ⟨rfl, rfl⟩ | exact ⟨rfl⟩
   clear hK K
   refine wpQuiet_step (fun K hK => ?_)
   go_simp
   refine ⟨_, fun w' hw' => rfl, hK _ ?_⟩
   clear hK K
   refine wpQuiet_step (fun K hK => ?_)
   go_simp
   apply Exists.intro
   refine And.intro (fun w' hw' => ?_) (hK _ ?_)
   ·refine (((uh HSM) ▸ hasPlace_any k c.m _ (by omega))).mono ?_
    rintro e w'' ⟨rfl, hb⟩
    exact ⟨rfl, hw'.trans (hb.mono hw'.size)⟩
   clear hK K
   refine wpQuiet_nil ?_
   intro w4 hw4
   have l4 := Nat.lt_of_lt_of_le l3 hw4.size
   have lb4 := Nat.lt_of_lt_of_le lb3 hw4.size
   have vk4 := (uh HVK3).keep hw4.size (hw4.block _ l3)
   have q04 := vk4.k0
   have q14 := vk4.k1
   have q24 := vk4.k2
   have q34 := vk4.k3
   have q44 := vk4.k4
   have hA4 : AEnd w4 bk (.slice la c.n lc) r1 R2 E1 S (onW c k v) := ⟨(uh HA).bm.below hw4, (uh HA).e.keep hw4.size (hw4.block _ (uh HA).e.lt), (uh HA).eb, (uh HA).ne⟩
   have HB4 := uy ((uh HB3).trans (hw4.mono (by omega)))
   have HSm : Hid (Small (onW c k v)) := uy ⟨hcn', by show c.m ≤ _; omega, by show c.x ≤ _; omega⟩
   have HNXI : Hid (∀ w', Below w4.heap.size w4 w' → Calls Tryz.prog 103 #[.pointer (some ⟨bk, 0, none⟩)] w' fun e w'' => e = .returned (V 2 ((c.m : Int) + 1) 0 ⟨#[]⟩ 0) ∧ Below w'.heap.size w' w'') := uy (fun w' hw' => by
    obtain ⟨R0', R1', hB'⟩ := (hA4.bm.below hw').book
    exact nextInt_any bk R0' R1' R2 E1 S (onW c k v) w' hB' (uh HSm))
   have HA4 := uy hA4
   clear hw4 HA vk4 hA4 q0 q1 q2 q3 q4 c1
   by_cases hnx : k.kind = 2 ∧ k.num = (c.m : Int) + 1
   ·have HNX := uy hnx
    have HF := uy (int_key hkb hnx.1)
    clear hnx
    go_wp2_with fail
    refine wp_region_quiet (C := fun w' => Below w4.heap.size w4 w') (by kernel_rfl) (by kernel_rfl) ((Below.refl _ _).drew) ?_
    show wpQuiet _ _ _ _ [_, _, _, _] _
    refine wpQuiet_step (fun K hK => ?_)
    go_simp
    apply Exists.intro
    refine And.intro (fun w' hw' => ?_) (hK _ ?_)
    ·obtain ⟨hc', hf'⟩ := bcell hw'
     go_simp
     first | rfl | exact ⟨rfl, rfl⟩ | exact ⟨rfl⟩
    clear hK K
    refine wpQuiet_step (fun K hK => ?_)
    go_simp
    refine ⟨_, fun w' hw' => rfl, hK _ ?_⟩
    clear hK K
    refine wpQuiet_step (fun K hK => ?_)
    go_simp
    apply Exists.intro
    refine And.intro (fun w' hw' => ?_) (hK _ ?_)
    ·refine ((uh HNXI _ hw')).mono ?_
     rintro e w'' ⟨rfl, hb⟩
     exact ⟨rfl, hw'.trans (hb.mono hw'.size)⟩
    clear hK K
    refine wpQuiet_step (fun K hK => ?_)
    go_simp
    refine ⟨.bool true, fun w' hw' => ?_, hK _ ?_⟩
    ·obtain ⟨x1, x2⟩ := uh HNX
     obtain ⟨x3, x4, x5⟩ := uh HF
     have x3' : FloatKind.f64.format.order k.flt 0 = some Ordering.eq := by simpa using x3
     have x4' : k.str.toList = [] := List.isEmpty_iff.1 x4
     simp only [x1, x2, x5, x3', x4', if_true]
     exact ⟨trivial, trivial⟩
    clear hK K
    refine wpQuiet_nil ?_
    intro w5 hw5
    have hA5 : AEnd w5 bk (.slice la c.n lc) r1 R2 E1 S (onW c k v) := ⟨(uh HA4).bm.below hw5, (uh HA4).e.keep hw5.size (hw5.block _ (uh HA4).e.lt), (uh HA4).eb, (uh HA4).ne⟩
    have HB5 := uy ((uh HB4).trans (hw5.mono (by omega)))
    have HCALL : Hid (Calls Tryz.prog 125 #[.pointer (some ⟨bk, 0, none⟩), .pointer (some ⟨E1 c.n, 0, none⟩)] w5 fun e w' => (∃ u, e = .returned u) ∧ (∃ r1' S', AEnd w' bk (.slice la c.n lc) r1' R2 E1 S' { comeC hf c k v with n := c.n }) ∧ Below bk w w') := uy (by
     obtain ⟨x1, x2⟩ := uh HNX
     have hT5 : T w5 := hTb _ _ (uh HT) (uh HB5)
     have hLn : ((onW c k v).L (onW c k v).n) = ⟨k, v, c.turns + 1⟩ := onW_L c k v
     have hcome : comeC hf c k v = moveD hf (c.x + 1) (addNext c k v) := by unfold comeC; rw [if_neg (uh HNS), if_pos ⟨x1, x2⟩]
     obtain ⟨cR1, hbR1⟩ := hA5.bm.ints.block (b := R1) (by rw [uh HE1r]; rfl)
     obtain ⟨cR2, hbR2⟩ := hA5.bm.slots.block (b := R2) rfl
     have hae := hA5.e
     refine (addNextInt_any T hTl hf K KL hHs bk hTb (.slice la c.n lc) r1 R2 E1 S (onW c k v) w5 hT5 hA5.bm (uh HSm) hcm (by rw [hLn]; exact x1) (by rw [hLn]; exact x2) (addNext_inv KL hci hk hkb hv hv0 hcno x1 x2 hclive hcturn)).mono ?_
     rintro e w' ⟨⟨hu, r1', S', hN⟩, hkx⟩
     have hN : BMut w' bk (.slice la c.n lc) r1' R2 E1 S' { moveD hf (c.x + 1) (addNext c k v) with n := c.n } := hN
     rw [← hcome] at hN
     have hblk := hkx.blk (E1 c.n) hae.lt (by
      rintro (e | e | e)
      ·have := hA5.eb
       have h' : bk < E1 c.n := this
       omega
      ·rw [uh HE1r] at e
       have e' : R1 = E1 c.n := by simpa [Value.ownBlock] using e
       exact type_apart (e' ▸ hae.ob) hbR1 (by decide)
      ·exact type_apart (e ▸ hae.ob) hbR2 (by decide))
     refine ⟨hu, ⟨r1', S', hN, ?_, hA5.eb, hA5.ne⟩, (uh HB5).trans hkx.bel⟩
     have h1 : (comeC hf c k v).L c.n = (onW c k v).L c.n := by rw [uh HML]; rfl
     show ECell w' (E1 c.n) ((comeC hf c k v).L c.n) c.n
     rw [h1]
     exact hae.keep hkx.bel.size hblk)
    clear hA5 HB5 hw5 HA4 HB4 HNXI q04 q14 q24 q34 q44
    go_wp2_with fail
    refine (uh HCALL).mono ?_
    rintro e w6 ⟨⟨uu6, rfl⟩, ⟨r1x, Sx, hA6x⟩, hB6x⟩
    have HRES : Hid ({ { comeC hf c k v with n := c.n } with n := c.n + 1 } = comeC hf c k v) := uy (by
     have h1 := uh HMn
     generalize comeC hf c k v = M at h1
     cases M
     simp only at h1
     subst h1
     rfl)
    have HA6x := uy hA6x
    have HB6x := uy hB6x
    clear hA6x hB6x HCALL
    have HA6 : Hid (AEnd (w6) bk (.slice la c.n lc) r1x R2 E1 Sx { comeC hf c k v with n := c.n }) := uy (uh HA6x)
    have HB6 : Hid (Below bk w (w6)) := uy (uh HB6x)
    have HLOG : Hid (Rw (w6) (bk + 1) tEnt (.slice la c.n lc) c.n (fun i => some ⟨E1 i, 0, none⟩)) := uy ((uh HA6).bm.log)
    have c0x : (w6).cell? ⟨bk, 0, none⟩ = some (.slice la c.n lc) := (uh HA6).bm.c0
    have lbx : bk < (w6).heap.size := (uh HA6).bm.lt
    have HFIN : Hid (∀ (o : Obj) (g3 cp3 : Nat) (w3 : World), w3.ownsRow (bk + 1) tEnt 1 (.slice (some ⟨g3, 0, none⟩) (c.n + 1) cp3) (c.n + 1) (ptL (fun i => some ⟨E1 i, 0, none⟩) c.n ++ [.pointer (some ⟨E1 c.n, 0, none⟩)]) → ((w6).alloc o).grownBy w3 (Value.slice la c.n lc).ownBlock → ((Value.slice la c.n lc).ownBlock = some g3 ∨ g3 = (w6).heap.size + 1) →
      w3.cell? ⟨bk, 0, none⟩ = some (.slice la c.n lc) ∧ w3.frozen? ⟨bk, 0, none⟩ = false ∧ bk < w3.heap.size ∧ (∃ r1' R2' S', BMut (w3.setCell ⟨bk, 0, none⟩ (.slice (some ⟨g3, 0, none⟩) (c.n + 1) cp3)) bk (.slice (some ⟨g3, 0, none⟩) (c.n + 1) cp3) r1' R2' E1 S' (comeC hf c k v)) ∧ Below bk w (w3.setCell ⟨bk, 0, none⟩ (.slice (some ⟨g3, 0, none⟩) (c.n + 1) cp3))) := uy (fun o g3 cp3 w3 h1 h2 h3 => by
     obtain ⟨p1, p2, p3, p4, p5⟩ := (uh HA6).fin h1 h2 h3
     exact ⟨p1, p2, p3, ⟨_, _, _, by rw [← uh HRES]; exact p4⟩, (uh HB6).trans p5⟩)
    clear HA6 HB6
    go_wp2_with (at_builtin; refine wpList_append_lies _ rfl _ _ 110 rfl (bk + 1) tEnt i0 (.pointer none) 1 8 Tryz.underlying110 hi0 hz0 hz1 hz2 rfl (by decide) (.slice la c.n lc) c.n (ptL (fun i => some ⟨E1 i, 0, none⟩) c.n) rfl (World.ownsRow.alloc (uh HLOG) _) ⟨(w6).heap.size, 0, none⟩ 1 1 [.pointer (some ⟨E1 c.n, 0, none⟩)] rfl rfl (World.news_of_block (Deep.blk_alloc_new _ _)) (by simp [Value.oneCell']) (by decide) (by unfold maxLen; omega) (by omega) (by simp; omega) ((w6).heap.size + 1) (by simp) ?_; intro g3 cp3 w3 hown3 hgr3 hloc3 hlt3; obtain ⟨x3, f3, lx3, hN3, hB3⟩ := uh HFIN _ g3 cp3 w3 hown3 hgr3 hloc3; have HN3 := uy hN3; have HBB := uy hB3; clear hown3 hgr3 hloc3 hN3 hB3)
    go_end0
    obtain ⟨r1', R2', S', hN⟩ := uh HN3
    exact ⟨⟨⟨_, rfl⟩, _, r1', R2', E1, S', hN⟩, uh HBB⟩
   ·have HNX := uy hnx
    clear hnx
    go_wp2_with fail
    refine wp_region_quiet (C := fun w' => Below w4.heap.size w4 w') (by kernel_rfl) (by kernel_rfl) ((Below.refl _ _).drew) ?_
    show wpQuiet _ _ _ _ [_, _, _, _] _
    refine wpQuiet_step (fun K hK => ?_)
    go_simp
    apply Exists.intro
    refine And.intro (fun w' hw' => ?_) (hK _ ?_)
    ·obtain ⟨hc', hf'⟩ := bcell hw'
     go_simp
     first | rfl | exact ⟨rfl, rfl⟩ | exact ⟨rfl⟩
    clear hK K
    refine wpQuiet_step (fun K hK => ?_)
    go_simp
    refine ⟨_, fun w' hw' => rfl, hK _ ?_⟩
    clear hK K
    refine wpQuiet_step (fun K hK => ?_)
    go_simp
    apply Exists.intro
    refine And.intro (fun w' hw' => ?_) (hK _ ?_)
    ·refine ((uh HNXI _ hw')).mono ?_
     rintro e w'' ⟨rfl, hb⟩
     exact ⟨rfl, hw'.trans (hb.mono hw'.size)⟩
    clear hK K
    refine wpQuiet_step (fun K hK => ?_)
    go_simp
    refine ⟨.bool false, fun w' hw' => ?_, hK _ ?_⟩
    ·have hno' := uh HNX
     by_cases x1 : k.kind = 2
     ·have x2 : ¬ k.num = (c.m : Int) + 1 := fun h => hno' ⟨x1, h⟩
      simp only [x1, x2, if_true, if_false]
      exact ⟨trivial, trivial⟩
     ·simp only [x1, if_false]
      exact ⟨trivial, trivial⟩
    clear hK K
    refine wpQuiet_nil ?_
    intro w5 hw5
    have hA5 : AEnd w5 bk (.slice la c.n lc) r1 R2 E1 S (onW c k v) := ⟨(uh HA4).bm.below hw5, (uh HA4).e.keep hw5.size (hw5.block _ (uh HA4).e.lt), (uh HA4).eb, (uh HA4).ne⟩
    have HB5 := uy ((uh HB4).trans (hw5.mono (by omega)))
    have HCALL : Hid (Calls Tryz.prog 126 #[.pointer (some ⟨bk, 0, none⟩), .pointer (some ⟨E1 c.n, 0, none⟩)] w5 fun e w' => (∃ u, e = .returned u) ∧ (∃ R2' S', AEnd w' bk (.slice la c.n lc) r1 R2' E1 S' { comeC hf c k v with n := c.n }) ∧ Below bk w w') := uy (by
     have hT5 : T w5 := hTb _ _ (uh HT) (uh HB5)
     have hLn : ((onW c k v).L (onW c k v).n) = ⟨k, v, c.turns + 1⟩ := onW_L c k v
     have hrn : (roomD hf c).n = c.n := (roomD_inv hci hclive).2.2.n
     have hcome : enterD hf (roomB hf (onW c k v)) ((onW c k v).L (onW c k v).n).key (onW c k v).n = { comeC hf c k v with n := c.n } := by
      have e1 : comeC hf c k v = enterD hf (addL (roomD hf c) k v) k c.n := by unfold comeC; rw [if_neg (uh HNS), if_neg (uh HNX)]
      rw [e1, hLn, room_onW hci.core, onW_addL hrn]
      exact enter_cut hf (addL (roomD hf c) k v) k c.n c.n
     obtain ⟨cR2, hbR2⟩ := hA5.bm.slots.block (b := R2) rfl
     have hae := hA5.e
     refine (addToIndex_any T hTl hf bk hTb (.slice la c.n lc) r1 R2 E1 S (onW c k v) w5 hT5 hA5.bm (uh HSm) (fun i hi ht => by
      have hi' : i < c.n := hi
      rw [onW_old c k v hi'] at ht ⊢
      exact hHs _ (hci.keys i hi' ht)) (by rw [hld_onW]; exact livN_hld hci.core hclive) hae hA5.eb (by rw [hLn]; exact hHs k hk) (fun j hj => by
      rcases hci.idx.range j hj with e | e | e
      ·exact .inl e
      ·exact .inr (.inl e)
      ·exact .inr (.inr e.1)) hci.used).mono ?_
     rintro e w' ⟨⟨hu, R2', S', hN⟩, hkx⟩
     rw [hcome] at hN
     have hblk := hkx.blk (E1 c.n) hae.lt (by
      rintro (e | e)
      ·have h' : bk < E1 c.n := hA5.eb
       omega
      ·exact type_apart (e ▸ hae.ob) hbR2 (by decide))
     refine ⟨hu, ⟨R2', S', hN, ?_, hA5.eb, hA5.ne⟩, (uh HB5).trans hkx.bel⟩
     have h1 : (comeC hf c k v).L c.n = (onW c k v).L c.n := by rw [uh HML]; rfl
     show ECell w' (E1 c.n) ((comeC hf c k v).L c.n) c.n
     rw [h1]
     exact hae.keep hkx.bel.size hblk)
    clear hA5 HB5 hw5 HA4 HB4 HNXI q04 q14 q24 q34 q44
    go_wp2_with fail
    refine (uh HCALL).mono ?_
    rintro e w6 ⟨⟨uu6, rfl⟩, ⟨R2x, Sx, hA6x⟩, hB6x⟩
    have HRES : Hid ({ { comeC hf c k v with n := c.n } with n := c.n + 1 } = comeC hf c k v) := uy (by
     have h1 := uh HMn
     generalize comeC hf c k v = M at h1
     cases M
     simp only at h1
     subst h1
     rfl)
    have HA6x := uy hA6x
    have HB6x := uy hB6x
    clear hA6x hB6x HCALL
    have HA6 : Hid (AEnd (w6) bk (.slice la c.n lc) r1 R2x E1 Sx { comeC hf c k v with n := c.n }) := uy (uh HA6x)
    have HB6 : Hid (Below bk w (w6)) := uy (uh HB6x)
    have HLOG : Hid (Rw (w6) (bk + 1) tEnt (.slice la c.n lc) c.n (fun i => some ⟨E1 i, 0, none⟩)) := uy ((uh HA6).bm.log)
    have c0x : (w6).cell? ⟨bk, 0, none⟩ = some (.slice la c.n lc) := (uh HA6).bm.c0
    have lbx : bk < (w6).heap.size := (uh HA6).bm.lt
    have HFIN : Hid (∀ (o : Obj) (g3 cp3 : Nat) (w3 : World), w3.ownsRow (bk + 1) tEnt 1 (.slice (some ⟨g3, 0, none⟩) (c.n + 1) cp3) (c.n + 1) (ptL (fun i => some ⟨E1 i, 0, none⟩) c.n ++ [.pointer (some ⟨E1 c.n, 0, none⟩)]) → ((w6).alloc o).grownBy w3 (Value.slice la c.n lc).ownBlock → ((Value.slice la c.n lc).ownBlock = some g3 ∨ g3 = (w6).heap.size + 1) →
      w3.cell? ⟨bk, 0, none⟩ = some (.slice la c.n lc) ∧ w3.frozen? ⟨bk, 0, none⟩ = false ∧ bk < w3.heap.size ∧ (∃ r1' R2' S', BMut (w3.setCell ⟨bk, 0, none⟩ (.slice (some ⟨g3, 0, none⟩) (c.n + 1) cp3)) bk (.slice (some ⟨g3, 0, none⟩) (c.n + 1) cp3) r1' R2' E1 S' (comeC hf c k v)) ∧ Below bk w (w3.setCell ⟨bk, 0, none⟩ (.slice (some ⟨g3, 0, none⟩) (c.n + 1) cp3))) := uy (fun o g3 cp3 w3 h1 h2 h3 => by
     obtain ⟨p1, p2, p3, p4, p5⟩ := (uh HA6).fin h1 h2 h3
     exact ⟨p1, p2, p3, ⟨_, _, _, by rw [← uh HRES]; exact p4⟩, (uh HB6).trans p5⟩)
    clear HA6 HB6
    go_wp2_with (at_builtin; refine wpList_append_lies _ rfl _ _ 110 rfl (bk + 1) tEnt i0 (.pointer none) 1 8 Tryz.underlying110 hi0 hz0 hz1 hz2 rfl (by decide) (.slice la c.n lc) c.n (ptL (fun i => some ⟨E1 i, 0, none⟩) c.n) rfl (World.ownsRow.alloc (uh HLOG) _) ⟨(w6).heap.size, 0, none⟩ 1 1 [.pointer (some ⟨E1 c.n, 0, none⟩)] rfl rfl (World.news_of_block (Deep.blk_alloc_new _ _)) (by simp [Value.oneCell']) (by decide) (by unfold maxLen; omega) (by omega) (by simp; omega) ((w6).heap.size + 1) (by simp) ?_; intro g3 cp3 w3 hown3 hgr3 hloc3 hlt3; obtain ⟨x3, f3, lx3, hN3, hB3⟩ := uh HFIN _ g3 cp3 w3 hown3 hgr3 hloc3; have HN3 := uy hN3; have HBB := uy hB3; clear hown3 hgr3 hloc3 hN3 hB3)
    go_end0
    obtain ⟨r1', R2', S', hN⟩ := uh HN3
    exact ⟨⟨⟨_, rfl⟩, _, r1', R2', E1, S', hN⟩, uh HBB⟩
end
end Go.Proofs.YtglcaejddckleaaGreatDoor
