/-
  DtT, DtU, DtV, DsA, DsB, DsC, DsD, KeyG, DkM, Mark, DmA, DmB, DmC, DmD, DmE, DtW in one text.
-/
import Derived.Test.YtglcaejddckleaaDoorBg3
import Derived.Test.YtglcaejddckleaaDoorBg0
import Derived.Laws.OwnMore
import Derived.Test.YtglcaejddckleaaDoorKeyF
import Derived.Test.YtglcaejddckleaaDoorDcI
import Derived.Test.YtglcaejddckleaaDoorDiE
import Derived.Test.YtglcaejddckleaaDoorDigits
namespace Go.Proofs.YtglcaejddckleaaDoor
open Go.RowKit
set_option linter.unusedVariables false
attribute [local go_sem] run_store_float run_equalIn_float

/-- An entry is written. -/
theorem BMut.setE {w w' : World} {bk : Nat} {r0 r1 : Value} {R2 : Nat} {E S : Nat → Nat} {d : Dc} (h : BMut w bk r0 r1 R2 E S d) {p : Nat} (hp : p < d.n) {q : Pr} (hz : w'.heap.size = w.heap.size) (hb : ∀ b, b ≠ E p → w'.heap[b]? = w.heap[b]?) (he : w'.heap[E p]? = some (.cells (entA q p) 57 (0, 0))) (hk : q.key = (d.L p).key ∨ ∀ j, j < d.x → d.X j ≠ (p : Int) + 1) : BMut w' bk r0 r1 R2 E S { d with L := upd d.L p q } := by
  have hep := h.ent p hp
  have hbk : E p ≠ bk := by have := h.eb p hp; omega
  have hc : ∀ q, w'.cell? ⟨bk, q, none⟩ = w.cell? ⟨bk, q, none⟩ := fun q => World.cell?_of_block (a := ⟨bk, q, none⟩) (hb bk (fun e => hbk e.symm))
  have kr : ∀ {t : TypeId} {v : Value} {n : Nat} {f : Nat → Option Addr}, Rw w (bk + 1) t v n f → t ≠ 57 → Rw w' (bk + 1) t v n f := fun {t v n f} hh ht => own_at hh (fun b e => hb b (fun e' => by
    obtain ⟨c, hb'⟩ := hh.block e
    rw [e'] at hb'
    exact type_apart hb' hep.ob ht))
  refine ⟨by rw [hz]; exact h.lt, (hc _).trans h.c0, (hc _).trans h.c1, (hc _).trans h.c2, (hc _).trans h.c3, (hc _).trans h.c4, (hc _).trans h.c5, (hc _).trans h.c6, fun q => (World.frozen?_of_block (a := ⟨bk, q, none⟩) (hb bk (fun e => hbk e.symm))).trans (h.fz q), kr h.log (by decide), kr h.ints (by decide), h.rf, kr h.slots (by decide), h.ap, fun i hi => ?_, h.eb, h.inj, fun j hj => ?_, h.sg⟩
  · show ECell w' (E i) (upd d.L p q i) i
    by_cases e : i = p
    · subst e; rw [upd_same]; exact ECell.of_ob he
    · rw [upd_other _ _ e]
      exact (h.ent i hi).keep (by omega) (hb _ (fun e' => e (h.inj i p hi hp e')))
  · have hs := (h.sl j hj).keep (w' := w') (by omega) (fun c hc' => hb _ (fun e => by
      rw [e] at hc'
      exact type_apart hc' hep.ob (by decide)))
    refine ⟨fun h0 => ?_, hs.2⟩
    have h1 := hs.1 h0
    show SCell w' (S j) (upd d.L p q (d.X j - 1).toNat).key (E (d.X j - 1).toNat)
    by_cases e : (d.X j - 1).toNat = p
    · rw [e, upd_same]
      rcases hk with hk | hk
      · rw [hk]
        have h2 : SCell w' (S j) (d.L (d.X j - 1).toNat).key (E (d.X j - 1).toNat) := h1
        rw [e] at h2
        exact h2
      · have h0' : 0 < d.X j := h0
        exact absurd (show d.X j = (p : Int) + 1 by omega) (hk j hj)
    · rw [upd_other _ _ e]
      exact h1
/-- The cells of an entry's value, one after another. -/
def valSet (w : World) (b : Nat) (v : Vl) : World := ((((w.setCell ⟨b, 5, none⟩ (.int .i64 v.kind)).setCell ⟨b, 6, none⟩ (.int .i64 v.num)).setCell ⟨b, 7, none⟩ (.float .f64 v.flt)).setCell ⟨b, 8, none⟩ (.string v.str)).setCell ⟨b, 9, none⟩ (.int .i64 v.ref)
def pairZero (w : World) (b : Nat) : World := ((((((((((w.setCell ⟨b, 0, none⟩ (.int .i64 0)).setCell ⟨b, 1, none⟩ (.int .i64 0)).setCell ⟨b, 2, none⟩ (.float .f64 0)).setCell ⟨b, 3, none⟩ (.string ⟨#[]⟩)).setCell ⟨b, 4, none⟩ (.int .i64 0)).setCell ⟨b, 5, none⟩ (.int .i64 0)).setCell ⟨b, 6, none⟩ (.int .i64 0)).setCell ⟨b, 7, none⟩ (.float .f64 0)).setCell ⟨b, 8, none⟩ (.string ⟨#[]⟩)).setCell ⟨b, 9, none⟩ (.int .i64 0)).setCell ⟨b, 10, none⟩ (.int .i64 0)
theorem valSet_other {w : World} {b b' : Nat} {v : Vl} (h : b' ≠ b) : (valSet w b v).heap[b']? = w.heap[b']? := by
  unfold valSet
  iterate 5 (refine (Deep.blk_setCell_other _ _ _ _ (by exact h)).trans ?_)
  rfl
theorem pairZero_other {w : World} {b b' : Nat} (h : b' ≠ b) : (pairZero w b).heap[b']? = w.heap[b']? := by
  unfold pairZero
  iterate 11 (refine (Deep.blk_setCell_other _ _ _ _ (by exact h)).trans ?_)
  rfl
theorem valSet_same {w : World} {b : Nat} {p : Pr} {i : Nat} {v : Vl} (h : ECell w b p i) : (valSet w b v).heap[b]? = some (.cells (entA ⟨p.key, v, p.turn⟩ i) 57 (0, 0)) := by
  have h1 := heap_setCell_same w b 5 _ _ (.int .i64 v.kind) h.ob
  have h2 := heap_setCell_same _ b 6 _ _ (.int .i64 v.num) h1
  have h3 := heap_setCell_same _ b 7 _ _ (.float .f64 v.flt) h2
  have h4 := heap_setCell_same _ b 8 _ _ (.string v.str) h3
  have h5 := heap_setCell_same _ b 9 _ _ (.int .i64 v.ref) h4
  exact h5.trans (by simp [entA])
theorem pairZero_same {w : World} {b : Nat} {p : Pr} {i : Nat} (h : ECell w b p i) : (pairZero w b).heap[b]? = some (.cells (entA default i) 57 (0, 0)) := by
  have h1 := heap_setCell_same w b 0 _ _ (.int .i64 0) h.ob
  have h2 := heap_setCell_same _ b 1 _ _ (.int .i64 0) h1
  have h3 := heap_setCell_same _ b 2 _ _ (.float .f64 0) h2
  have h4 := heap_setCell_same _ b 3 _ _ (.string ⟨#[]⟩) h3
  have h5 := heap_setCell_same _ b 4 _ _ (.int .i64 0) h4
  have h6 := heap_setCell_same _ b 5 _ _ (.int .i64 0) h5
  have h7 := heap_setCell_same _ b 6 _ _ (.int .i64 0) h6
  have h8 := heap_setCell_same _ b 7 _ _ (.float .f64 0) h7
  have h9 := heap_setCell_same _ b 8 _ _ (.string ⟨#[]⟩) h8
  have h10 := heap_setCell_same _ b 9 _ _ (.int .i64 0) h9
  have h11 := heap_setCell_same _ b 10 _ _ (.int .i64 0) h10
  exact h11.trans (by simp [entA]; exact ⟨rfl, rfl, rfl, rfl, rfl, rfl, rfl, rfl, rfl, rfl, rfl⟩)
theorem valSet_below {w : World} {bk b : Nat} {v : Vl} (h : bk ≤ b) : Below bk w (valSet w b v) := by
  unfold valSet
  iterate 5 (refine Below.setCell ?_ (by exact h) _)
  exact Below.refl _ _
theorem pairZero_below {w : World} {bk b : Nat} (h : bk ≤ b) : Below bk w (pairZero w b) := by
  unfold pairZero
  iterate 11 (refine Below.setCell ?_ (by exact h) _)
  exact Below.refl _ _
theorem valSet_size {w : World} {b : Nat} {v : Vl} : (valSet w b v).heap.size = w.heap.size := by unfold valSet; simp
theorem pairZero_size {w : World} {b : Nat} : (pairZero w b).heap.size = w.heap.size := by unfold pairZero; simp

theorem tight_any (T : World → Prop) (hTl : Lasts T) (hf : Vl → Nat) (K : Vl → Prop) (hHs : ∀ v, K v → HsI T v (hf v)) (bk : Nat) (hTb : ∀ w w', T w → Below bk w w' → T w') (r0 r1 : Value) (R2 : Nat) (E S : Nat → Nat) (d : Dc) (W : World) (hT : T W) (hM : BMut W bk r0 r1 R2 E S d) (hS : Small d) (hI : Inv0 K hf d) (hlo : looseK d) :
    Calls Tryd.prog 45 #[.pointer (some ⟨bk, 0, none⟩)] W fun e w' => ((∃ u, e = .returned u) ∧ ∃ r0' R2' E2 S', BMut w' bk r0' r1 R2' E2 S' (compactD hf d)) ∧ Below bk W w' := by
  refine (tighten_any T hTl hf bk hTb r0 r1 R2 E S d W hT hM hS (fun i hi ht => hHs _ (hI.keys i hi ht)) (by have := hI.core.live_n; have := hI.le; omega) (fun j hj => by
    rcases hI.ints j hj with e | e
    · exact .inl e
    · exact .inr ⟨e.1, e.2.1, e.2.2.1⟩) (fun j hj h0 => by
    rcases hI.idx.range j hj with e | e | ⟨e1, e2, e3, _⟩
    · omega
    · omega
    · exact ⟨by omega, e3⟩)).mono ?_
  rintro e w' ⟨⟨hu, r0', R2', E2, S', hN⟩, hkx⟩
  exact ⟨⟨hu, r0', R2', E2, S', hN.compact hI.core (by have := hlo.1; have := hlo.2; omega)⟩, hkx.bel⟩
theorem loose_not {hf : Vl → Nat} {d : Dc} (h : ¬ looseK d) : compactD hf d = d := if_pos (by
  by_cases h8 : (d.n : Int) < 8
  · exact .inl h8
  · exact .inr (by
      refine Classical.byContradiction fun h2 => h ⟨by omega, by omega⟩))
end Go.Proofs.YtglcaejddckleaaDoor
namespace Go.Proofs.YtglcaejddckleaaDoor
open Go.RowKit
set_option linter.unusedVariables false
attribute [local go_sem] run_store_float run_equalIn_float

set_option maxRecDepth 100000 in
set_option maxHeartbeats 8000000 in
theorem remove_any (T : World → Prop) (hTl : Lasts T) (hf : Vl → Nat) (K : Vl → Prop) (KL : KeyLaw K hf) (hHs : ∀ v, K v → HsI T v (hf v)) (bk : Nat) (hTb : ∀ w w', T w → Below bk w w' → T w') (r0 r1 : Value) (R2 : Nat) (E S : Nat → Nat) (d : Dc) (p : Nat) (w : World) (hT : T w) (hM : BMut w bk r0 r1 R2 E S d) (hS : Small d)
    (hI : Inv K hf d) (hp : p < d.n) (ht : (d.L p).turn ≠ 0) :
    Calls Tryd.prog 28 #[.pointer (some ⟨bk, 0, none⟩), .pointer (some ⟨E p, 0, none⟩)] w fun e w' => ((∃ u, e = .returned u) ∧ ∃ r0' r1' R2' E2 S', BMut w' bk r0' r1' R2' E2 S' (goD hf d p)) ∧ Below bk w w' := by
  obtain ⟨g1, g2, g3, g4, g5, g6⟩ := goC_inv KL hI.i0 hI.next hp ht
  have hlt := hM.lt
  have hen := hM.ent p hp
  have k0 := hen.k0
  have k1 := hen.k1
  have k2 := hen.k2
  have k3 := hen.k3
  have k4 := hen.k4
  have hel := hen.lt
  have heb := hM.eb p hp
  obtain ⟨R1, q1, e1⟩ := hM.rf
  have c1 := hM.c1
  rw [e1] at c1
  have hdm := hS.m
  have hcnt := hI.i0.log.cnt
  have hle := hI.i0.le
  have hlv : 1 ≤ d.live := by
    have h1 := rank_lt hp ht
    have h2 : (lvN d : Int) = d.live := hcnt
    have h3 : rank d d.n = lvN d := rfl
    omega
  have hw5 : IntKind.i64.wrap (d.live - 1) = d.live - 1 := by rw [IntKind.wrap_i64]; omega
  -- the end: the pair made empty, the count, the tightening
  have END : ∀ (W : World) (r1' : Value) (S' : Nat → Nat) (c : Dc), Below bk w W → BMut W bk r0 r1' R2 E S' c → c.n = d.n → c.L = d.L → (∀ j, j < c.x → c.X j ≠ (p : Int) + 1) → { c with L := upd c.L p default, live := d.live - 1 } = goC hf d p → c.live = d.live → Small c →
      (W.frozen? ⟨E p, 0, none⟩ = false ∧ ∀ q, W.frozen? ⟨E p, q, none⟩ = false) ∧ E p < W.heap.size ∧ ECell W (E p) (d.L p) p ∧ ECell (pairZero W (E p)) (E p) default p ∧ BMut (pairZero W (E p)) bk r0 r1' R2 E S' { c with L := upd c.L p default } ∧ BMut ((pairZero W (E p)).setCell ⟨bk, 5, none⟩ (.int .i64 (d.live - 1))) bk r0 r1' R2 E S' (goC hf d p) ∧ Below bk w ((pairZero W (E p)).setCell ⟨bk, 5, none⟩ (.int .i64 (d.live - 1))) := fun W r1' S' c hB hMc hn hL hx hg hl hs => by
    have he : ECell W (E p) (d.L p) p := by have := hMc.ent p (by omega); rwa [hL] at this
    have hM2 := hMc.setE (p := p) (by omega) (q := default) (w' := pairZero W (E p)) pairZero_size (fun b hb => pairZero_other hb) (pairZero_same he) (.inr hx)
    have hM3 := hM2.setLive (d.live - 1)
    have hM3 : BMut ((pairZero W (E p)).setCell ⟨bk, 5, none⟩ (.int .i64 (d.live - 1))) bk r0 r1' R2 E S' { c with L := upd c.L p default, live := d.live - 1 } := hM3
    rw [hg] at hM3
    have hfz : ∀ q, W.frozen? ⟨E p, q, none⟩ = false := fun q => by simp [World.frozen?, he.ob]
    exact ⟨⟨hfz 0, hfz⟩, he.lt, he, ECell.of_ob (pairZero_same he), hM2, hM3, (hB.trans (pairZero_below (by omega))).setCell (by exact Nat.le_refl _) _⟩
  have HEND := hide END
  have LAST : ∀ (W : World) (r1' : Value) (S' : Nat → Nat), Below bk w W → BMut W bk r0 r1' R2 E S' (goC hf d p) → Small (goC hf d p) → (Calls Tryd.prog 44 #[.pointer (some ⟨bk, 0, none⟩)] W fun e w' => e = .returned (.bool (tells (looseK (goC hf d p)))) ∧ Below W.heap.size W w') ∧ (∀ W', Below W.heap.size W W' → looseK (goC hf d p) → Calls Tryd.prog 45 #[.pointer (some ⟨bk, 0, none⟩)] W' fun e w' => ((∃ u, e = .returned u) ∧ ∃ r0' R2' E2 S', BMut w' bk r0' r1' R2' E2 S' (goD hf d p)) ∧ Below bk W' w') ∧ (∀ W', Below W.heap.size W W' → ¬ looseK (goC hf d p) → BMut W' bk r0 r1' R2 E S' (goD hf d p)) := fun W r1' S' hB hMc hs => by
    refine ⟨isLoose_any bk r0 r1' R2 E S' (goC hf d p) W hMc hs (by rw [g5]; omega) (by rw [g5]; omega), fun W' hW' hlo => ?_, fun W' hW' hlo => ?_⟩
    · exact tight_any T hTl hf K hHs bk hTb r0 r1' R2 E S' (goC hf d p) W' (hTb _ _ hT (hB.trans (hW'.mono (by have := hMc.lt; omega)))) (hMc.below hW') hs g1 hlo
    · show BMut W' bk r0 r1' R2 E S' (compactD hf (goC hf d p))
      rw [loose_not hlo]
      exact hMc.below hW'
  have HLAST := hide LAST
  have HM := hide hM
  have HT := hide hT
  have HS := hide hS
  have HI := hide hI
  have HEN := hide hen
  by_cases hs : smallK d.m (d.L p).key
  · have HSM := hide (tells_yes hs)
    obtain ⟨a1, a2, a3⟩ := hs
    obtain ⟨q, hq⟩ : ∃ q : Nat, (d.L p).key.num = (q : Int) + 1 := ⟨((d.L p).key.num - 1).toNat, by omega⟩
    have hqm : q < d.m := by omega
    have HG : Hid ({ { d with m := shrink (upd d.I q 0) d.m, I := upd d.I q 0 } with L := upd d.L p default, live := d.live - 1 } = goC hf d p) := hide (by
      rw [goC_small ⟨a1, a2, a3⟩]
      unfold goSmall
      rw [show ((d.L p).key.num - 1).toNat = q by omega]
      rfl)
    have hXp : ∀ j, j < d.x → d.X j ≠ (p : Int) + 1 := fun j hj e => by
      rcases hI.i0.idx.range j hj with h | h | ⟨h1, h2, h3, h4⟩
      · omega
      · omega
      · rw [show (d.X j - 1).toNat = p by omega] at h4
        exact h4 ⟨a1, a2, a3⟩
    have hsh := (shrink_says (upd d.I q 0) d.m).1
    have HREM : Hid (∀ W, Below w.heap.size w W → Calls Tryd.prog 42 #[.pointer (some ⟨bk, 0, none⟩), .int .i64 ((q : Int) + 1)] W fun e w' => ((∃ u, e = .returned u) ∧ ∃ r1', BMut w' bk r0 r1' R2 E S { d with m := shrink (upd d.I q 0) d.m, I := upd d.I q 0 }) ∧ Below bk W w') := hide (fun W hW => removeInt_any bk r0 r1 R2 E S d q W (hM.below hW) hS hqm (fun j hj => by
      rcases hI.i0.ints j hj with e | e <;> omega))
    have HQ := hide hq
    have HXP := hide hXp
    clear a1 a2 a3 hq hXp hM hT hS hI hen END LAST g1 g2 g3 g4 g5 g6
    go_enter Tryd.func28, Tryd.ntmps28
    go_wp2_with fail
    refine wp_region_quiet (C := fun w' => Below w.heap.size w w') (by kernel_rfl) (by kernel_rfl) ((Below.refl _ _).drew) ?_
    show wpQuiet _ _ _ _ [_, _, _, _, _, _, _, _, _, _, _] _
    refine wpQuiet_step (fun K hK => ?_)
    go_simp
    refine ⟨_, fun w' hw' => rfl, hK _ ?_⟩
    clear hK K
    refine wpQuiet_step (fun K hK => ?_)
    go_simp
    refine ⟨_, fun w' hw' => rfl, hK _ ?_⟩
    clear hK K
    refine wpQuiet_step (fun K hK => ?_)
    go_simp
    refine ⟨_, fun w' hw' => rfl, hK _ ?_⟩
    clear hK K
    refine wpQuiet_step (fun K hK => ?_)
    go_simp
    refine ⟨_, fun w' hw' => rfl, hK _ ?_⟩
    clear hK K
    refine wpQuiet_step (fun K hK => ?_)
    go_simp
    apply Exists.intro
    refine And.intro (fun w' hw' => ?_) (hK _ ?_)
    · obtain ⟨hc', hf'⟩ := bcell hw'
      go_simp
      first | rfl | exact ⟨rfl, rfl⟩ | exact ⟨rfl⟩
    clear hK K
    refine wpQuiet_step (fun K hK => ?_)
    go_simp
    refine ⟨_, fun w' hw' => rfl, hK _ ?_⟩
    clear hK K
    refine wpQuiet_step (fun K hK => ?_)
    go_simp
    refine ⟨_, fun w' hw' => rfl, hK _ ?_⟩
    clear hK K
    refine wpQuiet_step (fun K hK => ?_)
    go_simp
    refine ⟨_, fun w' hw' => rfl, hK _ ?_⟩
    clear hK K
    refine wpQuiet_step (fun K hK => ?_)
    go_simp
    apply Exists.intro
    refine And.intro (fun w' hw' => ?_) (hK _ ?_)
    · obtain ⟨hc', hf'⟩ := bcell hw'
      go_simp
      first | rfl | exact ⟨rfl, rfl⟩ | exact ⟨rfl⟩
    clear hK K
    refine wpQuiet_step (fun K hK => ?_)
    go_simp
    refine ⟨_, fun w' hw' => rfl, hK _ ?_⟩
    clear hK K
    refine wpQuiet_step (fun K hK => ?_)
    go_simp
    apply Exists.intro
    refine And.intro (fun w' hw' => ?_) (hK _ ?_)
    · refine (((unhide HSM) ▸ hasPlace_any (d.L p).key d.m _ hdm)).mono ?_
      rintro e w'' ⟨rfl, hb⟩
      exact ⟨rfl, hw'.trans (hb.mono hw'.size)⟩
    clear hK K
    refine wpQuiet_nil ?_
    intro w1 hw1
    have k11 := (hw1.cell (p := ⟨E p, 1, none⟩) hel).trans k1
    rw [unhide HQ] at k11
    have hel1 := Nat.lt_of_lt_of_le hel hw1.size
    have HW1 := hide hw1
    clear hw1 k0 k1 k2 k3 k4 c1
    go_wp2_with fail
    refine (unhide HREM _ (unhide HW1)).mono ?_
    rintro e w2 ⟨⟨⟨uu, rfl⟩, r1', hM2⟩, hb2⟩
    obtain ⟨⟨ff0, ff⟩, l2, e2, e2', m2, m3, b3⟩ := unhide HEND w2 r1' S _ ((unhide HW1).mono (by omega) |>.trans hb2) hM2 rfl rfl (unhide HXP) (unhide HG) rfl ⟨(unhide HS).n, by show shrink (upd d.I q 0) d.m ≤ _; omega, (unhide HS).x⟩
    have c5 := hM2.c5
    have f5 := hM2.fz 5
    have lb2 := hM2.lt
    have hne : E p ≠ bk := by omega
    have z0 := e2.k0
    have z1 := e2.k1
    have z2 := e2.k2
    have z3 := e2.k3
    have z4 := e2.k4
    have z5 := e2.v0
    have z6 := e2.v1
    have z7 := e2.v2
    have z8 := e2.v3
    have z9 := e2.v4
    have z10 := e2.tn
    have HSg : Hid (Small (goC hf d p)) := hide (by rw [← unhide HG]; exact ⟨(unhide HS).n, by show shrink (upd d.I q 0) d.m ≤ _; omega, (unhide HS).x⟩)
    obtain ⟨L1, L2, L3⟩ := unhide HLAST _ _ _ b3 m3 (unhide HSg)
    unfold pairZero at L1 L2 L3 b3
    have HL1 := hide L1
    have HL2 := hide L2
    have HL3 := hide L3
    have HB3 := hide b3
    clear hM2 hb2 e2 e2' m2 m3 b3 L1 L2 L3
    go_wp2_with fail
    by_cases hlo : looseK (goC hf d p)
    · have HLT := hide (tells_yes hlo)
      have HL2' := hide (fun W' hW' => unhide HL2 W' hW' hlo)
      clear hlo HL2 HL3
      refine (unhide HL1).mono ?_
      rintro e w5 ⟨rfl, hb5⟩
      rw [unhide HLT]
      have HB5 := hide hb5
      clear hb5
      go_wp2_with fail
      refine (unhide HL2' _ (unhide HB5)).mono ?_
      rintro e w6 ⟨⟨⟨uu6, rfl⟩, r06, R26, E6, S6, hM6⟩, hb6⟩
      have z5b := (unhide HB3).size
      have HB6 := hide ((unhide HB3).trans (((unhide HB5).mono (by simp; omega)).trans hb6))
      have HM6 := hide hM6
      clear hM6 hb6
      go_wp2
      go_end0
      exact ⟨⟨⟨_, rfl⟩, r06, _, R26, E6, S6, unhide HM6⟩, unhide HB6⟩
    · have HLT := hide (tells_no hlo)
      have HL3' := hide (fun W' hW' => unhide HL3 W' hW' hlo)
      clear hlo HL2 HL3
      refine (unhide HL1).mono ?_
      rintro e w5 ⟨rfl, hb5⟩
      rw [unhide HLT]
      have HB6 := hide ((unhide HB3).trans (hb5.mono (by simp; omega)))
      have HM6 := hide (unhide HL3' _ hb5)
      clear hb5 HL1
      go_wp2
      go_end0
      exact ⟨⟨⟨_, rfl⟩, _, _, _, _, _, unhide HM6⟩, unhide HB6⟩
  · have HSM := hide (tells_no hs)
    obtain ⟨s, hs1, hs2, hs3⟩ := hI.i0.found KL (hI.i0.keys p hp ht) ⟨hp, ht, hs⟩ (KL.refl _ (hI.i0.keys p hp ht))
    have HG : Hid ({ { d with X := upd d.X s (-1) } with L := upd d.L p default, live := d.live - 1 } = goC hf d p) := hide (by rw [goC_slot hs hs3]; rfl)
    have hXp : ∀ j, j < d.x → upd d.X s (-1) j ≠ (p : Int) + 1 := fun j hj e => by
      by_cases ej : j = s
      · rw [ej, upd_same] at e; omega
      · rw [upd_other _ _ ej] at e
        exact ej (hI.i0.idx.uniq j s hj hs1 (by omega) (by omega))
    have HFIND : Hid (∀ W, Below w.heap.size w W → Calls Tryd.prog 41 #[.pointer (some ⟨bk, 2, none⟩), V (d.L p).key.kind (d.L p).key.num (d.L p).key.flt (d.L p).key.str (d.L p).key.ref] W fun e w' => e = .returned (.int .i64 (s : Int)) ∧ Below W.heap.size W w') := hide (fun W hW => by
      obtain ⟨R0', R1', hB⟩ := (hM.below hW).book
      have := find_any T hTl bk R0' R1' R2 E S d (d.L p).key (hf (d.L p).key) (hHs _ (hI.i0.keys p hp ht)) W (hTl _ _ hT hW) hB hS hI.i0.d4
      rw [hs3] at this
      exact this)
    have HREM : Hid (∀ W, Below w.heap.size w W → Calls Tryd.prog 43 #[.pointer (some ⟨bk, 2, none⟩), .int .i64 (s : Int)] W fun e w' => ((∃ u, e = .returned u) ∧ ∃ S', BMut w' bk r0 r1 R2 E S' { d with X := upd d.X s (-1) }) ∧ KX (fun b => b = R2) bk W w') := hide (fun W hW => indexRemove_kx bk r0 r1 R2 E S d s W (hM.below hW) hS hs1)
    obtain ⟨cR2, hbR2⟩ := hM.slots.block (b := R2) rfl
    have hEp2 : E p ≠ R2 := fun e => type_apart (e ▸ hen.ob) hbR2 (by decide)
    have HXP := hide hXp
    clear hs hXp hM hT hS hI hen END LAST g1 g2 g3 g4 g5 g6 hs2 hs3 hbR2
    go_enter Tryd.func28, Tryd.ntmps28
    go_wp2_with fail
    refine wp_region_quiet (C := fun w' => Below w.heap.size w w') (by kernel_rfl) (by kernel_rfl) ((Below.refl _ _).drew) ?_
    show wpQuiet _ _ _ _ [_, _, _, _, _, _, _, _, _, _, _] _
    refine wpQuiet_step (fun K hK => ?_)
    go_simp
    refine ⟨_, fun w' hw' => rfl, hK _ ?_⟩
    clear hK K
    refine wpQuiet_step (fun K hK => ?_)
    go_simp
    refine ⟨_, fun w' hw' => rfl, hK _ ?_⟩
    clear hK K
    refine wpQuiet_step (fun K hK => ?_)
    go_simp
    refine ⟨_, fun w' hw' => rfl, hK _ ?_⟩
    clear hK K
    refine wpQuiet_step (fun K hK => ?_)
    go_simp
    refine ⟨_, fun w' hw' => rfl, hK _ ?_⟩
    clear hK K
    refine wpQuiet_step (fun K hK => ?_)
    go_simp
    apply Exists.intro
    refine And.intro (fun w' hw' => ?_) (hK _ ?_)
    · obtain ⟨hc', hf'⟩ := bcell hw'
      go_simp
      first | rfl | exact ⟨rfl, rfl⟩ | exact ⟨rfl⟩
    clear hK K
    refine wpQuiet_step (fun K hK => ?_)
    go_simp
    refine ⟨_, fun w' hw' => rfl, hK _ ?_⟩
    clear hK K
    refine wpQuiet_step (fun K hK => ?_)
    go_simp
    refine ⟨_, fun w' hw' => rfl, hK _ ?_⟩
    clear hK K
    refine wpQuiet_step (fun K hK => ?_)
    go_simp
    refine ⟨_, fun w' hw' => rfl, hK _ ?_⟩
    clear hK K
    refine wpQuiet_step (fun K hK => ?_)
    go_simp
    apply Exists.intro
    refine And.intro (fun w' hw' => ?_) (hK _ ?_)
    · obtain ⟨hc', hf'⟩ := bcell hw'
      go_simp
      first | rfl | exact ⟨rfl, rfl⟩ | exact ⟨rfl⟩
    clear hK K
    refine wpQuiet_step (fun K hK => ?_)
    go_simp
    refine ⟨_, fun w' hw' => rfl, hK _ ?_⟩
    clear hK K
    refine wpQuiet_step (fun K hK => ?_)
    go_simp
    apply Exists.intro
    refine And.intro (fun w' hw' => ?_) (hK _ ?_)
    · refine (((unhide HSM) ▸ hasPlace_any (d.L p).key d.m _ hdm)).mono ?_
      rintro e w'' ⟨rfl, hb⟩
      exact ⟨rfl, hw'.trans (hb.mono hw'.size)⟩
    clear hK K
    refine wpQuiet_nil ?_
    intro w1 hw1
    have hen1 := (unhide HEN).keep hw1.size (hw1.block _ hel)
    have hS0 : HeldE (E p) (d.L p).key w1.drew := ⟨hen1.k0, hen1.k1, hen1.k2, hen1.k3, hen1.k4⟩
    have hel1 := hen1.lt
    have hz1 := hw1.size
    have HW1 := hide hw1
    clear hw1 k0 k1 k2 k3 k4 c1 hen1
    go_wp2_with fail
    refine wpN_held (HeldE (E p) (d.L p).key) (by kernel_rfl) ?_
    change wpAnyH _ _ _ _ _ _ _ _ (World.drew _)
    refine tk 0 (v := ?_) rfl (by kernel_rfl) (by rfl) ?_ (by assumption) ?_
    rotate_left
    · intro w' ⟨s0, s1, s2, s3, s4⟩; go_simp; first | done | with_reducible rfl
    simp only [Act.put, List.setIfInBounds_toArray, List.set_cons_succ, List.set_cons_zero]
    refine tk 1 (v := ?_) rfl (by kernel_rfl) (by rfl) ?_ (by assumption) ?_
    rotate_left
    · intro w' ⟨s0, s1, s2, s3, s4⟩; go_simp; first | done | with_reducible rfl
    simp only [Act.put, List.setIfInBounds_toArray, List.set_cons_succ, List.set_cons_zero]
    refine tk 2 (v := ?_) rfl (by kernel_rfl) (by rfl) ?_ (by assumption) ?_
    rotate_left
    · intro w' ⟨s0, s1, s2, s3, s4⟩; go_simp; first | done | with_reducible rfl
    simp only [Act.put, List.setIfInBounds_toArray, List.set_cons_succ, List.set_cons_zero]
    refine tk 3 (v := ?_) rfl (by kernel_rfl) (by rfl) ?_ (by assumption) ?_
    rotate_left
    · intro w' ⟨s0, s1, s2, s3, s4⟩; go_simp; first | done | with_reducible rfl
    simp only [Act.put, List.setIfInBounds_toArray, List.set_cons_succ, List.set_cons_zero]
    refine tk 4 (v := ?_) rfl (by kernel_rfl) (by rfl) ?_ (by assumption) ?_
    rotate_left
    · intro w' ⟨s0, s1, s2, s3, s4⟩; go_simp; first | done | with_reducible rfl
    simp only [Act.put, List.setIfInBounds_toArray, List.set_cons_succ, List.set_cons_zero]
    refine tk 5 (v := ?_) rfl (by kernel_rfl) (by rfl) ?_ (by assumption) ?_
    rotate_left
    · intro w' ⟨s0, s1, s2, s3, s4⟩; go_simp; first | done | with_reducible rfl
    simp only [Act.put, List.setIfInBounds_toArray, List.set_cons_succ, List.set_cons_zero]
    refine tk 6 (v := ?_) rfl (by kernel_rfl) (by rfl) ?_ (by assumption) ?_
    rotate_left
    · intro w' ⟨s0, s1, s2, s3, s4⟩; go_simp; first | done | with_reducible rfl
    simp only [Act.put, List.setIfInBounds_toArray, List.set_cons_succ, List.set_cons_zero]
    refine tk 7 (v := ?_) rfl (by kernel_rfl) (by rfl) ?_ (by assumption) ?_
    rotate_left
    · intro w' ⟨s0, s1, s2, s3, s4⟩; go_simp; first | done | with_reducible rfl
    simp only [Act.put, List.setIfInBounds_toArray, List.set_cons_succ, List.set_cons_zero]
    refine tk 8 (v := ?_) rfl (by kernel_rfl) (by rfl) ?_ (by assumption) ?_
    rotate_left
    · intro w' ⟨s0, s1, s2, s3, s4⟩; go_simp; first | done | with_reducible rfl
    simp only [Act.put, List.setIfInBounds_toArray, List.set_cons_succ, List.set_cons_zero]
    refine tk 9 (v := ?_) rfl (by kernel_rfl) (by rfl) ?_ (by assumption) ?_
    rotate_left
    · intro w' ⟨s0, s1, s2, s3, s4⟩; go_simp; first | done | with_reducible rfl
    simp only [Act.put, List.setIfInBounds_toArray, List.set_cons_succ, List.set_cons_zero]
    refine tk 10 (v := ?_) rfl (by kernel_rfl) (by rfl) ?_ (by assumption) ?_
    rotate_left
    · intro w' ⟨s0, s1, s2, s3, s4⟩; go_simp; first | done | with_reducible rfl
    simp only [Act.put, List.setIfInBounds_toArray, List.set_cons_succ, List.set_cons_zero]
    refine wpAnyH_ready (rs := [11]) (by kernel_rfl) (by simp) ?_
    refine AllReadyH.cons rfl (fun K hK => ?_) AllReadyH.nil
    go_simp
    refine (unhide HFIND _ (unhide HW1).drew).mono ?_
    rintro e wf ⟨rfl, hbf⟩
    have hbf : Below w1.heap.size w1 wf := (Below.refl w1.heap.size w1).drew.trans hbf
    have hSf : HeldE (E p) (d.L p).key wf := ⟨(hbf.cell (p := ⟨E p, 0, none⟩) hel1).trans hS0.1, (hbf.cell (p := ⟨E p, 1, none⟩) hel1).trans hS0.2.1, (hbf.cell (p := ⟨E p, 2, none⟩) hel1).trans hS0.2.2.1, (hbf.cell (p := ⟨E p, 3, none⟩) hel1).trans hS0.2.2.2.1, (hbf.cell (p := ⟨E p, 4, none⟩) hel1).trans hS0.2.2.2.2⟩
    refine hK.out _ _ hSf (fun _ => ?_)
    clear hK K hS0
    have hzf := hbf.size
    have HWf := hide ((unhide HW1).trans (hbf.mono (by omega)))
    clear hbf
    refine wpAnyH_ready (rs := [12]) (by kernel_rfl) (by simp) ?_
    refine AllReadyH.cons rfl (fun K hK => ?_) AllReadyH.nil
    go_simp
    refine (unhide HREM _ (unhide HWf)).mono ?_
    rintro e w2 ⟨⟨⟨uu, rfl⟩, S2, hM2⟩, hkx2⟩
    have hb2 := hkx2.bel
    have hbl := hkx2.blk (E p) (by omega) hEp2
    refine hK.out _ _ ⟨(World.cell?_of_block (a := ⟨E p, 0, none⟩) hbl).trans hSf.1, (World.cell?_of_block (a := ⟨E p, 1, none⟩) hbl).trans hSf.2.1, (World.cell?_of_block (a := ⟨E p, 2, none⟩) hbl).trans hSf.2.2.1, (World.cell?_of_block (a := ⟨E p, 3, none⟩) hbl).trans hSf.2.2.2.1, (World.cell?_of_block (a := ⟨E p, 4, none⟩) hbl).trans hSf.2.2.2.2⟩ (fun _ => ?_)
    clear hK K hSf hkx2 hbl
    refine wpAnyH_done (by kernel_rfl) ?_ _
    refine QN.normal ?_
    obtain ⟨⟨ff0, ff⟩, l2, e2, e2', m2, m3, b3⟩ := unhide HEND w2 r1 S2 _ ((unhide HWf).mono (by omega) |>.trans hb2) hM2 rfl rfl (unhide HXP) (unhide HG) rfl ⟨(unhide HS).n, (unhide HS).m, (unhide HS).x⟩
    have c5 := hM2.c5
    have f5 := hM2.fz 5
    have lb2 := hM2.lt
    have hne : E p ≠ bk := by omega
    have z0 := e2.k0
    have z1 := e2.k1
    have z2 := e2.k2
    have z3 := e2.k3
    have z4 := e2.k4
    have z5 := e2.v0
    have z6 := e2.v1
    have z7 := e2.v2
    have z8 := e2.v3
    have z9 := e2.v4
    have z10 := e2.tn
    have HSg : Hid (Small (goC hf d p)) := hide (by rw [← unhide HG]; exact ⟨(unhide HS).n, (unhide HS).m, (unhide HS).x⟩)
    obtain ⟨L1, L2, L3⟩ := unhide HLAST _ _ _ b3 m3 (unhide HSg)
    unfold pairZero at L1 L2 L3 b3
    have HL1 := hide L1
    have HL2 := hide L2
    have HL3 := hide L3
    have HB3 := hide b3
    clear hM2 hb2 e2 e2' m2 m3 b3 L1 L2 L3
    go_wp2_with fail
    by_cases hlo : looseK (goC hf d p)
    · have HLT := hide (tells_yes hlo)
      have HL2' := hide (fun W' hW' => unhide HL2 W' hW' hlo)
      clear hlo HL2 HL3
      refine (unhide HL1).mono ?_
      rintro e w5 ⟨rfl, hb5⟩
      rw [unhide HLT]
      have HB5 := hide hb5
      clear hb5
      go_wp2_with fail
      refine (unhide HL2' _ (unhide HB5)).mono ?_
      rintro e w6 ⟨⟨⟨uu6, rfl⟩, r06, R26, E6, S6, hM6⟩, hb6⟩
      have z5b := (unhide HB3).size
      have HB6 := hide ((unhide HB3).trans (((unhide HB5).mono (by simp; omega)).trans hb6))
      have HM6 := hide hM6
      clear hM6 hb6
      go_wp2
      go_end0
      exact ⟨⟨⟨_, rfl⟩, r06, _, R26, E6, S6, unhide HM6⟩, unhide HB6⟩
    · have HLT := hide (tells_no hlo)
      have HL3' := hide (fun W' hW' => unhide HL3 W' hW' hlo)
      clear hlo HL2 HL3
      refine (unhide HL1).mono ?_
      rintro e w5 ⟨rfl, hb5⟩
      rw [unhide HLT]
      have HB6 := hide ((unhide HB3).trans (hb5.mono (by simp; omega)))
      have HM6 := hide (unhide HL3' _ hb5)
      clear hb5 HL1
      go_wp2
      go_end0
      exact ⟨⟨⟨_, rfl⟩, _, _, _, _, _, unhide HM6⟩, unhide HB6⟩
end Go.Proofs.YtglcaejddckleaaDoor
namespace Go.Proofs.YtglcaejddckleaaDoor
open Go.RowKit
set_option linter.unusedVariables false
attribute [local go_sem] run_store_float run_equalIn_float

set_option maxRecDepth 100000 in
set_option maxHeartbeats 8000000 in
theorem put_any (T : World → Prop) (hTl : Lasts T) (hf : Vl → Nat) (K : Vl → Prop) (KL : KeyLaw K hf) (hHs : ∀ v, K v → HsI T v (hf v)) (bk : Nat) (hTb : ∀ w w', T w → Below bk w w' → T w') (r0 r1 : Value) (R2 : Nat) (E S : Nat → Nat) (d : Dc) (k v : Vl) (w : World) (hT : T w) (hM : BMut w bk r0 r1 R2 E S d) (hS : Small d) (hm4 : d.m ≤ 4000000)
    (hI : Inv K hf d) (hk : K k) (hkb : keyB k = true) (hv : v.ok = true) :
    Calls Tryd.prog 15 #[.pointer (some ⟨bk, 0, none⟩), V k.kind k.num k.flt k.str k.ref, V v.kind v.num v.flt v.str v.ref] w fun e w' => ((∃ u, e = .returned u) ∧ ∃ r0' r1' R2' E2 S', BMut w' bk r0' r1' R2' E2 S' (putD hf d k v)) ∧ Below bk w w' := by
  have hlt := hM.lt
  have hb0 : Below w.heap.size w ((w.alloc (.cells #[.int .i64 k.kind, .int .i64 k.num, .float .f64 k.flt, .string k.str, .int .i64 k.ref] 32)).alloc (.cells #[.int .i64 v.kind, .int .i64 v.num, .float .f64 v.flt, .string v.str, .int .i64 v.ref] 32)) := ((Below.refl _ _).alloc (Nat.le_refl _) _).alloc (by simp) _
  have HV0 : Hid (VBox ((w.alloc (.cells #[.int .i64 k.kind, .int .i64 k.num, .float .f64 k.flt, .string k.str, .int .i64 k.ref] 32)).alloc (.cells #[.int .i64 v.kind, .int .i64 v.num, .float .f64 v.flt, .string v.str, .int .i64 v.ref] 32)) w.heap.size k ∧ VBox ((w.alloc (.cells #[.int .i64 k.kind, .int .i64 k.num, .float .f64 k.flt, .string k.str, .int .i64 k.ref] 32)).alloc (.cells #[.int .i64 v.kind, .int .i64 v.num, .float .f64 v.flt, .string v.str, .int .i64 v.ref] 32)) (w.heap.size + 1) v) := hide ⟨⟨by simp; omega, by simp [go_sem], by simp [go_sem], by simp [go_sem], by simp [go_sem], by simp [go_sem]⟩, ⟨by simp, by simp [go_sem], by simp [go_sem], by simp [go_sem], by simp [go_sem], by simp [go_sem]⟩⟩
  have HB0 := hide hb0
  have FND : ∀ W, Below w.heap.size w W → Calls Tryd.prog 27 #[.pointer (some ⟨bk, 0, none⟩), V k.kind k.num k.flt k.str k.ref] W fun e w' => e = .returned (.pointer (placeP E (placeI d k (hf k)))) ∧ Below W.heap.size W w' := fun W hW => by
    obtain ⟨R0', R1', hB⟩ := (hM.below hW).book
    exact bfind_any T hTl bk R0' R1' R2 E S d k (hf k) (hHs k hk) W (hTl _ _ hT hW) hB hS hI.i0.d3 hI.i0.d4
  rcases hI.i0.place KL hk with ⟨i, h1, h2, h3, h4⟩ | ⟨h1, h2⟩
  · have hp : 0 ≤ placeI d k (hf k) := by omega
    have hi : (placeI d k (hf k)).toNat = i := by omega
    have hpp : placeP E (placeI d k (hf k)) = some ⟨E i, 0, none⟩ := by unfold placeP; rw [if_pos hp, hi]
    rw [hpp] at FND
    have HFND := hide FND
    have hEb := hM.eb i h1
    by_cases hv0 : v.kind = 0
    · have HRES : Hid (putD hf d k v = goD hf d i) := hide (by rw [putD_go hp hv0, hi])
      have HREM : Hid (∀ W, Below w.heap.size w W → Calls Tryd.prog 28 #[.pointer (some ⟨bk, 0, none⟩), .pointer (some ⟨E i, 0, none⟩)] W fun e w' => ((∃ u, e = .returned u) ∧ ∃ r0' r1' R2' E2 S', BMut w' bk r0' r1' R2' E2 S' (goD hf d i)) ∧ Below bk W w') := hide (fun W hW => remove_any T hTl hf K KL hHs bk hTb r0 r1 R2 E S d i W (hTl _ _ hT hW) (hM.below hW) hS hI h1 h2)
      have HV := hide hv0
      rw [unhide HRES]
      clear hM hT hS hI h2 h3 h4 hp hi hpp FND hb0 hv0
      go_enter Tryd.func15, Tryd.ntmps15
      go_wp2_with fail
      refine (unhide HFND _ (unhide HB0)).mono ?_
      rintro e w1 ⟨rfl, hb1⟩
      have vv := (unhide HV0).2.keep hb1.size (hb1.block _ (unhide HV0).2.lt)
      have v0 := vv.k0
      rw [unhide HV] at v0
      have lv := vv.lt
      have HB1 := hide ((unhide HB0).trans (hb1.mono (unhide HB0).size))
      clear hb1 vv
      go_wp2_with fail
      refine (unhide HREM _ (unhide HB1)).mono ?_
      rintro e w2 ⟨⟨⟨uu, rfl⟩, r0', r1', R2', E2, S', hM2⟩, hb2⟩
      have HM2 := hide hM2
      have HB2 := hide (((unhide HB1).mono (Nat.le_of_lt hlt)).trans hb2)
      clear hM2 hb2
      go_wp2
      go_end0
      exact ⟨⟨⟨_, rfl⟩, r0', r1', R2', E2, S', unhide HM2⟩, unhide HB2⟩
    · have HRES : Hid (putD hf d k v = setV d i v) := hide (by rw [putD_set hp hv0, hi])
      have hv0' : (v.kind != 0) = true := by simp [hv0]
      have HSET : Hid (∀ W, Below w.heap.size w W → ECell W (E i) (d.L i) i ∧ BMut (valSet W (E i) v) bk r0 r1 R2 E S (setV d i v)) := hide (fun W hW => by
        have he := (hM.below hW).ent i h1
        exact ⟨he, (hM.below hW).setE h1 valSet_size (fun b hb => valSet_other hb) (valSet_same he) (.inl rfl)⟩)
      rw [unhide HRES]
      clear hM hT hS hI h2 h3 h4 hp hi hpp FND hb0 hv0
      go_enter Tryd.func15, Tryd.ntmps15
      go_wp2_with fail
      refine (unhide HFND _ (unhide HB0)).mono ?_
      rintro e w1 ⟨rfl, hb1⟩
      have vv := (unhide HV0).2.keep hb1.size (hb1.block _ (unhide HV0).2.lt)
      have v0 := vv.k0
      have v1 := vv.k1
      have v2 := vv.k2
      have v3 := vv.k3
      have v4 := vv.k4
      have lv := vv.lt
      have hB1 := (unhide HB0).trans (hb1.mono (unhide HB0).size)
      obtain ⟨he, hN⟩ := unhide HSET _ hB1
      have hff : ∀ q, w1.frozen? ⟨E i, q, none⟩ = false := fun q => by simp [World.frozen?, he.ob]
      have z5 := he.v0
      have z6 := he.v1
      have z7 := he.v2
      have z8 := he.v3
      have z9 := he.v4
      have hel := he.lt
      have HB2 : Hid (Below bk w (valSet w1 (E i) v)) := hide ((hB1.mono (Nat.le_of_lt hlt)).trans (valSet_below (bk := bk) (w := w1) (b := E i) (v := v) (Nat.le_of_lt hEb)))
      have HN := hide hN
      clear hb1 vv hB1 he hN HSET HV0 HFND HB0
      go_wp2
      go_end0
      exact ⟨⟨⟨_, rfl⟩, _, _, _, _, _, unhide HN⟩, unhide HB2⟩
  · have hp : ¬ 0 ≤ placeI d k (hf k) := by omega
    have hpp : placeP E (placeI d k (hf k)) = none := by unfold placeP; rw [if_neg hp]
    rw [hpp] at FND
    have HFND := hide FND
    have hcnt := hI.i0.log.cnt
    have hle := hI.i0.le
    have htn := hI.i0.turns
    by_cases hc : v.kind ≠ 0 ∧ d.live < 500 ∧ d.turns < 1000000000000
    · have HRES : Hid (putD hf d k v = comeD hf d k v) := hide (putD_come hp hc)
      obtain ⟨hc1, hc2, hc3⟩ := hc
      have hc1' : (v.kind != 0) = true := by simp [hc1]
      have hc2' : decide (d.live < 500) = true := by simp [hc2]
      have hc3' : decide (d.turns < 1000000000000) = true := by simp [hc3]
      have HADD : Hid (∀ W, Below w.heap.size w W → Calls Tryd.prog 29 #[.pointer (some ⟨bk, 0, none⟩), V k.kind k.num k.flt k.str k.ref, V v.kind v.num v.flt v.str v.ref] W fun e w' => ((∃ u, e = .returned u) ∧ ∃ r0' r1' R2' E2 S', BMut w' bk r0' r1' R2' E2 S' (comeD hf d k v)) ∧ Below bk W w') := hide (fun W hW => add_any T hTl hf K KL hHs bk hTb r0 r1 R2 E S d k v W (hTl _ _ hT hW) (hM.below hW) hS hm4 hI hk hkb hv hc1 h1 hc2 hc3)
      have HM := hide hM
      rw [unhide HRES]
      clear hM hT hS hI h1 h2 hp hpp FND hb0 hc1 hc2 hc3
      go_enter Tryd.func15, Tryd.ntmps15
      go_wp2_with fail
      refine (unhide HFND _ (unhide HB0)).mono ?_
      rintro e w1 ⟨rfl, hb1⟩
      have hB1 := (unhide HB0).trans (hb1.mono (unhide HB0).size)
      have vv := (unhide HV0).2.keep hb1.size (hb1.block _ (unhide HV0).2.lt)
      have vk := (unhide HV0).1.keep hb1.size (hb1.block _ (unhide HV0).1.lt)
      have v0 := vv.k0
      have v1 := vv.k1
      have v2 := vv.k2
      have v3 := vv.k3
      have v4 := vv.k4
      have lv := vv.lt
      have y0 := vk.k0
      have y1 := vk.k1
      have y2 := vk.k2
      have y3 := vk.k3
      have y4 := vk.k4
      have lk := vk.lt
      have c5 := ((unhide HM).below hB1).c5
      have c6 := ((unhide HM).below hB1).c6
      have lb := ((unhide HM).below hB1).lt
      have HB1 := hide hB1
      clear hb1 vv vk hB1
      go_wp2_with fail
      refine (unhide HADD _ (unhide HB1)).mono ?_
      rintro e w2 ⟨⟨⟨uu, rfl⟩, r0', r1', R2', E2, S', hM2⟩, hb2⟩
      have HM2 := hide hM2
      have HB2 := hide (((unhide HB1).mono (Nat.le_of_lt hlt)).trans hb2)
      clear hM2 hb2
      go_wp2
      go_end0
      exact ⟨⟨⟨_, rfl⟩, r0', r1', R2', E2, S', unhide HM2⟩, unhide HB2⟩
    · have HRES : Hid (putD hf d k v = d) := hide (putD_not hp hc)
      have HM := hide hM
      rw [unhide HRES]
      have hcc : v.kind = 0 ∨ (v.kind ≠ 0 ∧ ¬ d.live < 500) ∨ (v.kind ≠ 0 ∧ d.live < 500 ∧ ¬ d.turns < 1000000000000) := by
        by_cases e1 : v.kind = 0
        · exact .inl e1
        · by_cases e2 : d.live < 500
          · exact .inr (.inr ⟨e1, e2, fun e3 => hc ⟨e1, e2, e3⟩⟩)
          · exact .inr (.inl ⟨e1, e2⟩)
      clear hM hT hS hI h1 h2 hp hpp FND hb0 hc
      go_enter Tryd.func15, Tryd.ntmps15
      go_wp2_with fail
      refine (unhide HFND _ (unhide HB0)).mono ?_
      rintro e w1 ⟨rfl, hb1⟩
      have hB1 := (unhide HB0).trans (hb1.mono (unhide HB0).size)
      have vv := (unhide HV0).2.keep hb1.size (hb1.block _ (unhide HV0).2.lt)
      have v0 := vv.k0
      have lv := vv.lt
      have hM1 := (unhide HM).below hB1
      have c5 := hM1.c5
      have c6 := hM1.c6
      have lb := hM1.lt
      have HM1 := hide hM1
      have HB1 := hide (hB1.mono (Nat.le_of_lt hlt))
      clear hb1 vv hB1 hM1
      rcases hcc with e1 | ⟨e1, e2⟩ | ⟨e1, e2, e3⟩
      · rw [e1] at v0
        clear e1
        go_wp2
        go_end0
        exact ⟨⟨⟨_, rfl⟩, _, _, _, _, _, unhide HM1⟩, unhide HB1⟩
      · have e1' : (v.kind != 0) = true := by simp [e1]
        have e2' : decide (d.live < 500) = false := by simp [e2]
        clear e1 e2
        go_wp2
        go_end0
        exact ⟨⟨⟨_, rfl⟩, _, _, _, _, _, unhide HM1⟩, unhide HB1⟩
      · have e1' : (v.kind != 0) = true := by simp [e1]
        have e2' : decide (d.live < 500) = true := by simp [e2]
        have e3' : decide (d.turns < 1000000000000) = false := by simp [e3]
        clear e1 e2 e3
        go_wp2
        go_end0
        exact ⟨⟨⟨_, rfl⟩, _, _, _, _, _, unhide HM1⟩, unhide HB1⟩
end Go.Proofs.YtglcaejddckleaaDoor
namespace Go.Proofs.YtglcaejddckleaaDoor
open Go.RowKit
set_option linter.unusedVariables false

/-- The blocks of three rows. -/
def Own3 (v0 v1 v2 : Value) (b : Nat) : Prop := v0.ownBlock = some b ∨ v1.ownBlock = some b ∨ v2.ownBlock = some b

/-- A dict whose rows are its own, behind a pointer. -/
structure DMut (w : World) (c o B : Nat) (v0 v1 v2 : Value) (d : Dc) : Prop where
  lt : c < w.heap.size
  c0 : w.cell? ⟨c, o, none⟩ = some v0
  c1 : w.cell? ⟨c, o + 1, none⟩ = some v1
  c2 : w.cell? ⟨c, o + 2, none⟩ = some v2
  c3 : w.cell? ⟨c, o + 3, none⟩ = some (.int .i64 d.used)
  c4 : w.cell? ⟨c, o + 4, none⟩ = some (.int .i64 d.live)
  c5 : w.cell? ⟨c, o + 5, none⟩ = some (.int .i64 d.turns)
  fz : ∀ q, w.frozen? ⟨c, q, none⟩ = false
  log : POwn w B v0 d.n d.L
  ints : IOwn w B v1 d.m d.I
  index : IOwn w B v2 d.x d.X
  ap : ∀ q, v1.ownBlock = some q → v2.ownBlock ≠ some q
  nc : ¬ Own3 v0 v1 v2 c
  base : B ≤ w.heap.size

/-- What a writing through the pointer leaves as it is. -/
structure Stp (c o : Nat) (v0 v1 v2 : Value) (w : World) (u0 u1 u2 : Value) (w' : World) : Prop where
  os : w'.os = w.os
  tape : w'.tape = w.tape
  output : w'.output = w.output
  size : w.heap.size ≤ w'.heap.size
  block : ∀ b, b < w.heap.size → b ≠ c → ¬ Own3 v0 v1 v2 b → w'.heap[b]? = w.heap[b]?
  cell : ∀ q, (q < o ∨ o + 6 ≤ q) → w'.cell? ⟨c, q, none⟩ = w.cell? ⟨c, q, none⟩
  sub : ∀ b, Own3 u0 u1 u2 b → Own3 v0 v1 v2 b ∨ w.heap.size ≤ b
theorem Stp.refl (c o : Nat) (v0 v1 v2 : Value) (w : World) : Stp c o v0 v1 v2 w v0 v1 v2 w := ⟨rfl, rfl, rfl, Nat.le_refl _, fun _ _ _ _ => rfl, fun _ _ => rfl, fun _ h => .inl h⟩
theorem Stp.trans {c o : Nat} {v0 v1 v2 u0 u1 u2 t0 t1 t2 : Value} {w w' w'' : World} (h : Stp c o v0 v1 v2 w u0 u1 u2 w') (k : Stp c o u0 u1 u2 w' t0 t1 t2 w'') : Stp c o v0 v1 v2 w t0 t1 t2 w'' :=
  ⟨k.os.trans h.os, k.tape.trans h.tape, k.output.trans h.output, Nat.le_trans h.size k.size, fun b hb hc ho => (k.block b (Nat.lt_of_lt_of_le hb h.size) hc (fun e => (h.sub b e).elim ho (fun e' => absurd hb (by omega)))).trans (h.block b hb hc ho), fun q hq => (k.cell q hq).trans (h.cell q hq), fun b hb => (k.sub b hb).elim (h.sub b) (fun e => .inr (Nat.le_trans h.size e))⟩
theorem Stp.of_below {c o : Nat} {v0 v1 v2 : Value} {w w' : World} (h : Below w.heap.size w w') (hc : c < w.heap.size) : Stp c o v0 v1 v2 w v0 v1 v2 w' :=
  ⟨h.os, h.tape, h.output, h.size, fun b hb _ _ => h.block b hb, fun q _ => h.cell (p := ⟨c, q, none⟩) hc, fun _ e => .inl e⟩
theorem Stp.below {c o : Nat} {v0 v1 v2 u0 u1 u2 : Value} {w w' : World} (h : Stp c o v0 v1 v2 w u0 u1 u2 w') {B : Nat} (hc : B ≤ c) (hb : B ≤ w.heap.size) (ho : ∀ b, Own3 v0 v1 v2 b → B ≤ b) : Below B w w' :=
  ⟨h.os, h.tape, h.output, h.size, fun k hk => h.block k (by omega) (by omega) (fun e => by have := ho k e; omega)⟩
theorem DMut.own3 {w : World} {c o B : Nat} {v0 v1 v2 : Value} {d : Dc} (h : DMut w c o B v0 v1 v2 d) {b : Nat} (e : Own3 v0 v1 v2 b) : B ≤ b ∧ b < w.heap.size := by
  rcases e with e | e | e
  · exact h.log.lt b e
  · exact h.ints.lt b e
  · exact h.index.lt b e
theorem DMut.below {w w' : World} {c o B : Nat} {v0 v1 v2 : Value} {d : Dc} (h : DMut w c o B v0 v1 v2 d) (hb : Below w.heap.size w w') : DMut w' c o B v0 v1 v2 d := by
  have e : ∀ q, w'.cell? ⟨c, q, none⟩ = w.cell? ⟨c, q, none⟩ := fun q => hb.cell (p := ⟨c, q, none⟩) h.lt
  exact ⟨Nat.lt_of_lt_of_le h.lt hb.size, (e _).trans h.c0, (e _).trans h.c1, (e _).trans h.c2, (e _).trans h.c3, (e _).trans h.c4, (e _).trans h.c5, fun q => (hb.frozen (p := ⟨c, q, none⟩) h.lt).trans (h.fz q), own_block h.log hb.size (fun q _ hq => hb.block q hq), own_block h.ints hb.size (fun q _ hq => hb.block q hq), own_block h.index hb.size (fun q _ hq => hb.block q hq), h.ap, h.nc, Nat.le_trans h.base hb.size⟩
theorem DMut.ptr {w : World} {c o B : Nat} {v0 v1 v2 : Value} {d : Dc} (h : DMut w c o B v0 v1 v2 d) : ∃ la lc ia ic xa xc, v0 = .slice la d.n lc ∧ v1 = .slice ia d.m ic ∧ v2 = .slice xa d.x xc ∧ DPtr w c o la lc ia ic xa xc d := by
  obtain ⟨la, lc, e0, hL⟩ := h.log.at
  obtain ⟨ia, ic, e1, hI⟩ := h.ints.at
  obtain ⟨xa, xc, e2, hX⟩ := h.index.at
  subst e0 e1 e2
  exact ⟨la, lc, ia, ic, xa, xc, rfl, rfl, rfl, h.lt, h.c0, h.c1, h.c2, h.c3, h.c4, h.c5, hL, hI, hX⟩
theorem DMut.of_same {w : World} {c o B : Nat} {v0 v1 v2 : Value} {d e : Dc} (h : DMut w c o B v0 v1 v2 d) (n : e.n = d.n) (L : ∀ i, i < d.n → e.L i = d.L i) (m : e.m = d.m) (I : ∀ i, i < d.m → e.I i = d.I i) (x : e.x = d.x) (X : ∀ i, i < d.x → e.X i = d.X i) (hu : e.used = d.used) (hl : e.live = d.live) (ht : e.turns = d.turns) : DMut w c o B v0 v1 v2 e := by
  have hp : ∀ (f g : Nat → Pr) (n : Nat), (∀ i, i < n → f i = g i) → pL f n = pL g n := by
    intro f g n hh
    induction n with
    | zero => rfl
    | succ n ih => show pL f n ++ prL (f n) = pL g n ++ prL (g n); rw [ih (fun j hj => hh j (by omega)), hh n (by omega)]
  have hi : ∀ (f g : Nat → Int) (n : Nat), (∀ i, i < n → f i = g i) → iL f n = iL g n := by
    intro f g n hh
    induction n with
    | zero => rfl
    | succ n ih => show iL f n ++ [_] = iL g n ++ [_]; rw [ih (fun j hj => hh j (by omega)), hh n (by omega)]
  refine ⟨h.lt, h.c0, h.c1, h.c2, by rw [hu]; exact h.c3, by rw [hl]; exact h.c4, by rw [ht]; exact h.c5, h.fz, ?_, ?_, ?_, h.ap, h.nc, h.base⟩
  · show w.ownsRow _ _ _ _ e.n (pL e.L e.n); rw [n, hp e.L d.L d.n L]; exact h.log
  · show w.ownsRow _ _ _ _ e.m (iL e.I e.m); rw [m, hi e.I d.I d.m I]; exact h.ints
  · show w.ownsRow _ _ _ _ e.x (iL e.X e.x); rw [x, hi e.X d.X d.x X]; exact h.index

theorem IOwn.form {w : World} {B n : Nat} {v : Value} {f : Nat → Int} (h : IOwn w B v n f) (hn : 0 < n) : ∃ g cp, v = .slice (some ⟨g, 0, none⟩) n cp ∧ B ≤ g ∧ g < w.heap.size ∧ n ≤ cp ∧ (∀ i, i < n → w.cell? ⟨g, i, none⟩ = some (.int .i64 (f i))) ∧ ∀ q, w.frozen? ⟨g, q, none⟩ = false := by
  have h' := h
  obtain ⟨hl, ⟨hv, h0⟩ | ⟨g, cap, cur, hv, hb, hblk, h1, h2, h3, h4⟩⟩ := h'
  · omega
  · subst hv
    exact ⟨g, cap, rfl, hb, (h.lt g rfl).2, h1, fun i hi => by rw [World.ownsRow.cellAt h _ (by omega), iL_get hi], fun q => World.ownsRow.frozenAt h q⟩
theorem POwn.form {w : World} {B n : Nat} {v : Value} {f : Nat → Pr} (h : POwn w B v n f) (hn : 0 < n) : ∃ g cp, v = .slice (some ⟨g, 0, none⟩) n cp ∧ B ≤ g ∧ g < w.heap.size ∧ n ≤ cp ∧ (∀ i, i < n → PCell w g (i * 11) (f i)) ∧ ∀ q, w.frozen? ⟨g, q, none⟩ = false := by
  have h' := h
  obtain ⟨hl, ⟨hv, h0⟩ | ⟨g, cap, cur, hv, hb, hblk, h1, h2, h3, h4⟩⟩ := h'
  · omega
  · subst hv
    refine ⟨g, cap, rfl, hb, (h.lt g rfl).2, h1, fun i hi => PCell.of fun j u hu => ?_, fun q => World.ownsRow.frozenAt h q⟩
    have hj : j < 11 := by
      have := (List.getElem?_eq_some_iff.1 hu).1
      simpa [prL] using this
    rw [World.ownsRow.cellAt h _ (by omega), pL_get hi hj, hu]
theorem iL_set (f : Nat → Int) (n i : Nat) (x : Int) (hi : i < n) : (iL f n).set i (.int .i64 x) = iL (upd f i x) n := by
  apply List.ext_getElem?
  intro q
  rw [List.getElem?_set]
  by_cases hq : q < n
  · by_cases e : i = q
    · subst e; rw [if_pos rfl, if_pos (by rw [iL_length]; omega), iL_get hq, upd_same]
    · rw [if_neg e, iL_get hq, iL_get hq, upd_other _ _ (fun e' => e e'.symm)]
  · rw [if_neg (by omega), List.getElem?_eq_none (by rw [iL_length]; omega), List.getElem?_eq_none (by rw [iL_length]; omega)]
theorem IOwn.set {w : World} {B g n cp : Nat} {f : Nat → Int} (h : IOwn w B (.slice (some ⟨g, 0, none⟩) n cp) n f) {i : Nat} (hi : i < n) (x : Int) : IOwn (w.setCell ⟨g, i, none⟩ (.int .i64 x)) B (.slice (some ⟨g, 0, none⟩) n cp) n (upd f i x) := by
  have h1 := (World.ownsRow.stored h i (.int .i64 x)).1
  rw [iL_set f n i x hi] at h1
  exact h1
theorem own_setOther {w : World} {B e size n : Nat} {v : Value} {xs : List Value} (h : w.ownsRow B e size v n xs) {a : Addr} (u : Value) (hne : v.ownBlock ≠ some a.block) : (w.setCell a u).ownsRow B e size v n xs :=
  World.ownsRow.kept h (grown_setCell w a u) (.inr hne)
/-- A row of pairs is none of ints. -/
theorem own_apart {w : World} {B B' n n' : Nat} {v v' : Value} {f : Nat → Pr} {f' : Nat → Int} (h : POwn w B v n f) (h' : IOwn w B' v' n' f') {q : Nat} (e : v.ownBlock = some q) : v'.ownBlock ≠ some q := by
  intro e'
  obtain ⟨_, ⟨rfl, _⟩ | ⟨g, cap, cur, rfl, hb, hblk, _⟩⟩ := h
  · cases e
  · obtain ⟨_, ⟨rfl, _⟩ | ⟨g', cap', cur', rfl, hb', hblk', _⟩⟩ := h'
    · cases e'
    · simp [Value.ownBlock] at e e'
      subst e e'
      rw [hblk] at hblk'
      cases hblk'

/-- A field of the dict is written. -/
theorem cell_set_same {w : World} {b o : Nat} {v u : Value} (h : w.cell? ⟨b, o, none⟩ = some u) : (w.setCell ⟨b, o, none⟩ v).cell? ⟨b, o, none⟩ = some v := World.cell?_setCell_same' _ _ _ (by rw [h]; rfl)
theorem stp_field {c o : Nat} {v0 v1 v2 u0 u1 u2 : Value} {w : World} {q : Nat} (u : Value) (hq : o ≤ q ∧ q < o + 6) (hs : ∀ b, Own3 u0 u1 u2 b → Own3 v0 v1 v2 b ∨ w.heap.size ≤ b) : Stp c o v0 v1 v2 w u0 u1 u2 (w.setCell ⟨c, q, none⟩ u) :=
  ⟨rfl, rfl, rfl, by simp, fun b _ hc _ => Deep.blk_setCell_other _ _ _ _ (by exact hc), fun p hp => cell_set_other (by omega), hs⟩
theorem stp_row {c o : Nat} {v0 v1 v2 : Value} {w : World} {g q : Nat} (u : Value) (hg : Own3 v0 v1 v2 g) (hc : g ≠ c) : Stp c o v0 v1 v2 w v0 v1 v2 (w.setCell ⟨g, q, none⟩ u) :=
  ⟨rfl, rfl, rfl, by simp, fun b _ _ ho => Deep.blk_setCell_other _ _ _ _ (fun e => ho (by have e : b = g := e; rw [e]; exact hg)), fun p _ => cell_set_block hc, fun b e => .inl e⟩
section
variable {w : World} {c o B : Nat} {v0 v1 v2 : Value} {d : Dc}
theorem DMut.fld (h : DMut w c o B v0 v1 v2 d) {q : Nat} {u : Value} {u0 u1 u2 : Value} {e : Dc}
    (g0 : (w.setCell ⟨c, q, none⟩ u).cell? ⟨c, o, none⟩ = some u0) (g1 : (w.setCell ⟨c, q, none⟩ u).cell? ⟨c, o + 1, none⟩ = some u1) (g2 : (w.setCell ⟨c, q, none⟩ u).cell? ⟨c, o + 2, none⟩ = some u2)
    (g3 : (w.setCell ⟨c, q, none⟩ u).cell? ⟨c, o + 3, none⟩ = some (.int .i64 e.used)) (g4 : (w.setCell ⟨c, q, none⟩ u).cell? ⟨c, o + 4, none⟩ = some (.int .i64 e.live)) (g5 : (w.setCell ⟨c, q, none⟩ u).cell? ⟨c, o + 5, none⟩ = some (.int .i64 e.turns))
    (l : POwn w B u0 e.n e.L) (i : IOwn w B u1 e.m e.I) (x : IOwn w B u2 e.x e.X) (ap : ∀ q, u1.ownBlock = some q → u2.ownBlock ≠ some q) (nc : ¬ Own3 u0 u1 u2 c) : DMut (w.setCell ⟨c, q, none⟩ u) c o B u0 u1 u2 e :=
  ⟨by simpa using h.lt, g0, g1, g2, g3, g4, g5, fun p => by rw [World.frozen?_setCell]; exact h.fz p, own_setOther l _ (fun e => nc (.inl e)), own_setOther i _ (fun e => nc (.inr (.inl e))), own_setOther x _ (fun e => nc (.inr (.inr e))), ap, nc, by simpa using h.base⟩
theorem DMut.setLog (h : DMut w c o B v0 v1 v2 d) {u : Value} {n : Nat} {L : Nat → Pr} (l : POwn w B u n L) (nc : u.ownBlock ≠ some c) : DMut (w.setCell ⟨c, o, none⟩ u) c o B u v1 v2 { d with n := n, L := L } :=
  h.fld (cell_set_same h.c0) ((cell_set_other (by omega)).trans h.c1) ((cell_set_other (by omega)).trans h.c2) ((cell_set_other (by omega)).trans h.c3) ((cell_set_other (by omega)).trans h.c4) ((cell_set_other (by omega)).trans h.c5) l h.ints h.index h.ap (fun e => e.elim nc (fun e => h.nc (.inr e)))
theorem DMut.setInts (h : DMut w c o B v0 v1 v2 d) {u : Value} {m : Nat} {I : Nat → Int} (l : IOwn w B u m I) (nc : u.ownBlock ≠ some c) (ap : ∀ q, u.ownBlock = some q → v2.ownBlock ≠ some q) : DMut (w.setCell ⟨c, o + 1, none⟩ u) c o B v0 u v2 { d with m := m, I := I } :=
  h.fld ((cell_set_other (by omega)).trans h.c0) (cell_set_same h.c1) ((cell_set_other (by omega)).trans h.c2) ((cell_set_other (by omega)).trans h.c3) ((cell_set_other (by omega)).trans h.c4) ((cell_set_other (by omega)).trans h.c5) h.log l h.index ap (fun e => e.elim (fun e => h.nc (.inl e)) (fun e => e.elim nc (fun e => h.nc (.inr (.inr e)))))
theorem DMut.setIndex (h : DMut w c o B v0 v1 v2 d) {u : Value} {x : Nat} {X : Nat → Int} (l : IOwn w B u x X) (nc : u.ownBlock ≠ some c) (ap : ∀ q, v1.ownBlock = some q → u.ownBlock ≠ some q) : DMut (w.setCell ⟨c, o + 2, none⟩ u) c o B v0 v1 u { d with x := x, X := X } :=
  h.fld ((cell_set_other (by omega)).trans h.c0) ((cell_set_other (by omega)).trans h.c1) (cell_set_same h.c2) ((cell_set_other (by omega)).trans h.c3) ((cell_set_other (by omega)).trans h.c4) ((cell_set_other (by omega)).trans h.c5) h.log h.ints l ap (fun e => e.elim (fun e => h.nc (.inl e)) (fun e => e.elim (fun e => h.nc (.inr (.inl e))) nc))
theorem DMut.setUsed (h : DMut w c o B v0 v1 v2 d) (u : Int) : DMut (w.setCell ⟨c, o + 3, none⟩ (.int .i64 u)) c o B v0 v1 v2 { d with used := u } :=
  h.fld ((cell_set_other (by omega)).trans h.c0) ((cell_set_other (by omega)).trans h.c1) ((cell_set_other (by omega)).trans h.c2) (cell_set_same h.c3) ((cell_set_other (by omega)).trans h.c4) ((cell_set_other (by omega)).trans h.c5) h.log h.ints h.index h.ap h.nc
theorem DMut.setLive (h : DMut w c o B v0 v1 v2 d) (u : Int) : DMut (w.setCell ⟨c, o + 4, none⟩ (.int .i64 u)) c o B v0 v1 v2 { d with live := u } :=
  h.fld ((cell_set_other (by omega)).trans h.c0) ((cell_set_other (by omega)).trans h.c1) ((cell_set_other (by omega)).trans h.c2) ((cell_set_other (by omega)).trans h.c3) (cell_set_same h.c4) ((cell_set_other (by omega)).trans h.c5) h.log h.ints h.index h.ap h.nc
theorem DMut.setTurns (h : DMut w c o B v0 v1 v2 d) (u : Int) : DMut (w.setCell ⟨c, o + 5, none⟩ (.int .i64 u)) c o B v0 v1 v2 { d with turns := u } :=
  h.fld ((cell_set_other (by omega)).trans h.c0) ((cell_set_other (by omega)).trans h.c1) ((cell_set_other (by omega)).trans h.c2) ((cell_set_other (by omega)).trans h.c3) ((cell_set_other (by omega)).trans h.c4) (cell_set_same h.c5) h.log h.ints h.index h.ap h.nc
theorem DMut.rowc (h : DMut w c o B v0 v1 v2 d) {g q : Nat} {u : Value} (hg : Own3 v0 v1 v2 g) {e : Dc} (hu : e.used = d.used) (hl : e.live = d.live) (ht : e.turns = d.turns)
    (l : POwn (w.setCell ⟨g, q, none⟩ u) B v0 e.n e.L) (i : IOwn (w.setCell ⟨g, q, none⟩ u) B v1 e.m e.I) (x : IOwn (w.setCell ⟨g, q, none⟩ u) B v2 e.x e.X) : DMut (w.setCell ⟨g, q, none⟩ u) c o B v0 v1 v2 e := by
  have hc : g ≠ c := fun e => h.nc (e ▸ hg)
  exact ⟨by simpa using h.lt, (cell_set_block hc).trans h.c0, (cell_set_block hc).trans h.c1, (cell_set_block hc).trans h.c2, by rw [hu]; exact (cell_set_block hc).trans h.c3, by rw [hl]; exact (cell_set_block hc).trans h.c4, by rw [ht]; exact (cell_set_block hc).trans h.c5, fun p => by rw [World.frozen?_setCell]; exact h.fz p, l, i, x, h.ap, h.nc, by simpa using h.base⟩
end
/-- A slot of the index is written. -/
theorem DMut.putX {w : World} {c o B g cp : Nat} {v0 v1 : Value} {d : Dc} (h : DMut w c o B v0 v1 (.slice (some ⟨g, 0, none⟩) d.x cp) d) {i : Nat} (hi : i < d.x) (x : Int) : DMut (w.setCell ⟨g, i, none⟩ (.int .i64 x)) c o B v0 v1 (.slice (some ⟨g, 0, none⟩) d.x cp) { d with X := upd d.X i x } :=
  h.rowc (.inr (.inr rfl)) rfl rfl rfl (own_setOther h.log _ (fun e => own_apart h.log h.index e rfl)) (own_setOther h.ints _ (fun e => h.ap _ e rfl)) (h.index.set hi x)
/-- An int's place is written. -/
theorem DMut.putI {w : World} {c o B g cp : Nat} {v0 v2 : Value} {d : Dc} (h : DMut w c o B v0 (.slice (some ⟨g, 0, none⟩) d.m cp) v2 d) {i : Nat} (hi : i < d.m) (x : Int) : DMut (w.setCell ⟨g, i, none⟩ (.int .i64 x)) c o B v0 (.slice (some ⟨g, 0, none⟩) d.m cp) v2 { d with I := upd d.I i x } :=
  h.rowc (.inr (.inl rfl)) rfl rfl rfl (own_setOther h.log _ (fun e => own_apart h.log h.ints e rfl)) (h.ints.set hi x) (own_setOther h.index _ (fun e => h.ap _ rfl e))
theorem stp_new {c o : Nat} {v0 v1 v2 u0 u1 u2 : Value} {w : World} {q : Nat} (ob : Obj) (u : Value) (hc : c < w.heap.size) (hq : o ≤ q ∧ q < o + 6) (hs : ∀ b, Own3 u0 u1 u2 b → Own3 v0 v1 v2 b ∨ w.heap.size ≤ b) : Stp c o v0 v1 v2 w u0 u1 u2 ((w.alloc ob).setCell ⟨c, q, none⟩ u) :=
  ⟨rfl, rfl, rfl, by simp, fun b hb hc _ => (Deep.blk_setCell_other _ _ _ _ (by exact hc)).trans (Deep.blk_alloc_lt _ _ _ hb), fun p hp => (cell_set_other (by omega)).trans (World.cell?_alloc_lt _ _ _ (by exact hc)), hs⟩
/-- Behind an append to one of the rows. -/
theorem stp_grown {c o : Nat} {v0 v1 v2 u0 u1 u2 : Value} {w w3 : World} {q : Nat} {row : Option Nat} (u : Value) (hg : w.grownBy w3 row) (hr : ∀ b, row = some b → Own3 v0 v1 v2 b ∨ w.heap.size ≤ b) (hc : c < w.heap.size) (hn : row ≠ some c) (hq : o ≤ q ∧ q < o + 6) (hs : ∀ b, Own3 u0 u1 u2 b → Own3 v0 v1 v2 b ∨ w.heap.size ≤ b) : Stp c o v0 v1 v2 w u0 u1 u2 (w3.setCell ⟨c, q, none⟩ u) :=
  ⟨hg.os, hg.tape, hg.output, by simpa using hg.size, fun b hb hc ho => (Deep.blk_setCell_other _ _ _ _ (by exact hc)).trans (hg.block b hb (fun e => (hr b e.symm).elim ho (fun e' => by omega))), fun p hp => (cell_set_other (by omega)).trans (World.cell?_of_block (hg.block c hc (fun e => hn e.symm))), hs⟩
theorem iL_zero (n : Nat) : (madeCells #[Value.int .i64 0] n).toList = iL (fun _ => 0) n := by
  rw [toList_madeCells_one]
  induction n with
  | zero => rfl
  | succ n ih => rw [List.replicate_succ']; show _ = iL (fun _ => 0) n ++ [.int .i64 0]; rw [← ih]
theorem IOwn.made (w : World) (B n : Nat) (hb : B ≤ w.heap.size) (hn : n ≤ 4194304) : IOwn (w.alloc (.cells (madeCells #[Value.int .i64 0] n) 3)) B (.slice (some ⟨w.heap.size, 0, none⟩) n n) n (fun _ => 0) := by
  have h := World.ownsRow_lit (base := B) (e := 3) (size := 1) w (madeCells #[Value.int .i64 0] n) n hb (by unfold maxLen; omega) (by rw [size_madeCells]; omega)
  rw [iL_zero] at h
  exact h
theorem IOwn.cut {w : World} {B g m cp : Nat} {I : Nat → Int} (h : IOwn w B (.slice (some ⟨g, 0, none⟩) m cp) m I) {n : Nat} (hn : n ≤ m) : IOwn w B (.slice (some ⟨g, 0, none⟩) n cp) n I := by
  obtain ⟨hl, ⟨hv, h0⟩ | ⟨g', cap, cur, hv, hb, hblk, h1, h2, h3, h4⟩⟩ := h
  · cases hv
  · cases hv
    refine ⟨by rw [iL_length]; omega, .inr ⟨g, cp, cur, rfl, hb, hblk, by omega, h2, h3, ?_⟩⟩
    have e : ∀ j, iL I (n + j) = iL I n ++ (iL I (n + j)).drop n := by
      intro j
      have hp : iL I n <+: iL I (n + j) := by
        induction j with
        | zero => exact List.prefix_refl _
        | succ j ih => exact ih.trans (List.prefix_append _ _)
      obtain ⟨t, ht⟩ := hp
      rw [← ht]
      congr 1
      rw [List.drop_append_of_le_length (by rw [iL_length]; omega), List.drop_of_length_le (by rw [iL_length]; omega)]
      rfl
    have e' := e (m - n)
    rw [show n + (m - n) = m by omega] at e'
    have : cur.toList.take (n * 1) = (cur.toList.take (m * 1)).take n := by rw [List.take_take]; congr 1; omega
    rw [this, h4, e', List.take_append_of_le_length (by rw [iL_length]; omega), List.take_of_length_le (by rw [iL_length]; omega)]
end Go.Proofs.YtglcaejddckleaaDoor
namespace Go.Proofs.YtglcaejddckleaaDoor
open Go.RowKit
set_option linter.unusedVariables false
attribute [local go_sem] run_store_float run_equalIn_float

theorem back_mod {x a t : Nat} (ha : a < x) (ht : t < x) : ((a + t) % x + x - a) % x = t := by
  by_cases h : a + t < x
  · rw [Nat.mod_eq_of_lt h, show a + t + x - a = t + x by omega, Nat.add_mod_right, Nat.mod_eq_of_lt ht]
  · have e : (a + t) % x = a + t - x := by rw [Nat.mod_eq_sub_mod (by omega), Nat.mod_eq_of_lt (by omega)]
    rw [e, show a + t - x + x - a = t by omega, Nat.mod_eq_of_lt ht]
theorem next_mod {x a t : Nat} (hx : 0 < x) : ((a + t) % x + 1) % x = (a + (t + 1)) % x := by
  rw [Nat.mod_add_mod]; rfl

end Go.Proofs.YtglcaejddckleaaDoor
namespace Go.Proofs.YtglcaejddckleaaDoor
open Go.RowKit
set_option linter.unusedVariables false
attribute [local go_sem] run_store_float run_equalIn_float

theorem make_intsO (n : Nat) (hn : n ≤ 4194304) (w : World) :
    (Instr.makeSlice 26 (.int .i64 (n : Int)) (.int .i64 (n : Int))).run Tryd.prog w = .ok (.slice (some ⟨w.heap.size, 0, none⟩) n n) (w.alloc (.cells (madeCells #[Value.int .i64 0] n) 3)) := by
  have := make_ints n hn w
  simpa [Value.cells] using this

theorem ownB {g n cp b : Nat} (h : (Value.slice (some ⟨g, 0, none⟩) n cp).ownBlock = some b) : g = b := by simpa [Value.ownBlock] using h
theorem Dc.eq_of {a b : Dc} (n : a.n = b.n) (L : a.L = b.L) (m : a.m = b.m) (I : a.I = b.I) (x : a.x = b.x) (X : a.X = b.X) (u : a.used = b.used) (l : a.live = b.live) (t : a.turns = b.turns) : a = b := by
  obtain ⟨⟩ := a
  obtain ⟨⟩ := b
  dsimp only at n L m I x X u l t
  subst n L m I x X u l t
  rfl
theorem refill_eq {hf : Vl → Nat} {d : Dc} {x k : Nat} (h : idxN d k < x) : { d with x := x, X := (refill hf d x k).X, used := (refill hf d x k).used } = refill hf d x k := by
  obtain ⟨f1, f2, f3, f4, f5, f6, f7, f8, f9, f10⟩ := refill_says (hf := hf) (d := d) (x := x) k h
  exact Dc.eq_of f5.symm f6.symm f7.symm f8.symm f4.symm rfl rfl f9.symm f10.symm

end Go.Proofs.YtglcaejddckleaaDoor
namespace Go.Proofs.YtglcaejddckleaaDoor
open Go.RowKit
set_option linter.unusedVariables false
attribute [local go_sem] run_store_float run_equalIn_float

/-- Where the living went. -/
def Whr (w : World) (b : Nat) (d : Dc) (k : Nat) : Prop := ∃ g, w.rowIs b 3 d.n g ∧ ∀ j, j < k → (d.L j).turn ≠ 0 → g j = .int .i64 ((rank d j : Int) + 1)
theorem Whr.keep {w w' : World} {b : Nat} {d : Dc} {k : Nat} (h : Whr w b d k) (e : w'.heap[b]? = w.heap[b]?) : Whr w' b d k := by
  obtain ⟨g, h1, h2⟩ := h
  exact ⟨g, h1.of_block e, h2⟩
theorem Whr.lt {w : World} {b : Nat} {d : Dc} {k : Nat} (h : Whr w b d k) : b < w.heap.size := by
  obtain ⟨g, h1, h2⟩ := h
  exact h1.lt
theorem Whr.cell {w : World} {b : Nat} {d : Dc} {k : Nat} (h : Whr w b d k) {j : Nat} (hj : j < k) (hn : j < d.n) (ht : (d.L j).turn ≠ 0) : w.cell? ⟨b, j, none⟩ = some (.int .i64 ((rank d j : Int) + 1)) := by
  obtain ⟨g, h1, h2⟩ := h
  rw [h1.cell hn, h2 j hj ht]
theorem Whr.any {w : World} {b : Nat} {d : Dc} {k : Nat} (h : Whr w b d k) {j : Nat} (hn : j < d.n) : ∃ u, w.cell? ⟨b, j, none⟩ = some u := by
  obtain ⟨g, h1, h2⟩ := h
  exact ⟨_, h1.cell hn⟩
theorem Whr.frozen {w : World} {b : Nat} {d : Dc} {k : Nat} (h : Whr w b d k) (j : Nat) : w.frozen? ⟨b, j, none⟩ = false := by
  obtain ⟨g, h1, h2⟩ := h
  exact h1.frozen j
theorem Whr.put {w : World} {b : Nat} {d : Dc} {k : Nat} (h : Whr w b d k) : Whr (w.setCell ⟨b, k, none⟩ (.int .i64 ((rank d k : Int) + 1))) b d (k + 1) := by
  obtain ⟨g, h1, h2⟩ := h
  refine ⟨_, h1.set k _, fun j hj ht => ?_⟩
  by_cases e : j = k
  · subst e; simp
  · simp only [e, if_false]; exact h2 j (by omega) ht
theorem Whr.skip {w : World} {b : Nat} {d : Dc} {k : Nat} (h : Whr w b d k) (ht : (d.L k).turn = 0) : Whr w b d (k + 1) := by
  obtain ⟨g, h1, h2⟩ := h
  refine ⟨g, h1, fun j hj ht' => ?_⟩
  by_cases e : j = k
  · subst e; exact absurd ht ht'
  · exact h2 j (by omega) ht'

/-- The ints' places, the first k of them made anew. -/
def packI (d : Dc) (k : Nat) : Nat → Int := fun j => if j < k then (packD d).I j else d.I j
theorem packI_zero (d : Dc) (j : Nat) : packI d 0 j = d.I j := if_neg (by omega)
theorem packI_at (d : Dc) (k : Nat) : packI d k k = d.I k := if_neg (by omega)
theorem packI_all {d : Dc} {k j : Nat} (h : j < k) : packI d k j = (packD d).I j := if_pos h
theorem packI_dead {d : Dc} {k : Nat} (h : ¬ 0 < d.I k) (j : Nat) : packI d (k + 1) j = packI d k j := by
  unfold packI
  by_cases e : j = k
  · subst e
    rw [if_pos (by omega), if_neg (by omega)]
    show (if 0 < d.I j then _ else d.I j) = _
    rw [if_neg h]
  · by_cases e2 : j < k
    · rw [if_pos (by omega), if_pos e2]
    · rw [if_neg (by omega), if_neg e2]
theorem packI_live {d : Dc} {k q : Nat} (h : d.I k = (q : Int) + 1) (j : Nat) : packI d (k + 1) j = upd (packI d k) k ((rank d q : Int) + 1) j := by
  unfold packI
  by_cases e : j = k
  · subst e
    rw [if_pos (by omega), upd_same]
    show (if 0 < d.I j then (rank d (d.I j - 1).toNat : Int) + 1 else d.I j) = _
    rw [if_pos (by omega), h, show ((q : Int) + 1 - 1).toNat = q by omega]
  · rw [upd_other _ _ e]
    by_cases e2 : j < k
    · rw [if_pos (by omega), if_pos e2]
    · rw [if_neg (by omega), if_neg e2]

theorem compactD_not {hf : Vl → Nat} {d : Dc} (h : (d.n : Int) < 8 ∨ (d.n : Int) ≤ 2 * d.live) : compactD hf d = d := if_pos h
theorem compactD_yes {hf : Vl → Nat} {d : Dc} (h : ¬ ((d.n : Int) < 8 ∨ (d.n : Int) ≤ 2 * d.live)) : compactD hf d = reindexD hf (packD d) 0 := if_neg h

end Go.Proofs.YtglcaejddckleaaDoor
namespace Go.Proofs.YtglcaejddckleaaDoor
open Go.RowKit
attribute [local go_sem] run_store_float run_equalIn_float

theorem zero_num {x : Nat} (h : fz x = true) : ∃ s i, Ieee.double.read x = .number s 0 i := by
  have h' : (Ieee.double.order x 0 == some .eq) = true := h
  rcases Fl.read_cases x with ⟨s, m, i, hr, hi, hi2, hm, _⟩ | ⟨s, hr⟩ | ⟨s, t, hr⟩
  · rw [Fl.ord_of hr Fl.read_nil hi (by omega), Fl.cmp_eq, Fl.sc_zero] at h'
    have h0 : Fl.sc s m i = 0 := by simpa using h'
    unfold Fl.sc at h0
    rw [Fl.signed_eq] at h0
    have hp := Fl.pow_pos' (i + 1074).toNat
    have : m = 0 := by
      generalize (2 : Int) ^ (i + 1074).toNat = u at h0 hp
      have h1 : (m : Int) * u = 0 := by
        cases s
        · simpa using h0
        · simpa using h0
      rcases Int.mul_eq_zero.1 h1 with h | h <;> omega
    subst this
    exact ⟨s, i, hr⟩
  · exfalso
    unfold Ieee.Format.order at h'
    rw [hr, Fl.read_nil] at h'
    cases s <;> simp [Ieee.Datum.order] at h'
  · exfalso
    unfold Ieee.Format.order at h'
    rw [hr] at h'
    simp [Ieee.Datum.order] at h'

theorem quo_zero {x : Nat} (h : fz x = true) : ∃ r, floatBits .quo .f64 4607182418800017408 x = some r := by
  obtain ⟨s, i, hr⟩ := zero_num h
  refine ⟨Ieee.double.write (.infinity (false ^^ s)), ?_⟩
  show ((Ieee.double.read 4607182418800017408).quotient _ (Ieee.double.read x)).map Ieee.double.write = _
  rw [hr, Fl.read_one]
  simp [Ieee.Datum.quotient]

end Go.Proofs.YtglcaejddckleaaDoor
namespace Go.Proofs.YtglcaejddckleaaDoor
open Go.RowKit
set_option linter.unusedVariables false
attribute [local go_sem] run_store_float run_equalIn_float

/-- Strings in bounds. -/
def Strs (n : Nat) (f : Nat → Pr) : Prop := ∀ i, i < n → (f i).key.str.size ≤ maxLen ∧ (f i).val.str.size ≤ maxLen

/-- Lengths of what comes in. -/
structure Lens (d : Dc) : Prop where
  n : d.n ≤ maxLen
  m : d.m ≤ maxLen
  x : d.x ≤ maxLen
  s : Strs d.n d.L

end Go.Proofs.YtglcaejddckleaaDoor

namespace Go.Proofs.YtglcaejddckleaaDoor
open Go.RowKit
set_option linter.unusedVariables false
attribute [local go_sem] run_store_float run_equalIn_float

theorem set11_other {w : World} {b o q : Nat} (p : Pr) (h : q < o ∨ o + 11 ≤ q) : (((((((((((w.setCell ⟨b, o, none⟩ (.int .i64 p.key.kind)).setCell ⟨b, o + 1, none⟩ (.int .i64 p.key.num)).setCell ⟨b, o + 2, none⟩ (.float .f64 p.key.flt)).setCell ⟨b, o + 3, none⟩ (.string p.key.str)).setCell ⟨b, o + 4, none⟩ (.int .i64 p.key.ref)).setCell ⟨b, o + 5, none⟩ (.int .i64 p.val.kind)).setCell ⟨b, o + 6, none⟩ (.int .i64 p.val.num)).setCell ⟨b, o + 7, none⟩ (.float .f64 p.val.flt)).setCell ⟨b, o + 8, none⟩ (.string p.val.str)).setCell ⟨b, o + 9, none⟩ (.int .i64 p.val.ref)).setCell ⟨b, o + 10, none⟩ (.int .i64 p.turn)).cell? ⟨b, q, none⟩ = w.cell? ⟨b, q, none⟩ := by
  exact (cell_set_other (by omega)).trans ((cell_set_other (by omega)).trans ((cell_set_other (by omega)).trans ((cell_set_other (by omega)).trans ((cell_set_other (by omega)).trans ((cell_set_other (by omega)).trans ((cell_set_other (by omega)).trans ((cell_set_other (by omega)).trans ((cell_set_other (by omega)).trans ((cell_set_other (by omega)).trans (cell_set_other (by omega)))))))))))
theorem PCell.keepAt {w w' : World} {b o : Nat} {p : Pr} (h : PCell w b o p) (e : ∀ j, j < 11 → w'.cell? ⟨b, o + j, none⟩ = w.cell? ⟨b, o + j, none⟩) : PCell w' b o p :=
  ⟨(e 0 (by omega)).trans h.k0, (e 1 (by omega)).trans h.k1, (e 2 (by omega)).trans h.k2, (e 3 (by omega)).trans h.k3, (e 4 (by omega)).trans h.k4, (e 5 (by omega)).trans h.v0, (e 6 (by omega)).trans h.v1, (e 7 (by omega)).trans h.v2, (e 8 (by omega)).trans h.v3, (e 9 (by omega)).trans h.v4, (e 10 (by omega)).trans h.tn⟩
theorem set11_row {w : World} {b o N : Nat} {t : TypeId} {g : Nat → Value} (h : w.rowIs b t N g) (ho : o + 11 ≤ N) (p : Pr) : (∃ g', (((((((((((w.setCell ⟨b, o, none⟩ (.int .i64 p.key.kind)).setCell ⟨b, o + 1, none⟩ (.int .i64 p.key.num)).setCell ⟨b, o + 2, none⟩ (.float .f64 p.key.flt)).setCell ⟨b, o + 3, none⟩ (.string p.key.str)).setCell ⟨b, o + 4, none⟩ (.int .i64 p.key.ref)).setCell ⟨b, o + 5, none⟩ (.int .i64 p.val.kind)).setCell ⟨b, o + 6, none⟩ (.int .i64 p.val.num)).setCell ⟨b, o + 7, none⟩ (.float .f64 p.val.flt)).setCell ⟨b, o + 8, none⟩ (.string p.val.str)).setCell ⟨b, o + 9, none⟩ (.int .i64 p.val.ref)).setCell ⟨b, o + 10, none⟩ (.int .i64 p.turn)).rowIs b t N g') ∧ PCell (((((((((((w.setCell ⟨b, o, none⟩ (.int .i64 p.key.kind)).setCell ⟨b, o + 1, none⟩ (.int .i64 p.key.num)).setCell ⟨b, o + 2, none⟩ (.float .f64 p.key.flt)).setCell ⟨b, o + 3, none⟩ (.string p.key.str)).setCell ⟨b, o + 4, none⟩ (.int .i64 p.key.ref)).setCell ⟨b, o + 5, none⟩ (.int .i64 p.val.kind)).setCell ⟨b, o + 6, none⟩ (.int .i64 p.val.num)).setCell ⟨b, o + 7, none⟩ (.float .f64 p.val.flt)).setCell ⟨b, o + 8, none⟩ (.string p.val.str)).setCell ⟨b, o + 9, none⟩ (.int .i64 p.val.ref)).setCell ⟨b, o + 10, none⟩ (.int .i64 p.turn)) b o p := by
  have hr := ((((((((((h.set (o) (.int .i64 p.key.kind)).set (o + 1) (.int .i64 p.key.num)).set (o + 2) (.float .f64 p.key.flt)).set (o + 3) (.string p.key.str)).set (o + 4) (.int .i64 p.key.ref)).set (o + 5) (.int .i64 p.val.kind)).set (o + 6) (.int .i64 p.val.num)).set (o + 7) (.float .f64 p.val.flt)).set (o + 8) (.string p.val.str)).set (o + 9) (.int .i64 p.val.ref)).set (o + 10) (.int .i64 p.turn)
  refine ⟨⟨_, hr⟩, ?_⟩
  constructor
  all_goals (rw [hr.cell (by omega)]; simp)

theorem make_pairs (n : Nat) (hn : n ≤ 4194304) (w : World) :
    (Instr.makeSlice 25 (.int .i64 (n : Int)) (.int .i64 (n : Int))).run Tryd.prog w = .ok (.slice (some ⟨w.heap.size, 0, none⟩) n n) (w.alloc (.cells (madeCells PZ.cells (n * 11)) 55)) := by
  obtain ⟨i, hi, hz, hs, hb⟩ := info_parts infoPair
  have := run_make (P := Tryd.prog) w 25 55 i _ Tryd.underlying25 hi hz .i64 .i64 n n (by omega) (Int.le_refl _) (by rw [hb]; omega) (by omega)
  simp only [Int.toNat_natCast, hs] at this
  exact this
theorem made_pairs (w : World) (m : Nat) : ∃ g, (w.alloc (.cells (madeCells PZ.cells m) 55)).rowIs w.heap.size 55 m g := by
  have h := World.rowIs_alloc w (madeCells PZ.cells m) 55 (fun i => ((madeCells PZ.cells m)[i]?).getD undef) (fun i hi => by rw [Array.getElem?_eq_getElem hi]; rfl)
  rw [size_madeCells] at h
  exact ⟨_, h⟩

end Go.Proofs.YtglcaejddckleaaDoor

namespace Go.Proofs.YtglcaejddckleaaDoor
open Go.RowKit
set_option linter.unusedVariables false
attribute [local go_sem] run_store_float run_equalIn_float

theorem PAt.setOther {w : World} {s o n q : Nat} {f : Nat → Pr} {v : Value} (h : PAt w (some ⟨s, o, none⟩) n f) {b : Nat} (hb : s ≠ b) : PAt (w.setCell ⟨b, q, none⟩ v) (some ⟨s, o, none⟩) n f := by
  rcases h with h | ⟨b', off, e, hlt, hc⟩
  · exact .inl h
  · cases e
    exact .inr ⟨s, o, rfl, by simpa using hlt, fun i hi => (hc i hi).keep (fun q => cell_set_block (Ne.symm hb))⟩
theorem IAt.setOther {w : World} {s o n q : Nat} {f : Nat → Int} {v : Value} (h : IAt w (some ⟨s, o, none⟩) n f) {b : Nat} (hb : s ≠ b) : IAt (w.setCell ⟨b, q, none⟩ v) (some ⟨s, o, none⟩) n f := by
  rcases h with h | ⟨b', off, e, hlt, hc⟩
  · exact .inl h
  · cases e
    exact .inr ⟨s, o, rfl, by simpa using hlt, fun i hi => (cell_set_block (Ne.symm hb)).trans (hc i hi)⟩

end Go.Proofs.YtglcaejddckleaaDoor
namespace Go.Proofs.YtglcaejddckleaaDoor
open Go.RowKit
set_option linter.unusedVariables false

/-- The mark of k. -/
def mark (k : Nat) : ByteArray := ⟨(109 :: Lib.decDigits k).toArray⟩

def digs (u : Nat) : List UInt8 := if u = 0 then [] else Lib.decDigits u

theorem digs_step {u : Nat} (h : 0 < u) : digs u = digs (u / 10) ++ [dig u] := by
  unfold digs
  rw [if_neg (by omega)]
  by_cases h10 : u < 10
  · rw [digits_small h10, if_pos (by omega)]
    unfold dig
    rw [Nat.mod_eq_of_lt h10]; rfl
  · rw [digits_big h10, if_neg (by omega)]; rfl

end Go.Proofs.YtglcaejddckleaaDoor
namespace Go.Proofs.YtglcaejddckleaaDoor
open Go.RowKit
set_option linter.unusedVariables false
attribute [local go_sem] run_store_float run_equalIn_float

/-- All but one block lie as they lay. -/
structure Bt (b : Nat) (w w' : World) : Prop where
  os : w'.os = w.os
  tape : w'.tape = w.tape
  output : w'.output = w.output
  size : w.heap.size ≤ w'.heap.size
  block : ∀ k, k < w.heap.size → k ≠ b → w'.heap[k]? = w.heap[k]?
theorem Bt.refl (b : Nat) (w : World) : Bt b w w := ⟨rfl, rfl, rfl, Nat.le_refl _, fun _ _ _ => rfl⟩
theorem Bt.trans {b : Nat} {u v w : World} (h : Bt b u v) (k : Bt b v w) : Bt b u w :=
  ⟨k.os.trans h.os, k.tape.trans h.tape, k.output.trans h.output, Nat.le_trans h.size k.size, fun i hi hn => (k.block i (Nat.lt_of_lt_of_le hi h.size) hn).trans (h.block i hi hn)⟩
theorem Bt.of {b : Nat} {w w' : World} (h : Below w.heap.size w w') : Bt b w w' := ⟨h.os, h.tape, h.output, h.size, fun k hk _ => h.block k hk⟩
theorem Bt.set (b o : Nat) (w : World) (v : Value) : Bt b w (w.setCell ⟨b, o, none⟩ v) := ⟨rfl, rfl, rfl, by simp [World.setCell], fun k _ hn => Deep.blk_setCell_other _ _ _ _ (by exact hn)⟩
theorem Bt.below {b B : Nat} {w w' : World} (h : Bt b w w') (hb : B ≤ b) (hB : B ≤ w.heap.size) : Below B w w' := ⟨h.os, h.tape, h.output, h.size, fun k hk => h.block k (by omega) (by omega)⟩

end Go.Proofs.YtglcaejddckleaaDoor
namespace Go.Proofs.YtglcaejddckleaaDoor
open Go.RowKit
set_option linter.unusedVariables false
attribute [local go_sem] run_store_float run_equalIn_float

theorem fself (k : Int) (h0 : 0 ≤ k) (hk : k < 9007199254740992) : (FloatKind.f64.format.order (floatOfInt .f64 k) (floatOfInt .f64 k) != some .eq) = false := by
  obtain ⟨q, l, hr, hl, hv⟩ := Fl.nearest_whole (decide (k < 0)) k.natAbs (Fl.fits_small (by omega))
  have hx : Ieee.double.read (floatOfInt .f64 k) = .number (decide (k < 0)) q l := hr
  show (!(Ieee.double.order _ _ == some .eq)) = false
  rw [Fl.ord_of hx hx hl hl, Fl.cmp_eq]; simp

/-- What a marked pair is. -/
def mkP (s i : Nat) : Pr :=
  ⟨⟨(s : Int) + 11 * i, (s : Int) + 11 * i + 1, floatOfInt .f64 ((s : Int) + 11 * i + 1 + 1), mark (s + 11 * i + 3), (s : Int) + 11 * i + 1 + 1 + 1 + 1⟩,
   ⟨(s : Int) + 11 * i + 1 + 1 + 1 + 1 + 1, (s : Int) + 11 * i + 1 + 1 + 1 + 1 + 1 + 1, floatOfInt .f64 ((s : Int) + 11 * i + 1 + 1 + 1 + 1 + 1 + 1 + 1), mark (s + 11 * i + 8), (s : Int) + 11 * i + 1 + 1 + 1 + 1 + 1 + 1 + 1 + 1 + 1⟩, (s : Int) + 11 * i + 1 + 1 + 1 + 1 + 1 + 1 + 1 + 1 + 1 + 1⟩
/-- A cell of a row of pairs. -/
def pcell (f : Nat → Pr) (j : Nat) : Value := ((prL (f (j / 11)))[j % 11]?).getD undef
theorem pcell_at (f : Nat → Pr) (k i : Nat) (hi : i < 11) : pcell f (k * 11 + i) = ((prL (f k))[i]?).getD undef := by
  unfold pcell
  rw [show (k * 11 + i) / 11 = k by omega, show (k * 11 + i) % 11 = i by omega]
theorem pcells {w : World} {b N n : Nat} {g : Nat → Value} {f : Nat → Pr} (h : w.rowIs b 55 N g) (hN : n * 11 ≤ N) (hg : ∀ j, j < n * 11 → g j = pcell f j) {i : Nat} (hi : i < n) : PCell w b (i * 11) (f i) := by
  have e : ∀ j, j < 11 → w.cell? ⟨b, i * 11 + j, none⟩ = some (((prL (f i))[j]?).getD undef) := fun j hj => by
    rw [h.cell (i := i * 11 + j) (by omega), hg _ (by omega), pcell_at f i j hj]
  exact ⟨e 0 (by omega), e 1 (by omega), e 2 (by omega), e 3 (by omega), e 4 (by omega), e 5 (by omega), e 6 (by omega), e 7 (by omega), e 8 (by omega), e 9 (by omega), e 10 (by omega)⟩

end Go.Proofs.YtglcaejddckleaaDoor
namespace Go.Proofs.YtglcaejddckleaaDoor
open Go.RowKit
set_option linter.unusedVariables false
attribute [local go_sem] run_store_float run_equalIn_float

theorem row_set {w : World} {s N b q : Nat} {t : TypeId} {g : Nat → Value} {v : Value} (h : w.rowIs s t N g) (hb : s ≠ b) : (w.setCell ⟨b, q, none⟩ v).rowIs s t N g := World.rowIs.of_block h (Deep.blk_setCell_other _ _ _ _ (by exact hb))
/-- The rows of a dict that was made. -/
structure ToR (B : Nat) (w : World) (s0 s1 s2 : Nat) (d : Dc) : Prop where
  b0 : B ≤ s0
  b1 : B ≤ s1
  b2 : B ≤ s2
  n01 : s0 ≠ s1
  n02 : s0 ≠ s2
  n12 : s1 ≠ s2
  r0 : ∃ g, w.rowIs s0 55 (d.n * 11) g
  r1 : ∃ g, w.rowIs s1 3 d.m g
  r2 : ∃ g, w.rowIs s2 3 d.x g
theorem ToR.keep {B : Nat} {w w' : World} {s0 s1 s2 : Nat} {d : Dc} (h : ToR B w s0 s1 s2 d) (hk : ∀ q, q < w.heap.size → w'.heap[q]? = w.heap[q]?) : ToR B w' s0 s1 s2 d :=
  ⟨h.b0, h.b1, h.b2, h.n01, h.n02, h.n12, h.r0.imp fun g r => World.rowIs.of_block r (hk _ (World.rowIs.lt r)), h.r1.imp fun g r => World.rowIs.of_block r (hk _ (World.rowIs.lt r)), h.r2.imp fun g r => World.rowIs.of_block r (hk _ (World.rowIs.lt r))⟩
theorem ToR.lt {B : Nat} {w : World} {s0 s1 s2 : Nat} {d : Dc} (h : ToR B w s0 s1 s2 d) : s0 < w.heap.size ∧ s1 < w.heap.size ∧ s2 < w.heap.size := by
  obtain ⟨_, r0⟩ := h.r0
  obtain ⟨_, r1⟩ := h.r1
  obtain ⟨_, r2⟩ := h.r2
  exact ⟨World.rowIs.lt r0, World.rowIs.lt r1, World.rowIs.lt r2⟩

/-- All but three blocks lie as they lay. -/
structure Bt3 (a b c : Nat) (w w' : World) : Prop where
  os : w'.os = w.os
  tape : w'.tape = w.tape
  output : w'.output = w.output
  size : w.heap.size ≤ w'.heap.size
  block : ∀ k, k < w.heap.size → k ≠ a → k ≠ b → k ≠ c → w'.heap[k]? = w.heap[k]?
theorem Bt3.below {a b c B : Nat} {w w' : World} (h : Bt3 a b c w w') (ha : B ≤ a) (hb : B ≤ b) (hc : B ≤ c) (hB : B ≤ w.heap.size) : Below B w w' := ⟨h.os, h.tape, h.output, h.size, fun k hk => h.block k (by omega) (by omega) (by omega) (by omega)⟩

/-- The pairs of an answer. -/
def PrV (f : Nat → Pr) (n : Nat) (w : World) (v : Value) (lo hi : Nat) : Prop :=
  (n = 0 ∧ v = .slice none 0 0) ∨ ∃ b cp N g, v = .slice (some ⟨b, 0, none⟩) n cp ∧ lo ≤ b ∧ b < hi ∧ w.rowIs b 55 N g ∧ n * 11 ≤ N ∧ ∀ j, j < n * 11 → g j = pcell f j
theorem PrV.keep {f : Nat → Pr} {n : Nat} {w w' : World} {v : Value} {lo hi : Nat} (h : PrV f n w v lo hi) (hk : ∀ b, lo ≤ b → b < hi → w'.heap[b]? = w.heap[b]?) : PrV f n w' v lo hi := by
  rcases h with h | ⟨b, cp, N, g, h1, h2, h3, h4, h5, h6⟩
  · exact .inl h
  · exact .inr ⟨b, cp, N, g, h1, h2, h3, World.rowIs.of_block h4 (hk b h2 h3), h5, h6⟩
theorem PrV.below {f : Nat → Pr} {n : Nat} {w w' : World} {v : Value} {lo hi B : Nat} (h : PrV f n w v lo hi) (hb : Below B w w') (hB : hi ≤ B) : PrV f n w' v lo hi := h.keep fun b _ h2 => hb.block b (by omega)
theorem PrV.of {f : Nat → Pr} {n B : Nat} {w : World} {v : Value} (h : POwn w B v n f) : PrV f n w v B w.heap.size := by
  have hlt := h.lt
  obtain ⟨hl, ⟨hv, h0⟩ | ⟨g', cap, cur, hv, hb, hblk, h1, h2, h3, h4⟩⟩ := h
  · exact .inl ⟨h0, hv⟩
  · subst hv
    refine .inr ⟨g', cap, cap * 11, fun j => (cur[j]?).getD undef, rfl, hb, (hlt g' rfl).2, ⟨cur, hblk, h3, fun i hi => by simp [Array.getElem?_eq_getElem (show i < cur.size by omega)]⟩, by omega, fun j hj => ?_⟩
    have h5 := pL_get (f := f) (n := n) (i := j / 11) (j := j % 11) (by omega) (by omega)
    rw [show j / 11 * 11 + j % 11 = j by omega, ← h4, List.getElem?_take, if_pos hj, Array.getElem?_toList] at h5
    show (cur[j]?).getD undef = _
    rw [h5]
    rfl
theorem PrV.at {f : Nat → Pr} {n : Nat} {w : World} {v : Value} {lo hi : Nat} (h : PrV f n w v lo hi) : ∃ a cp, v = .slice a n cp ∧ PAt w a n f := by
  rcases h with ⟨h0, rfl⟩ | ⟨b, cp, N, g, h1, h2, h3, h4, h5, h6⟩
  · subst h0; exact ⟨_, _, rfl, .inl rfl⟩
  · exact ⟨_, _, h1, .inr ⟨b, 0, rfl, World.rowIs.lt h4, fun i hi => by rw [Nat.zero_add]; exact pcells h4 h5 h6 hi⟩⟩
end Go.Proofs.YtglcaejddckleaaDoor
namespace Go.Proofs.YtglcaejddckleaaDoor
open Go.RowKit
set_option linter.unusedVariables false
attribute [local go_sem] run_store_float run_equalIn_float

/-- The ints of an answer. -/
def InV (f : Nat → Int) (n : Nat) (w : World) (v : Value) (lo hi : Nat) : Prop :=
  (n = 0 ∧ v = .slice none 0 0) ∨ ∃ b cp N g, v = .slice (some ⟨b, 0, none⟩) n cp ∧ lo ≤ b ∧ b < hi ∧ w.rowIs b 3 N g ∧ n ≤ N ∧ ∀ j, j < n → g j = .int .i64 (f j)
theorem InV.keep {f : Nat → Int} {n : Nat} {w w' : World} {v : Value} {lo hi : Nat} (h : InV f n w v lo hi) (hk : ∀ b, v.ownBlock = some b → lo ≤ b → b < hi → w'.heap[b]? = w.heap[b]?) : InV f n w' v lo hi := by
  rcases h with h | ⟨b, cp, N, g, h1, h2, h3, h4, h5, h6⟩
  · exact .inl h
  · exact .inr ⟨b, cp, N, g, h1, h2, h3, World.rowIs.of_block h4 (hk b (by rw [h1]; rfl) h2 h3), h5, h6⟩
theorem InV.of {f : Nat → Int} {n B : Nat} {w : World} {v : Value} (h : IOwn w B v n f) : InV f n w v B w.heap.size := by
  have hlt := h.lt
  obtain ⟨hl, ⟨hv, h0⟩ | ⟨g', cap, cur, hv, hb, hblk, h1, h2, h3, h4⟩⟩ := h
  · exact .inl ⟨h0, hv⟩
  · subst hv
    refine .inr ⟨g', cap, cap, fun j => (cur[j]?).getD undef, rfl, hb, (hlt g' rfl).2, ⟨cur, hblk, by omega, fun i hi => by simp [Array.getElem?_eq_getElem (show i < cur.size by omega)]⟩, h1, fun j hj => ?_⟩
    have h5 := iL_get (f := f) (n := n) (i := j) hj
    rw [← h4, List.getElem?_take, if_pos (by omega), Array.getElem?_toList] at h5
    show (cur[j]?).getD undef = _
    rw [h5]
    rfl
theorem InV.at {f : Nat → Int} {n : Nat} {w : World} {v : Value} {lo hi : Nat} (h : InV f n w v lo hi) : ∃ a cp, v = .slice a n cp ∧ IAt w a n f := by
  rcases h with ⟨h0, rfl⟩ | ⟨b, cp, N, g, h1, h2, h3, h4, h5, h6⟩
  · subst h0; exact ⟨_, _, rfl, .inl rfl⟩
  · exact ⟨_, _, h1, .inr ⟨b, 0, rfl, World.rowIs.lt h4, fun i hi => by rw [Nat.zero_add, h4.cell (by omega), h6 i hi]⟩⟩
/-- All blocks but a row's own lie as they lay. -/
structure BtV (v : Value) (w w' : World) : Prop where
  os : w'.os = w.os
  tape : w'.tape = w.tape
  output : w'.output = w.output
  size : w.heap.size ≤ w'.heap.size
  block : ∀ k, k < w.heap.size → v.ownBlock ≠ some k → w'.heap[k]? = w.heap[k]?
end Go.Proofs.YtglcaejddckleaaDoor
namespace Go.Proofs.YtglcaejddckleaaDoor
open Go.RowKit
set_option linter.unusedVariables false
attribute [local go_sem] run_store_float run_equalIn_float

/-- What a marked dict is. -/
def mkD (d : Dc) : Dc := { d with L := mkP 1, I := fun j => ((1 + 11 * d.n + j : Nat) : Int), X := fun j => ((1 + 11 * d.n + d.m + j : Nat) : Int) }
/-- A dict in blocks from lo to below hi. -/
structure DV (d : Dc) (w : World) (v0 v1 v2 : Value) (lo hi : Nat) : Prop where
  log : PrV d.L d.n w v0 lo hi
  ints : InV d.I d.m w v1 lo hi
  index : InV d.X d.x w v2 lo hi
  a01 : ∀ q, v0.ownBlock = some q → v1.ownBlock ≠ some q
  a02 : ∀ q, v0.ownBlock = some q → v2.ownBlock ≠ some q
  a12 : ∀ q, v1.ownBlock = some q → v2.ownBlock ≠ some q
abbrev DvV (v0 v1 v2 : Value) (d : Dc) : Value := .agg #[v0, v1, v2, .int .i64 d.used, .int .i64 d.live, .int .i64 d.turns]
theorem DV.keep {d : Dc} {w w' : World} {v0 v1 v2 : Value} {lo hi : Nat} (h : DV d w v0 v1 v2 lo hi) (hk : ∀ b, lo ≤ b → b < hi → w'.heap[b]? = w.heap[b]?) : DV d w' v0 v1 v2 lo hi :=
  ⟨h.log.keep hk, h.ints.keep (fun b _ => hk b), h.index.keep (fun b _ => hk b), h.a01, h.a02, h.a12⟩
theorem DV.below {d : Dc} {w w' : World} {v0 v1 v2 : Value} {lo hi B : Nat} (h : DV d w v0 v1 v2 lo hi) (hb : Below B w w') (hB : hi ≤ B) : DV d w' v0 v1 v2 lo hi := h.keep fun b _ h2 => hb.block b (by omega)
theorem DV.at {d : Dc} {w : World} {v0 v1 v2 : Value} {lo hi : Nat} (h : DV d w v0 v1 v2 lo hi) : ∃ la lc ia ic xa xc, v0 = .slice la d.n lc ∧ v1 = .slice ia d.m ic ∧ v2 = .slice xa d.x xc ∧ DAt w la ia xa d := by
  obtain ⟨la, lc, rfl, h0⟩ := h.log.at
  obtain ⟨ia, ic, rfl, h1⟩ := h.ints.at
  obtain ⟨xa, xc, rfl, h2⟩ := h.index.at
  exact ⟨la, lc, ia, ic, xa, xc, rfl, rfl, rfl, h0, h1, h2⟩
theorem PrV.own {f : Nat → Pr} {n : Nat} {w : World} {v : Value} {lo hi : Nat} (h : PrV f n w v lo hi) {b : Nat} (e : v.ownBlock = some b) : lo ≤ b ∧ b < hi ∧ b < w.heap.size := by
  rcases h with ⟨h0, rfl⟩ | ⟨b', cp, N, g, rfl, h2, h3, h4, h5, h6⟩
  · cases e
  · have e' : b' = b := by simpa [Value.ownBlock] using e
    subst e'
    exact ⟨h2, h3, World.rowIs.lt h4⟩
theorem InV.own {f : Nat → Int} {n : Nat} {w : World} {v : Value} {lo hi : Nat} (h : InV f n w v lo hi) {b : Nat} (e : v.ownBlock = some b) : lo ≤ b ∧ b < hi ∧ b < w.heap.size := by
  rcases h with ⟨h0, rfl⟩ | ⟨b', cp, N, g, rfl, h2, h3, h4, h5, h6⟩
  · cases e
  · have e' : b' = b := by simpa [Value.ownBlock] using e
    subst e'
    exact ⟨h2, h3, World.rowIs.lt h4⟩
theorem InV.btv {f : Nat → Int} {n : Nat} {w w' : World} {v u : Value} {lo hi : Nat} (h : InV f n w v lo hi) (hb : BtV u w w') (ha : ∀ q, v.ownBlock = some q → u.ownBlock ≠ some q) : InV f n w' v lo hi := h.keep fun b e _ _ => hb.block b (h.own e).2.2 (ha b e)
theorem PrV.btv {f : Nat → Pr} {n : Nat} {w w' : World} {v u : Value} {lo hi : Nat} (h : PrV f n w v lo hi) (hb : BtV u w w') (ha : ∀ q, v.ownBlock = some q → u.ownBlock ≠ some q) : PrV f n w' v lo hi := by
  rcases h with h | ⟨b, cp, N, g, h1, h2, h3, h4, h5, h6⟩
  · exact .inl h
  · exact .inr ⟨b, cp, N, g, h1, h2, h3, World.rowIs.of_block h4 (hb.block b (World.rowIs.lt h4) (ha b (by rw [h1]; rfl))), h5, h6⟩
theorem BtV.below {u : Value} {w w' : World} {B : Nat} (h : BtV u w w') (hu : ∀ q, u.ownBlock = some q → B ≤ q) (hB : B ≤ w.heap.size) : Below B w w' := ⟨h.os, h.tape, h.output, h.size, fun k hk => h.block k (by omega) (fun e => by have := hu k e; omega)⟩

end Go.Proofs.YtglcaejddckleaaDoor
namespace Go.Proofs.YtglcaejddckleaaDoor
open Go.RowKit
set_option linter.unusedVariables false
attribute [local go_sem] run_store_float run_equalIn_float

/-- A dict on its way: its own box, the answer's. -/
structure DWay (w wr : World) (v0 v1 v2 : Value) (d : Dc) : Prop where
  b0 : wr.heap[w.heap.size]? = some (.cells #[.slice none 0 0, .slice none 0 0, .slice none 0 0, .int .i64 0, .int .i64 0, .int .i64 0] 28 (0, 0))
  b1 : wr.heap[w.heap.size + 1]? = some (.cells #[v0, v1, v2, .int .i64 d.used, .int .i64 d.live, .int .i64 d.turns] 28 (0, 0))
  bel : Below w.heap.size w wr
theorem DWay.size {w wr : World} {v0 v1 v2 : Value} {d : Dc} (h : DWay w wr v0 v1 v2 d) : w.heap.size + 1 < wr.heap.size := (Array.getElem?_eq_some_iff.1 h.b1).1
theorem DWay.cells {w wr : World} {v0 v1 v2 : Value} {d : Dc} (h : DWay w wr v0 v1 v2 d) : wr.cell? ⟨w.heap.size + 1, 0, none⟩ = some v0 ∧ wr.cell? ⟨w.heap.size + 1, 1, none⟩ = some v1 ∧ wr.cell? ⟨w.heap.size + 1, 2, none⟩ = some v2 ∧ wr.cell? ⟨w.heap.size + 1, 3, none⟩ = some (.int .i64 d.used) ∧ wr.cell? ⟨w.heap.size + 1, 4, none⟩ = some (.int .i64 d.live) ∧ wr.cell? ⟨w.heap.size + 1, 5, none⟩ = some (.int .i64 d.turns) ∧ ∀ q, wr.frozen? ⟨w.heap.size + 1, q, none⟩ = false :=
  ⟨by simp [World.cell?, h.b1], by simp [World.cell?, h.b1], by simp [World.cell?, h.b1], by simp [World.cell?, h.b1], by simp [World.cell?, h.b1], by simp [World.cell?, h.b1], fun q => by simp [World.frozen?, h.b1]⟩
theorem DWay.keep {w wr w' : World} {v0 v1 v2 : Value} {d : Dc} (h : DWay w wr v0 v1 v2 d) (h0 : w'.heap[w.heap.size]? = wr.heap[w.heap.size]?) (h1 : w'.heap[w.heap.size + 1]? = wr.heap[w.heap.size + 1]?) (hb : Below w.heap.size w w') : DWay w w' v0 v1 v2 d := ⟨h0.trans h.b0, h1.trans h.b1, hb⟩
theorem DWay.set0 {w wr : World} {v0 v1 v2 u : Value} {d : Dc} (h : DWay w wr v0 v1 v2 d) : DWay w (wr.setCell ⟨w.heap.size + 1, 0, none⟩ u) u v1 v2 d :=
  ⟨(Deep.blk_setCell_other _ _ _ _ (by show w.heap.size ≠ w.heap.size + 1; omega)).trans h.b0, (heap_setCell_same _ _ _ _ _ _ h.b1).trans (by simp), h.bel.setCell (by show w.heap.size ≤ w.heap.size + 1; omega) _⟩
theorem DWay.set1 {w wr : World} {v0 v1 v2 u : Value} {d : Dc} (h : DWay w wr v0 v1 v2 d) : DWay w (wr.setCell ⟨w.heap.size + 1, 1, none⟩ u) v0 u v2 d :=
  ⟨(Deep.blk_setCell_other _ _ _ _ (by show w.heap.size ≠ w.heap.size + 1; omega)).trans h.b0, (heap_setCell_same _ _ _ _ _ _ h.b1).trans (by simp), h.bel.setCell (by show w.heap.size ≤ w.heap.size + 1; omega) _⟩
theorem DWay.set2 {w wr : World} {v0 v1 v2 u : Value} {d : Dc} (h : DWay w wr v0 v1 v2 d) : DWay w (wr.setCell ⟨w.heap.size + 1, 2, none⟩ u) v0 v1 u d :=
  ⟨(Deep.blk_setCell_other _ _ _ _ (by show w.heap.size ≠ w.heap.size + 1; omega)).trans h.b0, (heap_setCell_same _ _ _ _ _ _ h.b1).trans (by simp), h.bel.setCell (by show w.heap.size ≤ w.heap.size + 1; omega) _⟩
/-- A row written up to k. -/
def upTo (f : Nat → Int) (k j : Nat) : Int := if j < k then f j else 0
theorem upTo_step (f : Nat → Int) (k : Nat) : upd (upTo f k) k (f k) = upTo f (k + 1) := by
  funext j
  unfold upTo
  by_cases e : j = k
  · subst e; rw [upd_same, if_pos (by omega)]
  · rw [upd_other _ _ e]
    by_cases h : j < k
    · rw [if_pos h, if_pos (by omega)]
    · rw [if_neg h, if_neg (by omega)]
theorem upTo_zero (f : Nat → Int) (k : Nat) (h : f k = 0) : upTo f k = upTo f (k + 1) := by
  rw [← upTo_step, h]
  funext j
  by_cases e : j = k
  · subst e; rw [upd_same]; exact if_neg (by omega)
  · rw [upd_other _ _ e]
theorem IOwn.congr {w : World} {B : Nat} {v : Value} {n : Nat} {f g : Nat → Int} (h : IOwn w B v n f) (e : ∀ i, i < n → g i = f i) : IOwn w B v n g := by
  have hl : iL g n = iL f n := by
    apply List.ext_getElem?
    intro q
    by_cases hq : q < n
    · rw [iL_get hq, iL_get hq, e q hq]
    · rw [List.getElem?_eq_none (by rw [iL_length]; omega), List.getElem?_eq_none (by rw [iL_length]; omega)]
  show w.ownsRow _ _ _ _ _ (iL g n)
  rw [hl]
  exact h
def HeldP (e : Nat) (p : Pr) (W : World) : Prop := W.cell? ⟨e, 0, none⟩ = some (.int .i64 p.key.kind) ∧ W.cell? ⟨e, 1, none⟩ = some (.int .i64 p.key.num) ∧ W.cell? ⟨e, 2, none⟩ = some (.float .f64 p.key.flt) ∧ W.cell? ⟨e, 3, none⟩ = some (.string p.key.str) ∧ W.cell? ⟨e, 4, none⟩ = some (.int .i64 p.key.ref) ∧ W.cell? ⟨e, 5, none⟩ = some (.int .i64 p.val.kind) ∧ W.cell? ⟨e, 6, none⟩ = some (.int .i64 p.val.num) ∧ W.cell? ⟨e, 7, none⟩ = some (.float .f64 p.val.flt) ∧ W.cell? ⟨e, 8, none⟩ = some (.string p.val.str) ∧ W.cell? ⟨e, 9, none⟩ = some (.int .i64 p.val.ref) ∧ W.cell? ⟨e, 10, none⟩ = some (.int .i64 p.turn)
theorem ECell.held {w : World} {b : Nat} {p : Pr} {i : Nat} (h : ECell w b p i) : HeldP b p w := ⟨h.k0, h.k1, h.k2, h.k3, h.k4, h.v0, h.v1, h.v2, h.v3, h.v4, h.tn⟩
def HeldB (bk : Nat) (a b c : Int) (W : World) : Prop := W.cell? ⟨bk, 4, none⟩ = some (.int .i64 a) ∧ W.cell? ⟨bk, 5, none⟩ = some (.int .i64 b) ∧ W.cell? ⟨bk, 6, none⟩ = some (.int .i64 c)
def HeldI (c g m e : Nat) (x : Int) (W : World) : Prop := W.cell? ⟨c, 1, none⟩ = some (.slice (some ⟨g, 0, none⟩) m m) ∧ W.cell? ⟨e, 11, none⟩ = some (.int .i64 x)
def HeldX (c g m s e : Nat) (x : Int) (W : World) : Prop := W.cell? ⟨c, 2, none⟩ = some (.slice (some ⟨g, 0, none⟩) m m) ∧ W.cell? ⟨s, 5, none⟩ = some (.pointer (some ⟨e, 0, none⟩)) ∧ W.cell? ⟨e, 11, none⟩ = some (.int .i64 x)

set_option maxRecDepth 100000 in
set_option maxHeartbeats 8000000 in
theorem dict_any (bk : Nat) (r0 r1 : Value) (R2 : Nat) (E S : Nat → Nat) (d : Dc) (w : World) (hM : BMut w bk r0 r1 R2 E S d) (hS : Small d) (hI : ∀ j, j < d.m → 0 ≤ d.I j ∧ d.I j ≤ d.n) (hX : ∀ j, j < d.x → d.X j = 0 ∨ d.X j = -1 ∨ (0 < d.X j ∧ d.X j ≤ d.n)) :
    Calls Tryd.prog 16 #[.pointer (some ⟨bk, 0, none⟩)] w fun e w' => (∃ v0 v1 v2, e = .returned (DvV v0 v1 v2 d) ∧ DV d w' v0 v1 v2 w.heap.size w'.heap.size) ∧ Below w.heap.size w w' := by
  obtain ⟨i0, hi0, hz0, hz1, hz2⟩ := info_parts infoPair
  have hn := hS.n
  have hm := hS.m
  have hx := hS.x
  obtain ⟨a0, l0, e0⟩ := hM.log.slice
  obtain ⟨Q1, l1, e1⟩ := hM.rf
  subst e0 e1
  have hlt := hM.lt
  have c0 := hM.c0
  have c4 := hM.c4
  have c5 := hM.c5
  have c6 := hM.c6
  have mk1 := make_intsO d.m hm
  have mk2 := make_intsO d.x hx
  have HM := hide hM
  have HI := hide hI
  have HX := hide hX
  clear hM hS hI hX
  go_enter Tryd.func16, Tryd.ntmps16
  go_wp2_with fail
  refine wpN_held (HeldB bk d.used d.live d.turns) (by kernel_rfl) ?_
  change wpAnyH _ _ _ _ _ _ _ _ (World.drew _)
  have hB0 : ∀ o, Below w.heap.size w (w.alloc o) := fun o => (Below.refl _ _).alloc (Nat.le_refl _) _
  have hB0' : ∀ o, Below w.heap.size w (w.alloc o).drew := fun o => (hB0 o).drew
  have hS0 : ∀ o, HeldB bk d.used d.live d.turns (w.alloc o).drew := fun o => ⟨((hB0' o).cell (p := ⟨bk, 4, none⟩) hlt).trans c4, ((hB0' o).cell (p := ⟨bk, 5, none⟩) hlt).trans c5, ((hB0' o).cell (p := ⟨bk, 6, none⟩) hlt).trans c6⟩
  have hS0' := hS0 (.cells #[.slice none 0 0, .slice none 0 0, .slice none 0 0, .int .i64 0, .int .i64 0, .int .i64 0] 28)
  refine tk 0 (v := ?_) rfl (by kernel_rfl) (by rfl) ?_ (by assumption) ?_
  rotate_left
  · intro w' ⟨s0, s1, s2⟩; go_simp; first | done | with_reducible rfl
  simp only [Act.put, List.setIfInBounds_toArray, List.set_cons_succ, List.set_cons_zero]
  refine tk 1 (v := ?_) rfl (by kernel_rfl) (by rfl) ?_ (by assumption) ?_
  rotate_left
  · intro w' ⟨s0, s1, s2⟩; go_simp; first | done | with_reducible rfl
  simp only [Act.put, List.setIfInBounds_toArray, List.set_cons_succ, List.set_cons_zero]
  refine tk 2 (v := ?_) rfl (by kernel_rfl) (by rfl) ?_ (by assumption) ?_
  rotate_left
  · intro w' ⟨s0, s1, s2⟩; go_simp; first | done | with_reducible rfl
  simp only [Act.put, List.setIfInBounds_toArray, List.set_cons_succ, List.set_cons_zero]
  refine tk 3 (v := ?_) rfl (by kernel_rfl) (by rfl) ?_ (by assumption) ?_
  rotate_left
  · intro w' ⟨s0, s1, s2⟩; go_simp; first | done | with_reducible rfl
  simp only [Act.put, List.setIfInBounds_toArray, List.set_cons_succ, List.set_cons_zero]
  refine tk 4 (v := ?_) rfl (by kernel_rfl) (by rfl) ?_ (by assumption) ?_
  rotate_left
  · intro w' ⟨s0, s1, s2⟩; go_simp; first | done | with_reducible rfl
  simp only [Act.put, List.setIfInBounds_toArray, List.set_cons_succ, List.set_cons_zero]
  refine tk 5 (v := ?_) rfl (by kernel_rfl) (by rfl) ?_ (by assumption) ?_
  rotate_left
  · intro w' ⟨s0, s1, s2⟩; go_simp; first | done | with_reducible rfl
  simp only [Act.put, List.setIfInBounds_toArray, List.set_cons_succ, List.set_cons_zero]
  refine tk 6 (v := ?_) rfl (by kernel_rfl) (by rfl) ?_ (by assumption) ?_
  rotate_left
  · intro w' ⟨s0, s1, s2⟩; go_simp; first | done | with_reducible rfl
  simp only [Act.put, List.setIfInBounds_toArray, List.set_cons_succ, List.set_cons_zero]
  refine tk 7 (v := ?_) rfl (by kernel_rfl) (by rfl) ?_ (by assumption) ?_
  rotate_left
  · intro w' ⟨s0, s1, s2⟩; go_simp; first | done | with_reducible rfl
  simp only [Act.put, List.setIfInBounds_toArray, List.set_cons_succ, List.set_cons_zero]
  refine tk 8 (v := ?_) rfl (by kernel_rfl) (by rfl) ?_ (by assumption) ?_
  rotate_left
  · intro w' ⟨s0, s1, s2⟩; go_simp; first | done | with_reducible rfl
  simp only [Act.put, List.setIfInBounds_toArray, List.set_cons_succ, List.set_cons_zero]
  refine tk 9 (v := ?_) rfl (by kernel_rfl) (by rfl) ?_ (by assumption) ?_
  rotate_left
  · intro w' ⟨s0, s1, s2⟩; go_simp; first | done | with_reducible rfl
  simp only [Act.put, List.setIfInBounds_toArray, List.set_cons_succ, List.set_cons_zero]
  refine tk 10 (v := ?_) rfl (by kernel_rfl) (by rfl) ?_ (by assumption) ?_
  rotate_left
  · intro w' ⟨s0, s1, s2⟩; go_simp; first | done | with_reducible rfl
  simp only [Act.put, List.setIfInBounds_toArray, List.set_cons_succ, List.set_cons_zero]
  refine tk 11 (v := ?_) rfl (by kernel_rfl) (by rfl) ?_ (by assumption) ?_
  rotate_left
  · intro w' ⟨s0, s1, s2⟩; go_simp; first | done | with_reducible rfl
  simp only [Act.put, List.setIfInBounds_toArray, List.set_cons_succ, List.set_cons_zero]
  refine tk 12 (v := ?_) rfl (by kernel_rfl) (by rfl) ?_ (by assumption) ?_
  rotate_left
  · intro w' ⟨s0, s1, s2⟩; go_simp; first | done | with_reducible rfl
  simp only [Act.put, List.setIfInBounds_toArray, List.set_cons_succ, List.set_cons_zero]
  refine tk 13 (v := ?_) rfl (by kernel_rfl) (by rfl) ?_ (by assumption) ?_
  rotate_left
  · intro w' ⟨s0, s1, s2⟩; go_simp; first | done | with_reducible rfl
  simp only [Act.put, List.setIfInBounds_toArray, List.set_cons_succ, List.set_cons_zero]
  refine wpAnyH_ready (rs := [14]) (by kernel_rfl) (by simp) ?_
  refine AllReadyH.cons rfl (fun K hK => ?_) AllReadyH.nil
  go_simp
  refine hK.out _ _ ⟨(((hB0 _).alloc (by simp) _).drew.cell (p := ⟨bk, 4, none⟩) hlt).trans c4, (((hB0 _).alloc (by simp) _).drew.cell (p := ⟨bk, 5, none⟩) hlt).trans c5, (((hB0 _).alloc (by simp) _).drew.cell (p := ⟨bk, 6, none⟩) hlt).trans c6⟩ (fun hS1 => ?_)
  clear hK K
  refine wpAnyH_ready (rs := [15]) (by kernel_rfl) (by simp) ?_
  refine AllReadyH.cons rfl (fun K hK => ?_) AllReadyH.nil
  go_simp
  refine hK.out _ _ ⟨(((hB0 _).alloc (by simp) _).drew.cell (p := ⟨bk, 4, none⟩) hlt).trans c4, (((hB0 _).alloc (by simp) _).drew.cell (p := ⟨bk, 5, none⟩) hlt).trans c5, (((hB0 _).alloc (by simp) _).drew.cell (p := ⟨bk, 6, none⟩) hlt).trans c6⟩ (fun _ => ?_)
  clear hK K hS1 hS0 hS0'
  refine wpAnyH_done (by kernel_rfl) ?_ _
  refine QN.normal ?_
  obtain ⟨W1, hW1⟩ : ∃ W1, W1 = ((w.alloc (.cells #[.slice none 0 0, .slice none 0 0, .slice none 0 0, .int .i64 0, .int .i64 0, .int .i64 0] 28)).alloc (.cells #[.slice none 0 0, .slice none 0 0, .slice none 0 0, .int .i64 d.used, .int .i64 d.live, .int .i64 d.turns] 28)).drew := ⟨_, rfl⟩
  rw [← hW1]
  have hD1 : DWay w W1 (.slice none 0 0) (.slice none 0 0) (.slice none 0 0) d := by
    rw [hW1]
    refine ⟨(Deep.blk_alloc_lt _ _ _ (by simp)).trans (Deep.blk_alloc_new _ _), ?_, ((hB0 _).alloc (by simp) _).drew⟩
    have h1 := Deep.blk_alloc_new (w.alloc (.cells #[.slice none 0 0, .slice none 0 0, .slice none 0 0, .int .i64 0, .int .i64 0, .int .i64 0] 28)) (.cells #[.slice none 0 0, .slice none 0 0, .slice none 0 0, .int .i64 d.used, .int .i64 d.live, .int .i64 d.turns] 28)
    rw [World.size_alloc] at h1
    exact h1
  have c0' := (hD1.bel.cell (p := ⟨bk, 0, none⟩) hlt).trans c0
  have lb1 := Nat.lt_of_lt_of_le hlt hD1.bel.size
  have HD1 := hide hD1
  clear hD1 hW1 hB0 hB0' c0 c4 c5 c6
  go_wp2_with fail
  clear c0'
  go_loopw [29] (fun i wr => ∃ (k : Nat) (v0 : Value), k ≤ d.n ∧ i = .int .i64 (k : Int) ∧ POwn wr (w.heap.size + 2) v0 k d.L ∧ DWay w wr v0 (.slice none 0 0) (.slice none 0 0) d) (fun i _ => d.n - (intOf i).toNat)
  case atStart => exact ⟨0, .slice none 0 0, by omega, rfl, World.ownsRow_nil _ _ _ _, unhide HD1⟩
  case round =>
    clear HD1
    obtain ⟨k, v0, hk, rfl, hown, hW⟩ := hrel
    have hMr := (unhide HM).below hW.bel
    have hzr := hW.size
    by_cases hkn : k < d.n
    · obtain ⟨g0, cp0, e0, _, g0l, _, hg0, _⟩ := hMr.log.form (by omega)
      cases e0
      have rk := hg0 k hkn
      have he := hMr.ent k hkn
      have hel := he.lt
      have heb := ((unhide HM).ent k hkn).lt
      obtain ⟨x0, _, _, _, _, _, hfz⟩ := hW.cells
      have fx := hfz 0
      have hS0 : HeldP (E k) (d.L k) wr.drew := he.drew.held
      have HOW : Hid (POwn wr.drew (w.heap.size + 2) v0 k d.L) := hide hown.drew
      have HAPP : Hid (∀ (o : Obj) (g3 cp3 : Nat) (w3 : World), w3.ownsRow (w.heap.size + 2) 55 11 (.slice (some ⟨g3, 0, none⟩) (k + 1) cp3) (k + 1) (pL d.L k ++ prL (d.L k)) → (wr.drew.alloc o).grownBy w3 v0.ownBlock → HeldP (E k) (d.L k) w3 ∧ w3.cell? ⟨w.heap.size + 1, 0, none⟩ = some v0 ∧ w3.frozen? ⟨w.heap.size + 1, 0, none⟩ = false ∧ w.heap.size + 1 < w3.heap.size ∧ HeldP (E k) (d.L k) (w3.setCell ⟨w.heap.size + 1, 0, none⟩ (.slice (some ⟨g3, 0, none⟩) (k + 1) cp3)) ∧
          (POwn (w3.setCell ⟨w.heap.size + 1, 0, none⟩ (.slice (some ⟨g3, 0, none⟩) (k + 1) cp3)) (w.heap.size + 2) (.slice (some ⟨g3, 0, none⟩) (k + 1) cp3) (k + 1) d.L ∧ DWay w (w3.setCell ⟨w.heap.size + 1, 0, none⟩ (.slice (some ⟨g3, 0, none⟩) (k + 1) cp3)) (.slice (some ⟨g3, 0, none⟩) (k + 1) cp3) (.slice none 0 0) (.slice none 0 0) d)) := hide (fun o g3 cp3 w3 h1 h2 => by
        have hB : ∀ b, b < w.heap.size + 2 → w3.heap[b]? = wr.heap[b]? := fun b hb => (h2.block b (by simp; omega) (fun e => by have := (hown.lt b e.symm).1; omega)).trans (Deep.blk_alloc_lt _ _ _ (by show b < wr.heap.size; omega))
        have hz3 : wr.heap.size ≤ w3.heap.size := by have := h2.size; simp at this; omega
        have hW3 : DWay w w3 v0 (.slice none 0 0) (.slice none 0 0) d := hW.keep (hB _ (by omega)) (hB _ (by omega)) (((hW.bel.drew).alloc (by show w.heap.size ≤ wr.heap.size; omega) o).grown h2 (by simp; omega) (fun q e => by have := (hown.lt q e).1; omega))
        have he3 := he.keep hz3 (hB _ (by omega))
        obtain ⟨y0, _, _, _, _, _, yf⟩ := hW3.cells
        have hg3 := (World.ownsRow.lt h1 g3 rfl).1
        refine ⟨he3.held, y0, yf 0, by omega, (he3.keep (by simp) (Deep.blk_setCell_other _ _ _ _ (by show E k ≠ w.heap.size + 1; omega))).held, own_at h1 (fun q e => Deep.blk_setCell_other _ _ _ _ (by
          have e' : g3 = q := by simpa [Value.ownBlock] using e
          show q ≠ w.heap.size + 1
          omega)), hW3.set0⟩)
      clear hown hMr hg0 he hW hfz
      go_wp2_with fail
      refine wpN_held (HeldP (E k) (d.L k)) (by kernel_rfl) ?_
      change wpAnyH _ _ _ _ _ _ _ _ (World.drew _)
      refine tk 0 (v := ?_) rfl (by kernel_rfl) (by rfl) ?_ (by assumption) ?_
      rotate_left
      · intro w' ⟨s0, s1, s2, s3, s4, s5, s6, s7, s8, s9, s10⟩; go_simp; first | done | with_reducible rfl
      simp only [Act.put, List.setIfInBounds_toArray, List.set_cons_succ, List.set_cons_zero]
      refine tk 2 (v := ?_) rfl (by kernel_rfl) (by rfl) ?_ (by assumption) ?_
      rotate_left
      · intro w' ⟨s0, s1, s2, s3, s4, s5, s6, s7, s8, s9, s10⟩; go_simp; first | done | with_reducible rfl
      simp only [Act.put, List.setIfInBounds_toArray, List.set_cons_succ, List.set_cons_zero]
      refine tk 3 (v := ?_) rfl (by kernel_rfl) (by rfl) ?_ (by assumption) ?_
      rotate_left
      · intro w' ⟨s0, s1, s2, s3, s4, s5, s6, s7, s8, s9, s10⟩; go_simp; first | done | with_reducible rfl
      simp only [Act.put, List.setIfInBounds_toArray, List.set_cons_succ, List.set_cons_zero]
      refine tk 4 (v := ?_) rfl (by kernel_rfl) (by rfl) ?_ (by assumption) ?_
      rotate_left
      · intro w' ⟨s0, s1, s2, s3, s4, s5, s6, s7, s8, s9, s10⟩; go_simp; first | done | with_reducible rfl
      simp only [Act.put, List.setIfInBounds_toArray, List.set_cons_succ, List.set_cons_zero]
      refine tk 5 (v := ?_) rfl (by kernel_rfl) (by rfl) ?_ (by assumption) ?_
      rotate_left
      · intro w' ⟨s0, s1, s2, s3, s4, s5, s6, s7, s8, s9, s10⟩; go_simp; first | done | with_reducible rfl
      simp only [Act.put, List.setIfInBounds_toArray, List.set_cons_succ, List.set_cons_zero]
      refine wpAnyH_ready (rs := [1, 6]) (by kernel_rfl) (by simp) ?_
      refine AllReadyH.cons rfl (fun K hK => ?_) (AllReadyH.cons rfl (fun K hK => ?_) AllReadyH.nil)
      · go_simp
        refine hK.out _ _ hS0 (fun _ => ?_)
        clear hK K
        refine wpAnyH_ready (rs := [6]) (by kernel_rfl) (by simp) ?_
        refine AllReadyH.cons rfl (fun K hK => ?_) AllReadyH.nil
        go_simp
        refine hK.out _ _ (by obtain ⟨s0, s1, s2, s3, s4, s5, s6, s7, s8, s9, s10⟩ := hS0; exact (fun (hb : Below wr.heap.size wr _) => (⟨(hb.cell (p := ⟨E k, 0, none⟩) hel).trans s0, (hb.cell (p := ⟨E k, 1, none⟩) hel).trans s1, (hb.cell (p := ⟨E k, 2, none⟩) hel).trans s2, (hb.cell (p := ⟨E k, 3, none⟩) hel).trans s3, (hb.cell (p := ⟨E k, 4, none⟩) hel).trans s4, (hb.cell (p := ⟨E k, 5, none⟩) hel).trans s5, (hb.cell (p := ⟨E k, 6, none⟩) hel).trans s6, (hb.cell (p := ⟨E k, 7, none⟩) hel).trans s7, (hb.cell (p := ⟨E k, 8, none⟩) hel).trans s8, (hb.cell (p := ⟨E k, 9, none⟩) hel).trans s9, (hb.cell (p := ⟨E k, 10, none⟩) hel).trans s10⟩ : HeldP (E k) (d.L k) _)) ((Below.refl wr.heap.size wr).drew.alloc (Nat.le_refl _) _)) (fun hS1 => ?_)
        clear hK K
        refine wpAnyH_ready (rs := [7]) (by kernel_rfl) (by simp) ?_
        refine AllReadyH.cons rfl (fun K hK => ?_) AllReadyH.nil
        refine step_append_lies _ rfl (.tmp 34) (.tmp 39) 25 rfl (w.heap.size + 2) 55 i0 PZ 11 104 Tryd.underlying25 hi0 hz0 hz1 hz2 rfl (by decide) v0 k (pL d.L k) (by simp [Act.eval]) (World.ownsRow.alloc (unhide HOW) _) ⟨wr.heap.size, 0, none⟩ 1 1 (prL (d.L k)) (by simp [Act.eval]) rfl (World.news_of_block (Deep.blk_alloc_new _ _)) (prL_one _) (by decide) (by unfold maxLen; omega) (by omega) (by simp; omega) _ rfl ?_
        intro g3 cp3 w3 hown3 hgr3 hloc3 hlt3
        obtain ⟨hS3, x3, f3, l3, hS4, HN3⟩ := unhide HAPP _ g3 cp3 w3 hown3 hgr3
        clear hown3 hgr3 hloc3
        refine hK.out _ _ hS3 (fun hS3' => ?_)
        clear hK K
        refine tk 8 (v := ?_) rfl (by kernel_rfl) (by rfl) ?_ (by assumption) ?_
        rotate_left
        · intro w' ⟨s0, s1, s2, s3, s4, s5, s6, s7, s8, s9, s10⟩; go_simp; first | done | with_reducible rfl
        (try simp only [Act.put]); (try simp only [List.setIfInBounds_toArray]); (try simp only [List.set_cons_succ]); try simp only [List.set_cons_zero]
        refine wpAnyH_ready (rs := [9]) (by kernel_rfl) (by simp) ?_
        refine AllReadyH.cons rfl (fun K hK => ?_) AllReadyH.nil
        go_simp
        refine hK.out _ _ hS4 (fun _ => ?_)
        clear hK K hS0 hS3 hS3' hS4
        refine wpAnyH_done (by kernel_rfl) ?_ _
        refine QN.normal ?_
        have HN := hide HN3
        clear HN3 x3 f3
        go_wp2
        go_roundw
        case rel => exact ⟨k + 1, _, by omega, by go_num, (unhide HN).1, (unhide HN).2⟩
        case measure => simp [intOf]; omega
      · go_simp
        refine hK.out _ _ (by obtain ⟨s0, s1, s2, s3, s4, s5, s6, s7, s8, s9, s10⟩ := hS0; exact (fun (hb : Below wr.heap.size wr _) => (⟨(hb.cell (p := ⟨E k, 0, none⟩) hel).trans s0, (hb.cell (p := ⟨E k, 1, none⟩) hel).trans s1, (hb.cell (p := ⟨E k, 2, none⟩) hel).trans s2, (hb.cell (p := ⟨E k, 3, none⟩) hel).trans s3, (hb.cell (p := ⟨E k, 4, none⟩) hel).trans s4, (hb.cell (p := ⟨E k, 5, none⟩) hel).trans s5, (hb.cell (p := ⟨E k, 6, none⟩) hel).trans s6, (hb.cell (p := ⟨E k, 7, none⟩) hel).trans s7, (hb.cell (p := ⟨E k, 8, none⟩) hel).trans s8, (hb.cell (p := ⟨E k, 9, none⟩) hel).trans s9, (hb.cell (p := ⟨E k, 10, none⟩) hel).trans s10⟩ : HeldP (E k) (d.L k) _)) ((Below.refl wr.heap.size wr).drew.alloc (Nat.le_refl _) _)) (fun hS1 => ?_)
        clear hK K
        refine wpAnyH_ready (rs := [1]) (by kernel_rfl) (by simp) ?_
        refine AllReadyH.cons rfl (fun K hK => ?_) AllReadyH.nil
        go_simp
        refine hK.out _ _ hS1 (fun _ => ?_)
        clear hK K
        refine wpAnyH_ready (rs := [7]) (by kernel_rfl) (by simp) ?_
        refine AllReadyH.cons rfl (fun K hK => ?_) AllReadyH.nil
        refine step_append_lies _ rfl (.tmp 34) (.tmp 39) 25 rfl (w.heap.size + 2) 55 i0 PZ 11 104 Tryd.underlying25 hi0 hz0 hz1 hz2 rfl (by decide) v0 k (pL d.L k) (by simp [Act.eval]) (World.ownsRow.alloc (unhide HOW) _) ⟨wr.heap.size, 0, none⟩ 1 1 (prL (d.L k)) (by simp [Act.eval]) rfl (World.news_of_block (Deep.blk_alloc_new _ _)) (prL_one _) (by decide) (by unfold maxLen; omega) (by omega) (by simp; omega) _ rfl ?_
        intro g3 cp3 w3 hown3 hgr3 hloc3 hlt3
        obtain ⟨hS3, x3, f3, l3, hS4, HN3⟩ := unhide HAPP _ g3 cp3 w3 hown3 hgr3
        clear hown3 hgr3 hloc3
        refine hK.out _ _ hS3 (fun hS3' => ?_)
        clear hK K
        refine tk 8 (v := ?_) rfl (by kernel_rfl) (by rfl) ?_ (by assumption) ?_
        rotate_left
        · intro w' ⟨s0, s1, s2, s3, s4, s5, s6, s7, s8, s9, s10⟩; go_simp; first | done | with_reducible rfl
        (try simp only [Act.put]); (try simp only [List.setIfInBounds_toArray]); (try simp only [List.set_cons_succ]); try simp only [List.set_cons_zero]
        refine wpAnyH_ready (rs := [9]) (by kernel_rfl) (by simp) ?_
        refine AllReadyH.cons rfl (fun K hK => ?_) AllReadyH.nil
        go_simp
        refine hK.out _ _ hS4 (fun _ => ?_)
        clear hK K hS0 hS3 hS3' hS4
        refine wpAnyH_done (by kernel_rfl) ?_ _
        refine QN.normal ?_
        have HN := hide HN3
        clear HN3 x3 f3
        go_wp2
        go_roundw
        case rel => exact ⟨k + 1, _, by omega, by go_num, (unhide HN).1, (unhide HN).2⟩
        case measure => simp [intOf]; omega
    · have hk' : k = d.n := by omega
      subst hk'
      have HMr := hide hMr
      have HOW := hide hown
      have c1 := hMr.c1
      have lb := hMr.lt
      obtain ⟨x0, x1, x2, x3, x4, x5, hfz⟩ := hW.cells
      have fx1 := hfz 1
      have HW := hide hW
      clear hMr hown hW hfz
      go_wp2_with fail
      obtain ⟨g1, hg1⟩ : ∃ g1, g1 = wr.heap.size := ⟨_, rfl⟩
      obtain ⟨W2, hW2⟩ : ∃ W2, W2 = (wr.setCell ⟨w.heap.size + 1, 1, none⟩ (.slice (some ⟨wr.heap.size, 0, none⟩) d.m d.m)).alloc (.cells (madeCells #[Value.int .i64 0] d.m) 3) := ⟨_, rfl⟩
      rw [← hW2]
      have hP2 : IOwn W2 (w.heap.size + 2) (.slice (some ⟨g1, 0, none⟩) d.m d.m) d.m (upTo d.I 0) := by
        have h1 := IOwn.made (wr.setCell ⟨w.heap.size + 1, 1, none⟩ (.slice (some ⟨wr.heap.size, 0, none⟩) d.m d.m)) (w.heap.size + 2) d.m (by simp; omega) hm
        rw [show (wr.setCell ⟨w.heap.size + 1, 1, none⟩ (.slice (some ⟨wr.heap.size, 0, none⟩) d.m d.m)).heap.size = g1 by rw [hg1]; simp] at h1
        rw [hW2]
        exact h1.congr (fun i _ => if_neg (by omega))
      have hkp : ∀ b, b < g1 → b ≠ w.heap.size + 1 → W2.heap[b]? = wr.heap[b]? := fun b hb hne => by
        rw [hW2]
        exact (Deep.blk_alloc_lt _ _ _ (by simp; omega)).trans (Deep.blk_setCell_other _ _ _ _ (by exact hne))
      have hv0 : ∀ q, v0.ownBlock = some q → w.heap.size + 2 ≤ q ∧ q < g1 := fun q e => by have := (unhide HOW).lt q e; omega
      have hO2 : POwn W2 (w.heap.size + 2) v0 d.n d.L := own_at (unhide HOW) (fun q e => hkp q (hv0 q e).2 (by have := (hv0 q e).1; omega))
      have hD2 : DWay w W2 v0 (.slice (some ⟨g1, 0, none⟩) d.m d.m) (.slice none 0 0) d := by
        have h1 := (unhide HW).set1 (u := .slice (some ⟨g1, 0, none⟩) d.m d.m)
        rw [hg1] at h1 ⊢
        rw [hW2]
        exact h1.keep (Deep.blk_alloc_lt _ _ _ (by simp; omega)) (Deep.blk_alloc_lt _ _ _ (by simp; omega)) (h1.bel.alloc (by simp; omega) _)
      have hg1n : w.heap.size + 2 ≤ g1 := by omega
      have HL2 := hide (show IOwn W2 (w.heap.size + 2) (.slice (some ⟨g1, 0, none⟩) d.m d.m) d.m (upTo d.I 0) ∧ POwn W2 (w.heap.size + 2) v0 d.n d.L ∧ DWay w W2 v0 (.slice (some ⟨g1, 0, none⟩) d.m d.m) (.slice none 0 0) d from ⟨hP2, hO2, hD2⟩)
      rw [← hg1]
      have HV0 := hide hv0
      clear HMr HOW HW hP2 hkp hv0 hO2 hD2 hW2 hg1 x0 x1 x2 x3 x4 x5 fx1 c1 lb hzr hkn hk lb1
      go_loopw [55] (fun i wr => ∃ k : Nat, k ≤ d.m ∧ i = .int .i64 (k : Int) ∧ IOwn wr (w.heap.size + 2) (.slice (some ⟨g1, 0, none⟩) d.m d.m) d.m (upTo d.I k) ∧ POwn wr (w.heap.size + 2) v0 d.n d.L ∧ DWay w wr v0 (.slice (some ⟨g1, 0, none⟩) d.m d.m) (.slice none 0 0) d) (fun i _ => d.m - (intOf i).toNat)
      case atStart => exact ⟨0, by omega, rfl, (unhide HL2).1, (unhide HL2).2.1, (unhide HL2).2.2⟩
      case round =>
        clear HL2
        obtain ⟨k, hk, rfl, hP, hO, hW⟩ := hrel
        have hMr := (unhide HM).below hW.bel
        have hzr := hW.size
        by_cases hkn : k < d.m
        · obtain ⟨_, _, e1, _, _, _, hc1, _⟩ := hMr.ints.form (by omega)
          cases e1
          have rk : wr.cell? ⟨Q1, k, none⟩ = some (.pointer (entP E (d.I k))) := hc1 k hkn
          obtain ⟨_, _, e2, hgl, hgs, _, hgc, hgf⟩ := hP.form (by omega)
          cases e2
          have gk := hgc k hkn
          have gf := hgf k
          have hQl := World.block_lt_of_cell? _ _ rk
          dsimp only at hQl
          obtain ⟨hI1, hI2⟩ := unhide HI k hkn
          obtain ⟨x0, x1, _, _, _, _, hfz⟩ := hW.cells
          by_cases h0 : d.I k = 0
          · rw [h0, show entP E 0 = none from if_neg (by decide)] at rk
            have HN : Hid (IOwn wr (w.heap.size + 2) (.slice (some ⟨g1, 0, none⟩) d.m d.m) d.m (upTo d.I (k + 1)) ∧ POwn wr (w.heap.size + 2) v0 d.n d.L ∧ DWay w wr v0 (.slice (some ⟨g1, 0, none⟩) d.m d.m) (.slice none 0 0) d) := hide ⟨by rw [← upTo_zero d.I k h0]; exact hP, hO, hW⟩
            clear hP hO hW hMr hc1 hgc hgf hfz h0 hI1 hI2
            go_wp2
            go_roundw
            case rel => exact ⟨k + 1, by omega, by go_num, (unhide HN).1, (unhide HN).2.1, (unhide HN).2.2⟩
            case measure => simp [intOf]; omega
          · obtain ⟨q, hq⟩ : ∃ q : Nat, d.I k = (q : Int) + 1 := ⟨(d.I k - 1).toNat, by omega⟩
            have hqn : q < d.n := by omega
            rw [hq, show entP E ((q : Int) + 1) = some ⟨E q, 0, none⟩ by unfold entP; rw [if_pos (by omega), show ((q : Int) + 1 - 1).toNat = q by omega]] at rk
            have he := hMr.ent q hqn
            have hel := he.lt
            have heb := ((unhide HM).ent q hqn).lt
            have hwq : IntKind.i64.wrap ((q : Int) + 1) = (q : Int) + 1 := by rw [IntKind.wrap_i64]; omega
            have hS0 : HeldI (w.heap.size + 1) g1 d.m (E q) q wr.drew := ⟨x1, he.pl⟩
            have hS1 : HeldI (w.heap.size + 1) g1 d.m (E q) q (wr.setCell ⟨g1, k, none⟩ (.int .i64 ((q : Int) + 1))).drew := ⟨(cell_set_block (by omega)).trans x1, (cell_set_block (by omega)).trans he.pl⟩
            have HN : Hid (IOwn (wr.setCell ⟨g1, k, none⟩ (.int .i64 ((q : Int) + 1))).drew (w.heap.size + 2) (.slice (some ⟨g1, 0, none⟩) d.m d.m) d.m (upTo d.I (k + 1)) ∧ POwn (wr.setCell ⟨g1, k, none⟩ (.int .i64 ((q : Int) + 1))).drew (w.heap.size + 2) v0 d.n d.L ∧ DWay w (wr.setCell ⟨g1, k, none⟩ (.int .i64 ((q : Int) + 1))).drew v0 (.slice (some ⟨g1, 0, none⟩) d.m d.m) (.slice none 0 0) d) := hide (by
              refine ⟨?_, own_at hO (fun b e => Deep.blk_setCell_other _ _ _ _ (by have := unhide HV0 b e; show b ≠ g1; omega)), hW.keep (Deep.blk_setCell_other _ _ _ _ (by show w.heap.size ≠ g1; omega)) (Deep.blk_setCell_other _ _ _ _ (by show w.heap.size + 1 ≠ g1; omega)) (hW.bel.setCell (by show w.heap.size ≤ g1; omega) _).drew⟩
              have h1 := (hP.set hkn ((q : Int) + 1)).drew
              rw [← hq, upTo_step] at h1
              rw [← hq]
              exact h1)
            clear hP hO hW hMr hc1 hgc hgf hfz h0 hI1 hI2 he hq
            go_wp2_with fail
            refine wpN_held (HeldI (w.heap.size + 1) g1 d.m (E q) q) (by kernel_rfl) ?_
            change wpAnyH _ _ _ _ _ _ _ _ (World.drew _)
            refine tk 0 (v := ?_) rfl (by kernel_rfl) (by rfl) ?_ (by assumption) ?_
            rotate_left
            · intro w' ⟨s0, s1⟩; go_simp; first | done | with_reducible rfl
            simp only [Act.put, List.setIfInBounds_toArray, List.set_cons_succ, List.set_cons_zero]
            refine tk 1 (v := ?_) rfl (by kernel_rfl) (by rfl) ?_ (by assumption) ?_
            rotate_left
            · intro w' ⟨s0, s1⟩; go_simp; first | done | with_reducible rfl
            simp only [Act.put, List.setIfInBounds_toArray, List.set_cons_succ, List.set_cons_zero]
            refine tk 2 (v := ?_) rfl (by kernel_rfl) (by rfl) ?_ (by assumption) ?_
            rotate_left
            · intro w' ⟨s0, s1⟩; go_simp; first | done | with_reducible rfl
            simp only [Act.put, List.setIfInBounds_toArray, List.set_cons_succ, List.set_cons_zero]
            refine tk 3 (v := ?_) rfl (by kernel_rfl) (by rfl) ?_ (by assumption) ?_
            rotate_left
            · intro w' ⟨s0, s1⟩; go_simp; first | done | with_reducible rfl
            simp only [Act.put, List.setIfInBounds_toArray, List.set_cons_succ, List.set_cons_zero]
            refine tk 4 (v := ?_) rfl (by kernel_rfl) (by rfl) ?_ (by assumption) ?_
            rotate_left
            · intro w' ⟨s0, s1⟩; go_simp; first | done | with_reducible rfl
            simp only [Act.put, List.setIfInBounds_toArray, List.set_cons_succ, List.set_cons_zero]
            refine tk 5 (v := ?_) rfl (by kernel_rfl) (by rfl) ?_ (by assumption) ?_
            rotate_left
            · intro w' ⟨s0, s1⟩; go_simp; first | done | with_reducible rfl
            simp only [Act.put, List.setIfInBounds_toArray, List.set_cons_succ, List.set_cons_zero]
            refine tk 6 (v := ?_) rfl (by kernel_rfl) (by rfl) ?_ (by assumption) ?_
            rotate_left
            · intro w' ⟨s0, s1⟩; go_simp; first | done | with_reducible rfl
            simp only [Act.put, List.setIfInBounds_toArray, List.set_cons_succ, List.set_cons_zero]
            refine tk 7 (v := ?_) rfl (by kernel_rfl) (by rfl) ?_ (by assumption) ?_
            rotate_left
            · intro w' ⟨s0, s1⟩; go_simp; first | done | with_reducible rfl
            simp only [Act.put, List.setIfInBounds_toArray, List.set_cons_succ, List.set_cons_zero]
            refine tk 8 (v := ?_) rfl (by kernel_rfl) (by rfl) ?_ (by assumption) ?_
            rotate_left
            · intro w' ⟨s0, s1⟩; go_simp; first | done | with_reducible rfl
            simp only [Act.put, List.setIfInBounds_toArray, List.set_cons_succ, List.set_cons_zero]
            refine wpAnyH_ready (rs := [9]) (by kernel_rfl) (by simp) ?_
            refine AllReadyH.cons rfl (fun K hK => ?_) AllReadyH.nil
            go_simp
            refine hK.out _ _ hS1 (fun _ => ?_)
            clear hK K hS0 hS1
            refine wpAnyH_done (by kernel_rfl) ?_ _
            refine QN.normal ?_
            go_wp2
            go_roundw
            case rel => exact ⟨k + 1, by omega, by go_num, (unhide HN).1, (unhide HN).2.1, (unhide HN).2.2⟩
            case measure => simp [intOf]; omega
        · have hk' : k = d.m := by omega
          subst hk'
          have hP' : IOwn wr (w.heap.size + 2) (.slice (some ⟨g1, 0, none⟩) d.m d.m) d.m d.I := hP.congr (fun i hi => (if_pos hi).symm)
          have c3 := hMr.c3
          have lb := hMr.lt
          obtain ⟨x0, x1, x2, x3, x4, x5, hfz⟩ := hW.cells
          have fx2 := hfz 2
          have hg1l := (hP'.lt g1 rfl).2
          have HP := hide hP'
          have HO := hide hO
          have HW := hide hW
          clear hMr hP hP' hO hW hfz
          go_wp2_with fail
          obtain ⟨g2, hg2⟩ : ∃ g2, g2 = wr.heap.size := ⟨_, rfl⟩
          obtain ⟨W3, hW3⟩ : ∃ W3, W3 = (wr.setCell ⟨w.heap.size + 1, 2, none⟩ (.slice (some ⟨wr.heap.size, 0, none⟩) d.x d.x)).alloc (.cells (madeCells #[Value.int .i64 0] d.x) 3) := ⟨_, rfl⟩
          rw [← hW3]
          have hX3 : IOwn W3 (w.heap.size + 2) (.slice (some ⟨g2, 0, none⟩) d.x d.x) d.x (upTo d.X 0) := by
            have h1 := IOwn.made (wr.setCell ⟨w.heap.size + 1, 2, none⟩ (.slice (some ⟨wr.heap.size, 0, none⟩) d.x d.x)) (w.heap.size + 2) d.x (by simp; omega) hx
            rw [show (wr.setCell ⟨w.heap.size + 1, 2, none⟩ (.slice (some ⟨wr.heap.size, 0, none⟩) d.x d.x)).heap.size = g2 by rw [hg2]; simp] at h1
            rw [hW3]
            exact h1.congr (fun i _ => if_neg (by omega))
          have hkp : ∀ b, b < g2 → b ≠ w.heap.size + 1 → W3.heap[b]? = wr.heap[b]? := fun b hb hne => by
            rw [hW3]
            exact (Deep.blk_alloc_lt _ _ _ (by simp; omega)).trans (Deep.blk_setCell_other _ _ _ _ (by exact hne))
          have hO3 : POwn W3 (w.heap.size + 2) v0 d.n d.L := own_at (unhide HO) (fun q e => hkp q (by have := unhide HV0 q e; omega) (by have := unhide HV0 q e; omega))
          have hP3 : IOwn W3 (w.heap.size + 2) (.slice (some ⟨g1, 0, none⟩) d.m d.m) d.m d.I := own_at (unhide HP) (fun q e => by
            have e' : g1 = q := by simpa [Value.ownBlock] using e
            exact hkp q (by omega) (by omega))
          have hD3 : DWay w W3 v0 (.slice (some ⟨g1, 0, none⟩) d.m d.m) (.slice (some ⟨g2, 0, none⟩) d.x d.x) d := by
            have h1 := (unhide HW).set2 (u := .slice (some ⟨g2, 0, none⟩) d.x d.x)
            rw [hg2] at h1 ⊢
            rw [hW3]
            exact h1.keep (Deep.blk_alloc_lt _ _ _ (by simp; omega)) (Deep.blk_alloc_lt _ _ _ (by simp; omega)) (h1.bel.alloc (by simp; omega) _)
          have hg12 : g1 < g2 := by omega
          have HL3 := hide (show IOwn W3 (w.heap.size + 2) (.slice (some ⟨g2, 0, none⟩) d.x d.x) d.x (upTo d.X 0) ∧ IOwn W3 (w.heap.size + 2) (.slice (some ⟨g1, 0, none⟩) d.m d.m) d.m d.I ∧ POwn W3 (w.heap.size + 2) v0 d.n d.L ∧ DWay w W3 v0 (.slice (some ⟨g1, 0, none⟩) d.m d.m) (.slice (some ⟨g2, 0, none⟩) d.x d.x) d from ⟨hX3, hP3, hO3, hD3⟩)
          rw [← hg2]
          clear HP HO HW hX3 hP3 hO3 hD3 hkp hW3 hg2 x0 x1 x2 x3 x4 x5 fx2 c3 lb hzr hkn hk hg1l
          go_loopw [86] (fun i wr => ∃ k : Nat, k ≤ d.x ∧ i = .int .i64 (k : Int) ∧ IOwn wr (w.heap.size + 2) (.slice (some ⟨g2, 0, none⟩) d.x d.x) d.x (upTo d.X k) ∧ IOwn wr (w.heap.size + 2) (.slice (some ⟨g1, 0, none⟩) d.m d.m) d.m d.I ∧ POwn wr (w.heap.size + 2) v0 d.n d.L ∧ DWay w wr v0 (.slice (some ⟨g1, 0, none⟩) d.m d.m) (.slice (some ⟨g2, 0, none⟩) d.x d.x) d) (fun i _ => d.x - (intOf i).toNat)
          case atStart => exact ⟨0, by omega, rfl, (unhide HL3).1, (unhide HL3).2.1, (unhide HL3).2.2.1, (unhide HL3).2.2.2⟩
          case round =>
            clear HL3
            obtain ⟨k, hk, rfl, hX', hP, hO, hW⟩ := hrel
            have hMr := (unhide HM).below hW.bel
            have hzr := hW.size
            obtain ⟨x0, x1, x2, x3, x4, x5, hfz⟩ := hW.cells
            by_cases hkn : k < d.x
            · obtain ⟨_, _, e1, _, _, _, hc1, _⟩ := hMr.slots.form (by omega)
              cases e1
              have rk : wr.cell? ⟨R2, k, none⟩ = some (.pointer (sltP S k (d.X k))) := hc1 k hkn
              obtain ⟨_, _, e2, hgl, hgs, _, hgc, hgf⟩ := hX'.form (by omega)
              cases e2
              have gk := hgc k hkn
              have gf := hgf k
              have hQl := World.block_lt_of_cell? _ _ rk
              dsimp only at hQl
              have hsl := hMr.sl k hkn
              have SETX : ∀ x : Int, d.X k = x → IOwn (wr.setCell ⟨g2, k, none⟩ (.int .i64 x)) (w.heap.size + 2) (.slice (some ⟨g2, 0, none⟩) d.x d.x) d.x (upTo d.X (k + 1)) ∧ IOwn (wr.setCell ⟨g2, k, none⟩ (.int .i64 x)) (w.heap.size + 2) (.slice (some ⟨g1, 0, none⟩) d.m d.m) d.m d.I ∧ POwn (wr.setCell ⟨g2, k, none⟩ (.int .i64 x)) (w.heap.size + 2) v0 d.n d.L ∧ DWay w (wr.setCell ⟨g2, k, none⟩ (.int .i64 x)) v0 (.slice (some ⟨g1, 0, none⟩) d.m d.m) (.slice (some ⟨g2, 0, none⟩) d.x d.x) d := fun x hx' => by
                refine ⟨?_, own_at hP (fun b e => Deep.blk_setCell_other _ _ _ _ (by
                  have e' : g1 = b := by simpa [Value.ownBlock] using e
                  show b ≠ g2
                  omega)), own_at hO (fun b e => Deep.blk_setCell_other _ _ _ _ (by have := unhide HV0 b e; show b ≠ g2; omega)), hW.keep (Deep.blk_setCell_other _ _ _ _ (by show w.heap.size ≠ g2; omega)) (Deep.blk_setCell_other _ _ _ _ (by show w.heap.size + 1 ≠ g2; omega)) (hW.bel.setCell (by show w.heap.size ≤ g2; omega) _)⟩
                have h1 := hX'.set hkn x
                rw [← hx', upTo_step] at h1
                rw [← hx']
                exact h1
              have HSETX := hide SETX
              rcases unhide HX k hkn with h0 | h0 | ⟨h0, h0'⟩
              · rw [h0, show sltP S k 0 = none from if_pos rfl] at rk
                have HN : Hid (IOwn wr (w.heap.size + 2) (.slice (some ⟨g2, 0, none⟩) d.x d.x) d.x (upTo d.X (k + 1)) ∧ IOwn wr (w.heap.size + 2) (.slice (some ⟨g1, 0, none⟩) d.m d.m) d.m d.I ∧ POwn wr (w.heap.size + 2) v0 d.n d.L ∧ DWay w wr v0 (.slice (some ⟨g1, 0, none⟩) d.m d.m) (.slice (some ⟨g2, 0, none⟩) d.x d.x) d) := hide ⟨by rw [← upTo_zero d.X k h0]; exact hX', hP, hO, hW⟩
                clear hX' hP hO hW hMr hc1 hgc hgf hfz h0 hsl SETX HSETX
                go_wp2
                go_roundw
                case rel => exact ⟨k + 1, by omega, by go_num, (unhide HN).1, (unhide HN).2.1, (unhide HN).2.2.1, (unhide HN).2.2.2⟩
                case measure => simp [intOf]; omega
              · rw [h0, show sltP S k (-1) = some ⟨S k, 0, none⟩ from if_neg (by decide)] at rk
                have hgc' := hsl.2 (by omega)
                have gg := hgc'.gn
                have hsz := hgc'.lt
                have HN := hide (SETX (-1) h0)
                clear hX' hP hO hW hMr hc1 hgc hgf hfz h0 hsl SETX HSETX hgc'
                go_wp2
                go_roundw
                case rel => exact ⟨k + 1, by omega, by go_num, (unhide HN).1, (unhide HN).2.1, (unhide HN).2.2.1, (unhide HN).2.2.2⟩
                case measure => simp [intOf]; omega
              · obtain ⟨q, hq⟩ : ∃ q : Nat, d.X k = (q : Int) + 1 := ⟨(d.X k - 1).toNat, by omega⟩
                have hqn : q < d.n := by omega
                rw [show sltP S k (d.X k) = some ⟨S k, 0, none⟩ from if_neg (by omega)] at rk
                have hsc : SCell wr (S k) (d.at (d.X k)).key (E (d.X k - 1).toNat) := hsl.1 h0
                rw [show (d.X k - 1).toNat = q by omega] at hsc
                have gg := hsc.gn
                have gp := hsc.pt
                have hsz := hsc.lt
                have he := hMr.ent q hqn
                have hel := he.lt
                have heb := ((unhide HM).ent q hqn).lt
                have hsb : S k ≠ g2 := fun e => by
                  obtain ⟨cc, hcc⟩ : ∃ cc, wr.heap[g2]? = some (.cells cc 3 (0, 0)) := by
                    obtain ⟨_, ⟨hv, _⟩ | ⟨g, cap, cur, hv, _, hblk, _⟩⟩ := hX'
                    · cases hv
                    · cases hv
                      exact ⟨cur, hblk⟩
                  exact type_apart (e ▸ hsc.ob) hcc (by decide)
                have hwq : IntKind.i64.wrap ((q : Int) + 1) = (q : Int) + 1 := by rw [IntKind.wrap_i64]; omega
                have hS0 : HeldX (w.heap.size + 1) g2 d.x (S k) (E q) q wr.drew := ⟨x2, gp, he.pl⟩
                have hS1 : HeldX (w.heap.size + 1) g2 d.x (S k) (E q) q (wr.setCell ⟨g2, k, none⟩ (.int .i64 ((q : Int) + 1))).drew := ⟨(cell_set_block (by omega)).trans x2, (cell_set_block (fun e => hsb e.symm)).trans gp, (cell_set_block (by omega)).trans he.pl⟩
                have HN := hide (SETX ((q : Int) + 1) hq)
                clear hX' hP hO hW hMr hc1 hgc hgf hfz h0 h0' hsl SETX HSETX he hsc hq
                go_wp2_with fail
                refine wpN_held (HeldX (w.heap.size + 1) g2 d.x (S k) (E q) q) (by kernel_rfl) ?_
                change wpAnyH _ _ _ _ _ _ _ _ (World.drew _)
                refine tk 0 (v := ?_) rfl (by kernel_rfl) (by rfl) ?_ (by assumption) ?_
                rotate_left
                · intro w' ⟨s0, s1, s2⟩; go_simp; first | done | with_reducible rfl
                simp only [Act.put, List.setIfInBounds_toArray, List.set_cons_succ, List.set_cons_zero]
                refine tk 1 (v := ?_) rfl (by kernel_rfl) (by rfl) ?_ (by assumption) ?_
                rotate_left
                · intro w' ⟨s0, s1, s2⟩; go_simp; first | done | with_reducible rfl
                simp only [Act.put, List.setIfInBounds_toArray, List.set_cons_succ, List.set_cons_zero]
                refine tk 2 (v := ?_) rfl (by kernel_rfl) (by rfl) ?_ (by assumption) ?_
                rotate_left
                · intro w' ⟨s0, s1, s2⟩; go_simp; first | done | with_reducible rfl
                simp only [Act.put, List.setIfInBounds_toArray, List.set_cons_succ, List.set_cons_zero]
                refine tk 3 (v := ?_) rfl (by kernel_rfl) (by rfl) ?_ (by assumption) ?_
                rotate_left
                · intro w' ⟨s0, s1, s2⟩; go_simp; first | done | with_reducible rfl
                simp only [Act.put, List.setIfInBounds_toArray, List.set_cons_succ, List.set_cons_zero]
                refine tk 4 (v := ?_) rfl (by kernel_rfl) (by rfl) ?_ (by assumption) ?_
                rotate_left
                · intro w' ⟨s0, s1, s2⟩; go_simp; first | done | with_reducible rfl
                simp only [Act.put, List.setIfInBounds_toArray, List.set_cons_succ, List.set_cons_zero]
                refine tk 5 (v := ?_) rfl (by kernel_rfl) (by rfl) ?_ (by assumption) ?_
                rotate_left
                · intro w' ⟨s0, s1, s2⟩; go_simp; first | done | with_reducible rfl
                simp only [Act.put, List.setIfInBounds_toArray, List.set_cons_succ, List.set_cons_zero]
                refine tk 6 (v := ?_) rfl (by kernel_rfl) (by rfl) ?_ (by assumption) ?_
                rotate_left
                · intro w' ⟨s0, s1, s2⟩; go_simp; first | done | with_reducible rfl
                simp only [Act.put, List.setIfInBounds_toArray, List.set_cons_succ, List.set_cons_zero]
                refine tk 7 (v := ?_) rfl (by kernel_rfl) (by rfl) ?_ (by assumption) ?_
                rotate_left
                · intro w' ⟨s0, s1, s2⟩; go_simp; first | done | with_reducible rfl
                simp only [Act.put, List.setIfInBounds_toArray, List.set_cons_succ, List.set_cons_zero]
                refine tk 8 (v := ?_) rfl (by kernel_rfl) (by rfl) ?_ (by assumption) ?_
                rotate_left
                · intro w' ⟨s0, s1, s2⟩; go_simp; first | done | with_reducible rfl
                simp only [Act.put, List.setIfInBounds_toArray, List.set_cons_succ, List.set_cons_zero]
                refine tk 9 (v := ?_) rfl (by kernel_rfl) (by rfl) ?_ (by assumption) ?_
                rotate_left
                · intro w' ⟨s0, s1, s2⟩; go_simp; first | done | with_reducible rfl
                simp only [Act.put, List.setIfInBounds_toArray, List.set_cons_succ, List.set_cons_zero]
                refine tk 10 (v := ?_) rfl (by kernel_rfl) (by rfl) ?_ (by assumption) ?_
                rotate_left
                · intro w' ⟨s0, s1, s2⟩; go_simp; first | done | with_reducible rfl
                simp only [Act.put, List.setIfInBounds_toArray, List.set_cons_succ, List.set_cons_zero]
                refine tk 11 (v := ?_) rfl (by kernel_rfl) (by rfl) ?_ (by assumption) ?_
                rotate_left
                · intro w' ⟨s0, s1, s2⟩; go_simp; first | done | with_reducible rfl
                simp only [Act.put, List.setIfInBounds_toArray, List.set_cons_succ, List.set_cons_zero]
                refine wpAnyH_ready (rs := [12]) (by kernel_rfl) (by simp) ?_
                refine AllReadyH.cons rfl (fun K hK => ?_) AllReadyH.nil
                go_simp
                refine hK.out _ _ hS1 (fun _ => ?_)
                clear hK K hS0 hS1
                refine wpAnyH_done (by kernel_rfl) ?_ _
                refine QN.normal ?_
                go_wp2
                go_roundw
                case rel => exact ⟨k + 1, by omega, by go_num, (unhide HN).1.drew, (unhide HN).2.1.drew, (unhide HN).2.2.1.drew, (unhide HN).2.2.2.keep rfl rfl (unhide HN).2.2.2.bel.drew⟩
                case measure => simp [intOf]; omega
            · have hk' : k = d.x := by omega
              subst hk'
              have y0 : wr.cell? ⟨w.heap.size, 0, none⟩ = some (.slice none 0 0) := by simp [World.cell?, hW.b0]
              have y1 : wr.cell? ⟨w.heap.size, 1, none⟩ = some (.slice none 0 0) := by simp [World.cell?, hW.b0]
              have y2 : wr.cell? ⟨w.heap.size, 2, none⟩ = some (.slice none 0 0) := by simp [World.cell?, hW.b0]
              have y3 : wr.cell? ⟨w.heap.size, 3, none⟩ = some (.int .i64 0) := by simp [World.cell?, hW.b0]
              have y4 : wr.cell? ⟨w.heap.size, 4, none⟩ = some (.int .i64 0) := by simp [World.cell?, hW.b0]
              have y5 : wr.cell? ⟨w.heap.size, 5, none⟩ = some (.int .i64 0) := by simp [World.cell?, hW.b0]
              have yf : ∀ q, wr.frozen? ⟨w.heap.size, q, none⟩ = false := fun q => by simp [World.frozen?, hW.b0]
              have hyl : w.heap.size < wr.heap.size := by omega
              have hX'' : IOwn wr (w.heap.size + 2) (.slice (some ⟨g2, 0, none⟩) d.x d.x) d.x d.X := hX'.congr (fun i hi => (if_pos hi).symm)
              obtain ⟨va, vc, ev⟩ : ∃ va vc, v0 = .slice va d.n vc := by
                obtain ⟨_, ⟨hv, h0⟩ | ⟨g, cap, cur, hv, _⟩⟩ := hO
                · exact ⟨none, 0, by rw [hv, h0]⟩
                · exact ⟨_, _, hv⟩
              subst ev
              have HFIN : Hid (∀ W' : World, Below (w.heap.size) w W' → wr.heap.size ≤ W'.heap.size → (∀ b, w.heap.size + 2 ≤ b → W'.heap[b]? = wr.heap[b]?) → DV d W' (.slice va d.n vc) (.slice (some ⟨g1, 0, none⟩) d.m d.m) (.slice (some ⟨g2, 0, none⟩) d.x d.x) w.heap.size W'.heap.size) := hide (fun W' hB hz hb => by
                have o0 : POwn W' w.heap.size (.slice va d.n vc) d.n d.L := own_mono (own_at hO (fun q e => hb q (hO.lt q e).1)) (by omega)
                have o1 : IOwn W' w.heap.size (.slice (some ⟨g1, 0, none⟩) d.m d.m) d.m d.I := own_mono (own_at hP (fun q e => hb q (hP.lt q e).1)) (by omega)
                have o2 : IOwn W' w.heap.size (.slice (some ⟨g2, 0, none⟩) d.x d.x) d.x d.X := own_mono (own_at hX'' (fun q e => hb q (hX''.lt q e).1)) (by omega)
                refine ⟨PrV.of o0, InV.of o1, InV.of o2, fun q e e' => ?_, fun q e e' => ?_, fun q e e' => ?_⟩
                · have := (unhide HV0 q e).2
                  have e2 : g1 = q := by simpa [Value.ownBlock] using e'
                  omega
                · have := (unhide HV0 q e).2
                  have e2 : g2 = q := by simpa [Value.ownBlock] using e'
                  omega
                · have e1 : g1 = q := by simpa [Value.ownBlock] using e
                  have e2 : g2 = q := by simpa [Value.ownBlock] using e'
                  omega)
              have HBW := hide hW.bel
              clear hX' hX'' hP hO hW hMr hfz
              go_wp2
              refine bodyPost_ret (v := DvV (.slice va d.n vc) (.slice (some ⟨g1, 0, none⟩) d.m d.m) (.slice (some ⟨g2, 0, none⟩) d.x d.x) d) (by simp [results, Tryd.results16, go_sem, y0, y1, y2, y3, y4, y5]) rfl ?_
              have hbel : Below w.heap.size w ((((((wr.setCell ⟨w.heap.size, 0, none⟩ (.slice va d.n vc)).setCell ⟨w.heap.size, 1, none⟩ (.slice (some ⟨g1, 0, none⟩) d.m d.m)).setCell ⟨w.heap.size, 2, none⟩ (.slice (some ⟨g2, 0, none⟩) d.x d.x)).setCell ⟨w.heap.size, 3, none⟩ (.int .i64 d.used)).setCell ⟨w.heap.size, 4, none⟩ (.int .i64 d.live)).setCell ⟨w.heap.size, 5, none⟩ (.int .i64 d.turns)) := by
                iterate 6 (refine Below.setCell ?_ (by exact Nat.le_refl _) _)
                exact unhide HBW
              refine ⟨⟨_, _, _, rfl, unhide HFIN _ hbel (by simp) (fun b hb => ?_)⟩, hbel⟩
              iterate 6 (refine (Deep.blk_setCell_other _ _ _ _ (by show b ≠ w.heap.size; omega)).trans ?_)
              rfl
end Go.Proofs.YtglcaejddckleaaDoor
