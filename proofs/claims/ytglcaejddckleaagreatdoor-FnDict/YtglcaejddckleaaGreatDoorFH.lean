import Derived.Test.YtglcaejddckleaaGreatDoorFG
import Derived.Test.YtglcaejddckleaaGreatDoorFC
import Derived.Test.YtglcaejddckleaaGreatDoorFB
import Derived.Test.YtglcaejddckleaaGreatDoorFA
set_option linter.unusedVariables false
namespace Go.Proofs.YtglcaejddckleaaGreatDoor
section
open Go.RowKit
attribute [local go_sem] run_store_float run_equalIn_float
theorem BMut.setE {w w' : World} {bk : Nat} {r0 r1 : Value} {R2 : Nat} {E S : Nat → Nat} {d : Dc} (h : BMut w bk r0 r1 R2 E S d) {p : Nat} (hp : p < d.n) {q : Pr} (hz : w'.heap.size = w.heap.size) (hb : ∀ b, b ≠ E p → w'.heap[b]? = w.heap[b]?) (he : w'.heap[E p]? = some (.cells (entA q p) 92 (0, 0))) (hk : q.key = (d.L p).key ∨ ∀ j, j < d.x → d.X j ≠ (p : Int) + 1) : BMut w' bk r0 r1 R2 E S { d with L := upd d.L p q } := by
 have hep := h.ent p hp
 have hbk : E p ≠ bk := by have := h.eb p hp; omega
 have hc : ∀ q, w'.cell? ⟨bk, q, none⟩ = w.cell? ⟨bk, q, none⟩ := fun q => World.cell?_of_block (a := ⟨bk, q, none⟩) (hb bk (fun e => hbk e.symm))
 have kr : ∀ {t : TypeId} {v : Value} {n : Nat} {f : Nat → Option Addr}, Rw w (bk + 1) t v n f → t ≠ 92 → Rw w' (bk + 1) t v n f := fun {t v n f} hh ht => own_at hh (fun b e => hb b (fun e' => by
  obtain ⟨c, hb'⟩ := hh.block e
  rw [e'] at hb'
  exact type_apart hb' hep.ob ht))
 refine ⟨by rw [hz]; exact h.lt, (hc _).trans h.c0, (hc _).trans h.c1, (hc _).trans h.c2, (hc _).trans h.c3, (hc _).trans h.c4, (hc _).trans h.c5, (hc _).trans h.c6, fun q => (World.frozen?_of_block (a := ⟨bk, q, none⟩) (hb bk (fun e => hbk e.symm))).trans (h.fz q), kr h.log (by decide), kr h.ints (by decide), h.rf, kr h.slots (by decide), h.ap, fun i hi => ?_, h.eb, h.inj, fun j hj => ?_, h.sg⟩
 ·show ECell w' (E i) (upd d.L p q i) i
  by_cases e : i = p
  ·subst e; rw [upd_same]; exact ECell.of_ob he
  ·rw [upd_other _ _ e]
   exact (h.ent i hi).keep (by omega) (hb _ (fun e' => e (h.inj i p hi hp e')))
 ·have hs := (h.sl j hj).keep (w' := w') (by omega) (fun c hc' => hb _ (fun e => by
   rw [e] at hc'
   exact type_apart hc' hep.ob (by decide)))
  refine ⟨fun h0 => ?_, hs.2⟩
  have h1 := hs.1 h0
  show SCell w' (S j) (upd d.L p q (d.X j - 1).toNat).key (E (d.X j - 1).toNat)
  by_cases e : (d.X j - 1).toNat = p
  ·rw [e, upd_same]
   rcases hk with hk | hk
   ·rw [hk]
    have h2 : SCell w' (S j) (d.L (d.X j - 1).toNat).key (E (d.X j - 1).toNat) := h1
    rw [e] at h2
    exact h2
   ·have h0' : 0 < d.X j := h0
    exact absurd (show d.X j = (p : Int) + 1 by omega) (hk j hj)
  ·rw [upd_other _ _ e]
   exact h1
def valSet (w : World) (b : Nat) (v : Vl) : World := ((((w.setCell ⟨b, 5, none⟩ (.int .i64 v.kind)).setCell ⟨b, 6, none⟩ (.int .i64 v.num)).setCell ⟨b, 7, none⟩ (.float .f64 v.flt)).setCell ⟨b, 8, none⟩ (.string v.str)).setCell ⟨b, 9, none⟩ (.int .i64 v.ref)
def pairZero (w : World) (b : Nat) : World := ((((((((((w.setCell ⟨b, 0, none⟩ (.int .i64 0)).setCell ⟨b, 1, none⟩ (.int .i64 0)).setCell ⟨b, 2, none⟩ (.float .f64 0)).setCell ⟨b, 3, none⟩ (.string ⟨#[]⟩)).setCell ⟨b, 4, none⟩ (.int .i64 0)).setCell ⟨b, 5, none⟩ (.int .i64 0)).setCell ⟨b, 6, none⟩ (.int .i64 0)).setCell ⟨b, 7, none⟩ (.float .f64 0)).setCell ⟨b, 8, none⟩ (.string ⟨#[]⟩)).setCell ⟨b, 9, none⟩ (.int .i64 0)).setCell ⟨b, 10, none⟩ (.int .i64 0)
theorem valSet_other {w : World} {b b' : Nat} {v : Vl} (h : b' ≠ b) : (valSet w b v).heap[b']? = w.heap[b']? := by
 unfold valSet
 iterate 5 (refine (Deep.blk_setCell_other _ _ _ _ (by exact h)).trans ?_)
 rfl
theorem pairZero_other {w : World} {b b' : Nat} (h : b' ≠ b) : (pairZero w b).heap[b']? = w.heap[b']? := by
 unfold pairZero
 iterate 11 (refine (Deep.blk_setCell_other _ _ _ _ (by exact h)).trans ?_)
 rfl
theorem valSet_same {w : World} {b : Nat} {p : Pr} {i : Nat} {v : Vl} (h : ECell w b p i) : (valSet w b v).heap[b]? = some (.cells (entA ⟨p.key, v, p.turn⟩ i) 92 (0, 0)) := by
 have h1 := heap_setCell_same w b 5 _ _ (.int .i64 v.kind) h.ob
 have h2 := heap_setCell_same _ b 6 _ _ (.int .i64 v.num) h1
 have h3 := heap_setCell_same _ b 7 _ _ (.float .f64 v.flt) h2
 have h4 := heap_setCell_same _ b 8 _ _ (.string v.str) h3
 have h5 := heap_setCell_same _ b 9 _ _ (.int .i64 v.ref) h4
 exact h5.trans (by simp [entA])
theorem pairZero_same {w : World} {b : Nat} {p : Pr} {i : Nat} (h : ECell w b p i) : (pairZero w b).heap[b]? = some (.cells (entA default i) 92 (0, 0)) := by
 have h1 := heap_setCell_same w b 0 _ _ (.int .i64 0) h.ob
 have h2 := heap_setCell_same _ b 1 _ _ (.int .i64 0) h1
 have h3 := heap_setCell_same _ b 2 _ _ (.float .f64 0) h2
 have h4 := heap_setCell_same _ b 3 _ _ (.string ⟨#[]⟩) h3
 have h5 := heap_setCell_same _ b 4 _ _ (.int .i64 0) h4
 have h6 := heap_setCell_same _ b 5 _ _ (.int .i64 0) h5
 have h7 := heap_setCell_same _ b 6 _ _ (.int .i64 0) h6
 have h8 := heap_setCell_same _ b 7 _ _ (.float .f64 0) h7
 have h9 := heap_setCell_same _ b 8 _ _ (.string ⟨#[]⟩) h8
 have h10 := heap_setCell_same _ b 9 _ _ (.int .i64 0) h9
 have h11 := heap_setCell_same _ b 10 _ _ (.int .i64 0) h10
 exact h11.trans (by simp [entA]; exact ⟨rfl, rfl, rfl, rfl, rfl, rfl, rfl, rfl, rfl, rfl, rfl⟩)
theorem valSet_below {w : World} {bk b : Nat} {v : Vl} (h : bk ≤ b) : Below bk w (valSet w b v) := by
 unfold valSet
 iterate 5 (refine Below.setCell ?_ (by exact h) _)
 exact Below.refl _ _
theorem pairZero_below {w : World} {bk b : Nat} (h : bk ≤ b) : Below bk w (pairZero w b) := by
 unfold pairZero
 iterate 11 (refine Below.setCell ?_ (by exact h) _)
 exact Below.refl _ _
theorem valSet_size {w : World} {b : Nat} {v : Vl} : (valSet w b v).heap.size = w.heap.size := by unfold valSet; simp
theorem pairZero_size {w : World} {b : Nat} : (pairZero w b).heap.size = w.heap.size := by unfold pairZero; simp
theorem tight_any (T : World → Prop) (hTl : Lasts T) (hf : Vl → Nat) (K : Vl → Prop) (hHs : ∀ v, K v → HsI T v (hf v)) (bk : Nat) (hTb : ∀ w w', T w → Below bk w w' → T w') (r0 r1 : Value) (R2 : Nat) (E S : Nat → Nat) (d : Dc) (W : World) (hT : T W) (hM : BMut W bk r0 r1 R2 E S d) (hS : Small d) (hI : Inv0 K hf d) (hlo : looseK d) :
  Calls Tryz.prog 124 #[.pointer (some ⟨bk, 0, none⟩)] W fun e w' => ((∃ u, e = .returned u) ∧ ∃ r0' R2' E2 S', BMut w' bk r0' r1 R2' E2 S' (compactD hf d)) ∧ Below bk W w' := by
 refine (tighten_any T hTl hf bk hTb r0 r1 R2 E S d W hT hM hS (fun i hi ht => hHs _ (hI.keys i hi ht)) (by have := hI.core.live_n; have := hI.le; omega) (fun j hj => by
  rcases hI.ints j hj with e | e
  ·exact .inl e
  ·exact .inr ⟨e.1, e.2.1, e.2.2.1⟩) (fun j hj h0 => by
  rcases hI.idx.range j hj with e | e | ⟨e1, e2, e3, _⟩
  ·omega
  ·omega
  ·exact ⟨by omega, e3⟩)).mono ?_
 rintro e w' ⟨⟨hu, r0', R2', E2, S', hN⟩, hkx⟩
 exact ⟨⟨hu, r0', R2', E2, S', hN.compact hI.core (by have := hlo.1; have := hlo.2; omega)⟩, hkx.bel⟩
theorem loose_not {hf : Vl → Nat} {d : Dc} (h : ¬ looseK d) : compactD hf d = d := if_pos (by
 by_cases h8 : (d.n : Int) < 8
 ·exact .inl h8
 ·exact .inr (by
   refine Classical.byContradiction fun h2 => h ⟨by omega, by omega⟩))
end
section
open Go.RowKit
attribute [local go_sem] run_store_float run_equalIn_float
set_option maxRecDepth 100000 in
set_option maxHeartbeats 8000000 in
theorem remove_any (T : World → Prop) (hTl : Lasts T) (hf : Vl → Nat) (K : Vl → Prop) (KL : KeyLaw K hf) (hHs : ∀ v, K v → HsI T v (hf v)) (bk : Nat) (hTb : ∀ w w', T w → Below bk w w' → T w') (r0 r1 : Value) (R2 : Nat) (E S : Nat → Nat) (d : Dc) (p : Nat) (w : World) (hT : T w) (hM : BMut w bk r0 r1 R2 E S d) (hS : Small d)
  (hI : Inv K hf d) (hp : p < d.n) (ht : (d.L p).turn ≠ 0) :
  Calls Tryz.prog 95 #[.pointer (some ⟨bk, 0, none⟩), .pointer (some ⟨E p, 0, none⟩)] w fun e w' => ((∃ u, e = .returned u) ∧ ∃ r0' r1' R2' E2 S', BMut w' bk r0' r1' R2' E2 S' (goD hf d p)) ∧ Below bk w w' := by
 obtain ⟨g1, g2, g3, g4, g5, g6⟩ := goC_inv KL hI.i0 hI.next hp ht
 have hlt := hM.lt
 have hen := hM.ent p hp
 have k0 := hen.k0
 have k1 := hen.k1
 have k2 := hen.k2
 have k3 := hen.k3
 have k4 := hen.k4
 have hel := hen.lt
 have heb := hM.eb p hp
 obtain ⟨R1, q1, e1⟩ := hM.rf
 have c1 := hM.c1
 rw [e1] at c1
 have hdm := hS.m
 have hcnt := hI.i0.log.cnt
 have hle := hI.i0.le
 have hlv : 1 ≤ d.live := by
  have h1 := rank_lt hp ht
  have h2 : (lvN d : Int) = d.live := hcnt
  have h3 : rank d d.n = lvN d := rfl
  omega
 have hw5 : IntKind.i64.wrap (d.live - 1) = d.live - 1 := by rw [IntKind.wrap_i64]; omega
 -- the end: the pair made empty, the count, the tightening
 have END : ∀ (W : World) (r1' : Value) (S' : Nat → Nat) (c : Dc), Below bk w W → BMut W bk r0 r1' R2 E S' c → c.n = d.n → c.L = d.L → (∀ j, j < c.x → c.X j ≠ (p : Int) + 1) → { c with L := upd c.L p default, live := d.live - 1 } = goC hf d p → c.live = d.live → Small c →
   (W.frozen? ⟨E p, 0, none⟩ = false ∧ ∀ q, W.frozen? ⟨E p, q, none⟩ = false) ∧ E p < W.heap.size ∧ ECell W (E p) (d.L p) p ∧ ECell (pairZero W (E p)) (E p) default p ∧ BMut (pairZero W (E p)) bk r0 r1' R2 E S' { c with L := upd c.L p default } ∧ BMut ((pairZero W (E p)).setCell ⟨bk, 5, none⟩ (.int .i64 (d.live - 1))) bk r0 r1' R2 E S' (goC hf d p) ∧ Below bk w ((pairZero W (E p)).setCell ⟨bk, 5, none⟩ (.int .i64 (d.live - 1))) := fun W r1' S' c hB hMc hn hL hx hg hl hs => by
  have he : ECell W (E p) (d.L p) p := by have := hMc.ent p (by omega); rwa [hL] at this
  have hM2 := hMc.setE (p := p) (by omega) (q := default) (w' := pairZero W (E p)) pairZero_size (fun b hb => pairZero_other hb) (pairZero_same he) (.inr hx)
  have hM3 := hM2.setLive (d.live - 1)
  have hM3 : BMut ((pairZero W (E p)).setCell ⟨bk, 5, none⟩ (.int .i64 (d.live - 1))) bk r0 r1' R2 E S' { c with L := upd c.L p default, live := d.live - 1 } := hM3
  rw [hg] at hM3
  have hfz : ∀ q, W.frozen? ⟨E p, q, none⟩ = false := fun q => by simp [World.frozen?, he.ob]
  exact ⟨⟨hfz 0, hfz⟩, he.lt, he, ECell.of_ob (pairZero_same he), hM2, hM3, (hB.trans (pairZero_below (by omega))).setCell (by exact Nat.le_refl _) _⟩
 have HEND := uy END
 have LAST : ∀ (W : World) (r1' : Value) (S' : Nat → Nat), Below bk w W → BMut W bk r0 r1' R2 E S' (goC hf d p) → Small (goC hf d p) → (Calls Tryz.prog 123 #[.pointer (some ⟨bk, 0, none⟩)] W fun e w' => e = .returned (.bool (tells (looseK (goC hf d p)))) ∧ Below W.heap.size W w') ∧ (∀ W', Below W.heap.size W W' → looseK (goC hf d p) → Calls Tryz.prog 124 #[.pointer (some ⟨bk, 0, none⟩)] W' fun e w' => ((∃ u, e = .returned u) ∧ ∃ r0' R2' E2 S', BMut w' bk r0' r1' R2' E2 S' (goD hf d p)) ∧ Below bk W' w') ∧ (∀ W', Below W.heap.size W W' → ¬ looseK (goC hf d p) → BMut W' bk r0 r1' R2 E S' (goD hf d p)) := fun W r1' S' hB hMc hs => by
  refine ⟨isLoose_any bk r0 r1' R2 E S' (goC hf d p) W hMc hs (by rw [g5]; omega) (by rw [g5]; omega), fun W' hW' hlo => ?_, fun W' hW' hlo => ?_⟩
  ·exact tight_any T hTl hf K hHs bk hTb r0 r1' R2 E S' (goC hf d p) W' (hTb _ _ hT (hB.trans (hW'.mono (by have := hMc.lt; omega)))) (hMc.below hW') hs g1 hlo
  ·show BMut W' bk r0 r1' R2 E S' (compactD hf (goC hf d p))
   rw [loose_not hlo]
   exact hMc.below hW'
 have HLAST := uy LAST
 have HM := uy hM
 have HT := uy hT
 have HS := uy hS
 have HI := uy hI
 have HEN := uy hen
 by_cases hs : smallK d.m (d.L p).key
 ·have HSM := uy (tells_yes hs)
  obtain ⟨a1, a2, a3⟩ := hs
  obtain ⟨q, hq⟩ : ∃ q : Nat, (d.L p).key.num = (q : Int) + 1 := ⟨((d.L p).key.num - 1).toNat, by omega⟩
  have hqm : q < d.m := by omega
  have HG : Hid ({ { d with m := shrink (upd d.I q 0) d.m, I := upd d.I q 0 } with L := upd d.L p default, live := d.live - 1 } = goC hf d p) := uy (by
   rw [goC_small ⟨a1, a2, a3⟩]
   unfold goSmall
   rw [show ((d.L p).key.num - 1).toNat = q by omega]
   rfl)
  have hXp : ∀ j, j < d.x → d.X j ≠ (p : Int) + 1 := fun j hj e => by
   rcases hI.i0.idx.range j hj with h | h | ⟨h1, h2, h3, h4⟩
   ·omega
   ·omega
   ·rw [show (d.X j - 1).toNat = p by omega] at h4
    exact h4 ⟨a1, a2, a3⟩
  have hsh := (shrink_says (upd d.I q 0) d.m).1
  have HREM : Hid (∀ W, Below w.heap.size w W → Calls Tryz.prog 121 #[.pointer (some ⟨bk, 0, none⟩), .int .i64 ((q : Int) + 1)] W fun e w' => ((∃ u, e = .returned u) ∧ ∃ r1', BMut w' bk r0 r1' R2 E S { d with m := shrink (upd d.I q 0) d.m, I := upd d.I q 0 }) ∧ Below bk W w') := uy (fun W hW => removeInt_any bk r0 r1 R2 E S d q W (hM.below hW) hS hqm (fun j hj => by
   rcases hI.i0.ints j hj with e | e <;> omega))
  have HQ := uy hq
  have HXP := uy hXp
  clear a1 a2 a3 hq hXp hM hT hS hI hen END LAST g1 g2 g3 g4 g5 g6
  go_enter Tryz.func95, Tryz.ntmps95
  go_wp2_with fail
  refine wp_region_quiet (C := fun w' => Below w.heap.size w w') (by kernel_rfl) (by kernel_rfl) ((Below.refl _ _).drew) ?_
  show wpQuiet _ _ _ _ [_, _, _, _, _, _, _, _, _, _, _] _
  iterate 4 (refine wpQuiet_step (fun K hK => ?_); go_simp; refine ⟨_, fun w' hw' => rfl, hK _ ?_⟩; clear hK K)
  refine wpQuiet_step (fun K hK => ?_)
  go_simp
  apply Exists.intro
  refine And.intro (fun w' hw' => ?_) (hK _ ?_)
  ·obtain ⟨hc', hf'⟩ := bcell hw'
   go_simp
   first | rfl | exact ⟨rfl, rfl⟩ | exact ⟨rfl⟩
  clear hK K
  iterate 3 (refine wpQuiet_step (fun K hK => ?_); go_simp; refine ⟨_, fun w' hw' => rfl, hK _ ?_⟩; clear hK K)
  refine wpQuiet_step (fun K hK => ?_)
  go_simp
  apply Exists.intro
  refine And.intro (fun w' hw' => ?_) (hK _ ?_)
  ·obtain ⟨hc', hf'⟩ := bcell hw'
   go_simp
   first | rfl | exact ⟨rfl, rfl⟩ | exact ⟨rfl⟩
  clear hK K
  refine wpQuiet_step (fun K hK => ?_)
  go_simp
  refine ⟨_, fun w' hw' => rfl, hK _ ?_⟩
  clear hK K
  refine wpQuiet_step (fun K hK => ?_)
  go_simp
  apply Exists.intro
  refine And.intro (fun w' hw' => ?_) (hK _ ?_)
  ·refine (((uh HSM) ▸ hasPlace_any (d.L p).key d.m _ hdm)).mono ?_
   rintro e w'' ⟨rfl, hb⟩
   exact ⟨rfl, hw'.trans (hb.mono hw'.size)⟩
  clear hK K
  refine wpQuiet_nil ?_
  intro w1 hw1
  have k11 := (hw1.cell (p := ⟨E p, 1, none⟩) hel).trans k1
  rw [uh HQ] at k11
  have hel1 := Nat.lt_of_lt_of_le hel hw1.size
  have HW1 := uy hw1
  clear hw1 k0 k1 k2 k3 k4 c1
  go_wp2_with fail
  refine (uh HREM _ (uh HW1)).mono ?_
  rintro e w2 ⟨⟨⟨uu, rfl⟩, r1', hM2⟩, hb2⟩
  obtain ⟨⟨ff0, ff⟩, l2, e2, e2', m2, m3, b3⟩ := uh HEND w2 r1' S _ ((uh HW1).mono (by omega) |>.trans hb2) hM2 rfl rfl (uh HXP) (uh HG) rfl ⟨(uh HS).n, by show shrink (upd d.I q 0) d.m ≤ _; omega, (uh HS).x⟩
  have c5 := hM2.c5
  have f5 := hM2.fz 5
  have lb2 := hM2.lt
  have hne : E p ≠ bk := by omega
  have z0 := e2.k0
  have z1 := e2.k1
  have z2 := e2.k2
  have z3 := e2.k3
  have z4 := e2.k4
  have z5 := e2.v0
  have z6 := e2.v1
  have z7 := e2.v2
  have z8 := e2.v3
  have z9 := e2.v4
  have z10 := e2.tn
  have HSg : Hid (Small (goC hf d p)) := uy (by rw [← uh HG]; exact ⟨(uh HS).n, by show shrink (upd d.I q 0) d.m ≤ _; omega, (uh HS).x⟩)
  obtain ⟨L1, L2, L3⟩ := uh HLAST _ _ _ b3 m3 (uh HSg)
  unfold pairZero at L1 L2 L3 b3
  have HL1 := uy L1
  have HL2 := uy L2
  have HL3 := uy L3
  have HB3 := uy b3
  clear hM2 hb2 e2 e2' m2 m3 b3 L1 L2 L3
  go_wp2_with fail
  by_cases hlo : looseK (goC hf d p)
  ·have HLT := uy (tells_yes hlo)
   have HL2' := uy (fun W' hW' => uh HL2 W' hW' hlo)
   clear hlo HL2 HL3
   refine (uh HL1).mono ?_
   rintro e w5 ⟨rfl, hb5⟩
   rw [uh HLT]
   have HB5 := uy hb5
   clear hb5
   go_wp2_with fail
   refine (uh HL2' _ (uh HB5)).mono ?_
   rintro e w6 ⟨⟨⟨uu6, rfl⟩, r06, R26, E6, S6, hM6⟩, hb6⟩
   have z5b := (uh HB3).size
   have HB6 := uy ((uh HB3).trans (((uh HB5).mono (by simp; omega)).trans hb6))
   have HM6 := uy hM6
   clear hM6 hb6
   go_wp2
   go_end0
   exact ⟨⟨⟨_, rfl⟩, r06, _, R26, E6, S6, uh HM6⟩, uh HB6⟩
  ·have HLT := uy (tells_no hlo)
   have HL3' := uy (fun W' hW' => uh HL3 W' hW' hlo)
   clear hlo HL2 HL3
   refine (uh HL1).mono ?_
   rintro e w5 ⟨rfl, hb5⟩
   rw [uh HLT]
   have HB6 := uy ((uh HB3).trans (hb5.mono (by simp; omega)))
   have HM6 := uy (uh HL3' _ hb5)
   clear hb5 HL1
   go_wp2
   go_end0
   exact ⟨⟨⟨_, rfl⟩, _, _, _, _, _, uh HM6⟩, uh HB6⟩
 ·have HSM := uy (tells_no hs)
  obtain ⟨s, hs1, hs2, hs3⟩ := hI.i0.found KL (hI.i0.keys p hp ht) ⟨hp, ht, hs⟩ (KL.refl _ (hI.i0.keys p hp ht))
  have HG : Hid ({ { d with X := upd d.X s (-1) } with L := upd d.L p default, live := d.live - 1 } = goC hf d p) := uy (by rw [goC_slot hs hs3]; rfl)
  have hXp : ∀ j, j < d.x → upd d.X s (-1) j ≠ (p : Int) + 1 := fun j hj e => by
   by_cases ej : j = s
   ·rw [ej, upd_same] at e; omega
   ·rw [upd_other _ _ ej] at e
    exact ej (hI.i0.idx.uniq j s hj hs1 (by omega) (by omega))
  have HFIND : Hid (∀ W, Below w.heap.size w W → Calls Tryz.prog 106 #[.pointer (some ⟨bk, 2, none⟩), V (d.L p).key.kind (d.L p).key.num (d.L p).key.flt (d.L p).key.str (d.L p).key.ref] W fun e w' => e = .returned (.int .i64 (s : Int)) ∧ Below W.heap.size W w') := uy (fun W hW => by
   obtain ⟨R0', R1', hB⟩ := (hM.below hW).book
   have := find_any T hTl bk R0' R1' R2 E S d (d.L p).key (hf (d.L p).key) (hHs _ (hI.i0.keys p hp ht)) W (hTl _ _ hT hW) hB hS hI.i0.d4
   rw [hs3] at this
   exact this)
  have HREM : Hid (∀ W, Below w.heap.size w W → Calls Tryz.prog 122 #[.pointer (some ⟨bk, 2, none⟩), .int .i64 (s : Int)] W fun e w' => ((∃ u, e = .returned u) ∧ ∃ S', BMut w' bk r0 r1 R2 E S' { d with X := upd d.X s (-1) }) ∧ KX (fun b => b = R2) bk W w') := uy (fun W hW => indexRemove_kx bk r0 r1 R2 E S d s W (hM.below hW) hS hs1)
  obtain ⟨cR2, hbR2⟩ := hM.slots.block (b := R2) rfl
  have hEp2 : E p ≠ R2 := fun e => type_apart (e ▸ hen.ob) hbR2 (by decide)
  have HXP := uy hXp
  clear hs hXp hM hT hS hI hen END LAST g1 g2 g3 g4 g5 g6 hs2 hs3 hbR2
  go_enter Tryz.func95, Tryz.ntmps95
  go_wp2_with fail
  refine wp_region_quiet (C := fun w' => Below w.heap.size w w') (by kernel_rfl) (by kernel_rfl) ((Below.refl _ _).drew) ?_
  show wpQuiet _ _ _ _ [_, _, _, _, _, _, _, _, _, _, _] _
  iterate 4 (refine wpQuiet_step (fun K hK => ?_); go_simp; refine ⟨_, fun w' hw' => rfl, hK _ ?_⟩; clear hK K)
  refine wpQuiet_step (fun K hK => ?_)
  go_simp
  apply Exists.intro
  refine And.intro (fun w' hw' => ?_) (hK _ ?_)
  ·obtain ⟨hc', hf'⟩ := bcell hw'
   go_simp
   first | rfl | exact ⟨rfl, rfl⟩ | exact ⟨rfl⟩
  clear hK K
  iterate 3 (refine wpQuiet_step (fun K hK => ?_); go_simp; refine ⟨_, fun w' hw' => rfl, hK _ ?_⟩; clear hK K)
  refine wpQuiet_step (fun K hK => ?_)
  go_simp
  apply Exists.intro
  refine And.intro (fun w' hw' => ?_) (hK _ ?_)
  ·obtain ⟨hc', hf'⟩ := bcell hw'
   go_simp
   first | rfl | exact ⟨rfl, rfl⟩ | exact ⟨rfl⟩
  clear hK K
  refine wpQuiet_step (fun K hK => ?_)
  go_simp
  refine ⟨_, fun w' hw' => rfl, hK _ ?_⟩
  clear hK K
  refine wpQuiet_step (fun K hK => ?_)
  go_simp
  apply Exists.intro
  refine And.intro (fun w' hw' => ?_) (hK _ ?_)
  ·refine (((uh HSM) ▸ hasPlace_any (d.L p).key d.m _ hdm)).mono ?_
   rintro e w'' ⟨rfl, hb⟩
   exact ⟨rfl, hw'.trans (hb.mono hw'.size)⟩
  clear hK K
  refine wpQuiet_nil ?_
  intro w1 hw1
  have hen1 := (uh HEN).keep hw1.size (hw1.block _ hel)
  have hS0 : HeldE (E p) (d.L p).key w1.drew := ⟨hen1.k0, hen1.k1, hen1.k2, hen1.k3, hen1.k4⟩
  have hel1 := hen1.lt
  have hz1 := hw1.size
  have HW1 := uy hw1
  clear hw1 k0 k1 k2 k3 k4 c1 hen1
  go_wp2_with fail
  refine wpN_held (HeldE (E p) (d.L p).key) (by kernel_rfl) ?_
  change wpAnyH _ _ _ _ _ _ _ _ (World.drew _)
  refine tk 0 (v := ?_) rfl (by kernel_rfl) (by rfl) ?_ (by assumption) ?_
  rotate_left
  ·intro w' ⟨s0, s1, s2, s3, s4⟩; go_simp; try with_reducible rfl
  simp only [Act.put, sA, sB, sC]
  refine tk 1 (v := ?_) rfl (by kernel_rfl) (by rfl) ?_ (by assumption) ?_
  rotate_left
  ·intro w' ⟨s0, s1, s2, s3, s4⟩; go_simp; try with_reducible rfl
  simp only [Act.put, sA, sB, sC]
  refine tk 2 (v := ?_) rfl (by kernel_rfl) (by rfl) ?_ (by assumption) ?_
  rotate_left
  ·intro w' ⟨s0, s1, s2, s3, s4⟩; go_simp; try with_reducible rfl
  simp only [Act.put, sA, sB, sC]
  refine tk 3 (v := ?_) rfl (by kernel_rfl) (by rfl) ?_ (by assumption) ?_
  rotate_left
  ·intro w' ⟨s0, s1, s2, s3, s4⟩; go_simp; try with_reducible rfl
  simp only [Act.put, sA, sB, sC]
  refine tk 4 (v := ?_) rfl (by kernel_rfl) (by rfl) ?_ (by assumption) ?_
  rotate_left
  ·intro w' ⟨s0, s1, s2, s3, s4⟩; go_simp; try with_reducible rfl
  simp only [Act.put, sA, sB, sC]
  refine tk 5 (v := ?_) rfl (by kernel_rfl) (by rfl) ?_ (by assumption) ?_
  rotate_left
  ·intro w' ⟨s0, s1, s2, s3, s4⟩; go_simp; try with_reducible rfl
  simp only [Act.put, sA, sB, sC]
  refine tk 6 (v := ?_) rfl (by kernel_rfl) (by rfl) ?_ (by assumption) ?_
  rotate_left
  ·intro w' ⟨s0, s1, s2, s3, s4⟩; go_simp; try with_reducible rfl
  simp only [Act.put, sA, sB, sC]
  refine tk 7 (v := ?_) rfl (by kernel_rfl) (by rfl) ?_ (by assumption) ?_
  rotate_left
  ·intro w' ⟨s0, s1, s2, s3, s4⟩; go_simp; try with_reducible rfl
  simp only [Act.put, sA, sB, sC]
  refine tk 8 (v := ?_) rfl (by kernel_rfl) (by rfl) ?_ (by assumption) ?_
  rotate_left
  ·intro w' ⟨s0, s1, s2, s3, s4⟩; go_simp; try with_reducible rfl
  simp only [Act.put, sA, sB, sC]
  refine tk 9 (v := ?_) rfl (by kernel_rfl) (by rfl) ?_ (by assumption) ?_
  rotate_left
  ·intro w' ⟨s0, s1, s2, s3, s4⟩; go_simp; try with_reducible rfl
  simp only [Act.put, sA, sB, sC]
  refine tk 10 (v := ?_) rfl (by kernel_rfl) (by rfl) ?_ (by assumption) ?_
  rotate_left
  ·intro w' ⟨s0, s1, s2, s3, s4⟩; go_simp; try with_reducible rfl
  simp only [Act.put, sA, sB, sC]
  refine wpAnyH_ready (rs := [11]) (by kernel_rfl) (by simp) ?_
  refine AllReadyH.cons rfl (fun K hK => ?_) AllReadyH.nil
  go_simp
  refine (uh HFIND _ (uh HW1).drew).mono ?_
  rintro e wf ⟨rfl, hbf⟩
  have hbf : Below w1.heap.size w1 wf := (Below.refl w1.heap.size w1).drew.trans hbf
  have hSf : HeldE (E p) (d.L p).key wf := ⟨(hbf.cell (p := ⟨E p, 0, none⟩) hel1).trans hS0.1, (hbf.cell (p := ⟨E p, 1, none⟩) hel1).trans hS0.2.1, (hbf.cell (p := ⟨E p, 2, none⟩) hel1).trans hS0.2.2.1, (hbf.cell (p := ⟨E p, 3, none⟩) hel1).trans hS0.2.2.2.1, (hbf.cell (p := ⟨E p, 4, none⟩) hel1).trans hS0.2.2.2.2⟩
  refine hK.out _ _ hSf (fun _ => ?_)
  clear hK K hS0
  have hzf := hbf.size
  have HWf := uy ((uh HW1).trans (hbf.mono (by omega)))
  clear hbf
  refine wpAnyH_ready (rs := [12]) (by kernel_rfl) (by simp) ?_
  refine AllReadyH.cons rfl (fun K hK => ?_) AllReadyH.nil
  go_simp
  refine (uh HREM _ (uh HWf)).mono ?_
  rintro e w2 ⟨⟨⟨uu, rfl⟩, S2, hM2⟩, hkx2⟩
  have hb2 := hkx2.bel
  have hbl := hkx2.blk (E p) (by omega) hEp2
  refine hK.out _ _ ⟨(World.cell?_of_block (a := ⟨E p, 0, none⟩) hbl).trans hSf.1, (World.cell?_of_block (a := ⟨E p, 1, none⟩) hbl).trans hSf.2.1, (World.cell?_of_block (a := ⟨E p, 2, none⟩) hbl).trans hSf.2.2.1, (World.cell?_of_block (a := ⟨E p, 3, none⟩) hbl).trans hSf.2.2.2.1, (World.cell?_of_block (a := ⟨E p, 4, none⟩) hbl).trans hSf.2.2.2.2⟩ (fun _ => ?_)
  clear hK K hSf hkx2 hbl
  refine wpAnyH_done (by kernel_rfl) ?_ _
  refine QN.normal ?_
  obtain ⟨⟨ff0, ff⟩, l2, e2, e2', m2, m3, b3⟩ := uh HEND w2 r1 S2 _ ((uh HWf).mono (by omega) |>.trans hb2) hM2 rfl rfl (uh HXP) (uh HG) rfl ⟨(uh HS).n, (uh HS).m, (uh HS).x⟩
  have c5 := hM2.c5
  have f5 := hM2.fz 5
  have lb2 := hM2.lt
  have hne : E p ≠ bk := by omega
  have z0 := e2.k0
  have z1 := e2.k1
  have z2 := e2.k2
  have z3 := e2.k3
  have z4 := e2.k4
  have z5 := e2.v0
  have z6 := e2.v1
  have z7 := e2.v2
  have z8 := e2.v3
  have z9 := e2.v4
  have z10 := e2.tn
  have HSg : Hid (Small (goC hf d p)) := uy (by rw [← uh HG]; exact ⟨(uh HS).n, (uh HS).m, (uh HS).x⟩)
  obtain ⟨L1, L2, L3⟩ := uh HLAST _ _ _ b3 m3 (uh HSg)
  unfold pairZero at L1 L2 L3 b3
  have HL1 := uy L1
  have HL2 := uy L2
  have HL3 := uy L3
  have HB3 := uy b3
  clear hM2 hb2 e2 e2' m2 m3 b3 L1 L2 L3
  go_wp2_with fail
  by_cases hlo : looseK (goC hf d p)
  ·have HLT := uy (tells_yes hlo)
   have HL2' := uy (fun W' hW' => uh HL2 W' hW' hlo)
   clear hlo HL2 HL3
   refine (uh HL1).mono ?_
   rintro e w5 ⟨rfl, hb5⟩
   rw [uh HLT]
   have HB5 := uy hb5
   clear hb5
   go_wp2_with fail
   refine (uh HL2' _ (uh HB5)).mono ?_
   rintro e w6 ⟨⟨⟨uu6, rfl⟩, r06, R26, E6, S6, hM6⟩, hb6⟩
   have z5b := (uh HB3).size
   have HB6 := uy ((uh HB3).trans (((uh HB5).mono (by simp; omega)).trans hb6))
   have HM6 := uy hM6
   clear hM6 hb6
   go_wp2
   go_end0
   exact ⟨⟨⟨_, rfl⟩, r06, _, R26, E6, S6, uh HM6⟩, uh HB6⟩
  ·have HLT := uy (tells_no hlo)
   have HL3' := uy (fun W' hW' => uh HL3 W' hW' hlo)
   clear hlo HL2 HL3
   refine (uh HL1).mono ?_
   rintro e w5 ⟨rfl, hb5⟩
   rw [uh HLT]
   have HB6 := uy ((uh HB3).trans (hb5.mono (by simp; omega)))
   have HM6 := uy (uh HL3' _ hb5)
   clear hb5 HL1
   go_wp2
   go_end0
   exact ⟨⟨⟨_, rfl⟩, _, _, _, _, _, uh HM6⟩, uh HB6⟩
end
section
open Go.RowKit
attribute [local go_sem] run_store_float run_equalIn_float
set_option maxRecDepth 100000 in
set_option maxHeartbeats 8000000 in
theorem put_any (T : World → Prop) (hTl : Lasts T) (hf : Vl → Nat) (K : Vl → Prop) (KL : KeyLaw K hf) (hHs : ∀ v, K v → HsI T v (hf v)) (bk : Nat) (hTb : ∀ w w', T w → Below bk w w' → T w') (r0 r1 : Value) (R2 : Nat) (E S : Nat → Nat) (d : Dc) (k v : Vl) (w : World) (hT : T w) (hM : BMut w bk r0 r1 R2 E S d) (hS : Small d) (hm4 : d.m ≤ 4000000)
  (hI : Inv K hf d) (hk : K k) (hkb : keyB k = true) (hv : v.ok = true) :
  Calls Tryz.prog 53 #[.pointer (some ⟨bk, 0, none⟩), V k.kind k.num k.flt k.str k.ref, V v.kind v.num v.flt v.str v.ref] w fun e w' => ((∃ u, e = .returned u) ∧ ∃ r0' r1' R2' E2 S', BMut w' bk r0' r1' R2' E2 S' (putD hf d k v)) ∧ Below bk w w' := by
 have hlt := hM.lt
 have hb0 : Below w.heap.size w ((w.alloc (.cells #[.int .i64 k.kind, .int .i64 k.num, .float .f64 k.flt, .string k.str, .int .i64 k.ref] 30)).alloc (.cells #[.int .i64 v.kind, .int .i64 v.num, .float .f64 v.flt, .string v.str, .int .i64 v.ref] 30)) := ((Below.refl _ _).alloc (Nat.le_refl _) _).alloc (by simp) _
 have HV0 : Hid (VBox ((w.alloc (.cells #[.int .i64 k.kind, .int .i64 k.num, .float .f64 k.flt, .string k.str, .int .i64 k.ref] 30)).alloc (.cells #[.int .i64 v.kind, .int .i64 v.num, .float .f64 v.flt, .string v.str, .int .i64 v.ref] 30)) w.heap.size k ∧ VBox ((w.alloc (.cells #[.int .i64 k.kind, .int .i64 k.num, .float .f64 k.flt, .string k.str, .int .i64 k.ref] 30)).alloc (.cells #[.int .i64 v.kind, .int .i64 v.num, .float .f64 v.flt, .string v.str, .int .i64 v.ref] 30)) (w.heap.size + 1) v) := uy ⟨⟨by simp; omega, by simp [go_sem], by simp [go_sem], by simp [go_sem], by simp [go_sem], by simp [go_sem]⟩, ⟨by simp, by simp [go_sem], by simp [go_sem], by simp [go_sem], by simp [go_sem], by simp [go_sem]⟩⟩
 have HB0 := uy hb0
 have FND : ∀ W, Below w.heap.size w W → Calls Tryz.prog 67 #[.pointer (some ⟨bk, 0, none⟩), V k.kind k.num k.flt k.str k.ref] W fun e w' => e = .returned (.pointer (placeP E (placeI d k (hf k)))) ∧ Below W.heap.size W w' := fun W hW => by
  obtain ⟨R0', R1', hB⟩ := (hM.below hW).book
  exact bfind_any T hTl bk R0' R1' R2 E S d k (hf k) (hHs k hk) W (hTl _ _ hT hW) hB hS hI.i0.d3 hI.i0.d4
 rcases hI.i0.place KL hk with ⟨i, h1, h2, h3, h4⟩ | ⟨h1, h2⟩
 ·have hp : 0 ≤ placeI d k (hf k) := by omega
  have hi : (placeI d k (hf k)).toNat = i := by omega
  have hpp : placeP E (placeI d k (hf k)) = some ⟨E i, 0, none⟩ := by unfold placeP; rw [if_pos hp, hi]
  rw [hpp] at FND
  have HFND := uy FND
  have hEb := hM.eb i h1
  by_cases hv0 : v.kind = 0
  ·have HRES : Hid (putD hf d k v = goD hf d i) := uy (by rw [putD_go hp hv0, hi])
   have HREM : Hid (∀ W, Below w.heap.size w W → Calls Tryz.prog 95 #[.pointer (some ⟨bk, 0, none⟩), .pointer (some ⟨E i, 0, none⟩)] W fun e w' => ((∃ u, e = .returned u) ∧ ∃ r0' r1' R2' E2 S', BMut w' bk r0' r1' R2' E2 S' (goD hf d i)) ∧ Below bk W w') := uy (fun W hW => remove_any T hTl hf K KL hHs bk hTb r0 r1 R2 E S d i W (hTl _ _ hT hW) (hM.below hW) hS hI h1 h2)
   have HV := uy hv0
   rw [uh HRES]
   clear hM hT hS hI h2 h3 h4 hp hi hpp FND hb0 hv0
   go_enter Tryz.func53, Tryz.ntmps53
   go_wp2_with fail
   refine (uh HFND _ (uh HB0)).mono ?_
   rintro e w1 ⟨rfl, hb1⟩
   have vv := (uh HV0).2.keep hb1.size (hb1.block _ (uh HV0).2.lt)
   have v0 := vv.k0
   rw [uh HV] at v0
   have lv := vv.lt
   have HB1 := uy ((uh HB0).trans (hb1.mono (uh HB0).size))
   clear hb1 vv
   go_wp2_with fail
   refine (uh HREM _ (uh HB1)).mono ?_
   rintro e w2 ⟨⟨⟨uu, rfl⟩, r0', r1', R2', E2, S', hM2⟩, hb2⟩
   have HM2 := uy hM2
   have HB2 := uy (((uh HB1).mono (Nat.le_of_lt hlt)).trans hb2)
   clear hM2 hb2
   go_wp2
   go_end0
   exact ⟨⟨⟨_, rfl⟩, r0', r1', R2', E2, S', uh HM2⟩, uh HB2⟩
  ·have HRES : Hid (putD hf d k v = setV d i v) := uy (by rw [putD_set hp hv0, hi])
   have hv0' : (v.kind != 0) = true := by simp [hv0]
   have HSET : Hid (∀ W, Below w.heap.size w W → ECell W (E i) (d.L i) i ∧ BMut (valSet W (E i) v) bk r0 r1 R2 E S (setV d i v)) := uy (fun W hW => by
    have he := (hM.below hW).ent i h1
    exact ⟨he, (hM.below hW).setE h1 valSet_size (fun b hb => valSet_other hb) (valSet_same he) (.inl rfl)⟩)
   rw [uh HRES]
   clear hM hT hS hI h2 h3 h4 hp hi hpp FND hb0 hv0
   go_enter Tryz.func53, Tryz.ntmps53
   go_wp2_with fail
   refine (uh HFND _ (uh HB0)).mono ?_
   rintro e w1 ⟨rfl, hb1⟩
   have vv := (uh HV0).2.keep hb1.size (hb1.block _ (uh HV0).2.lt)
   have v0 := vv.k0
   have v1 := vv.k1
   have v2 := vv.k2
   have v3 := vv.k3
   have v4 := vv.k4
   have lv := vv.lt
   have hB1 := (uh HB0).trans (hb1.mono (uh HB0).size)
   obtain ⟨he, hN⟩ := uh HSET _ hB1
   have hff : ∀ q, w1.frozen? ⟨E i, q, none⟩ = false := fun q => by simp [World.frozen?, he.ob]
   have z5 := he.v0
   have z6 := he.v1
   have z7 := he.v2
   have z8 := he.v3
   have z9 := he.v4
   have hel := he.lt
   have HB2 : Hid (Below bk w (valSet w1 (E i) v)) := uy ((hB1.mono (Nat.le_of_lt hlt)).trans (valSet_below (bk := bk) (w := w1) (b := E i) (v := v) (Nat.le_of_lt hEb)))
   have HN := uy hN
   clear hb1 vv hB1 he hN HSET HV0 HFND HB0
   go_wp2
   go_end0
   exact ⟨⟨⟨_, rfl⟩, _, _, _, _, _, uh HN⟩, uh HB2⟩
 ·have hp : ¬ 0 ≤ placeI d k (hf k) := by omega
  have hpp : placeP E (placeI d k (hf k)) = none := by unfold placeP; rw [if_neg hp]
  rw [hpp] at FND
  have HFND := uy FND
  have hcnt := hI.i0.log.cnt
  have hle := hI.i0.le
  have htn := hI.i0.turns
  by_cases hc : v.kind ≠ 0 ∧ d.live < 500 ∧ d.turns < 1000000000000
  ·have HRES : Hid (putD hf d k v = comeD hf d k v) := uy (putD_come hp hc)
   obtain ⟨hc1, hc2, hc3⟩ := hc
   have hc1' : (v.kind != 0) = true := by simp [hc1]
   have hc2' : decide (d.live < 500) = true := by simp [hc2]
   have hc3' : decide (d.turns < 1000000000000) = true := by simp [hc3]
   have HADD : Hid (∀ W, Below w.heap.size w W → Calls Tryz.prog 96 #[.pointer (some ⟨bk, 0, none⟩), V k.kind k.num k.flt k.str k.ref, V v.kind v.num v.flt v.str v.ref] W fun e w' => ((∃ u, e = .returned u) ∧ ∃ r0' r1' R2' E2 S', BMut w' bk r0' r1' R2' E2 S' (comeD hf d k v)) ∧ Below bk W w') := uy (fun W hW => add_any T hTl hf K KL hHs bk hTb r0 r1 R2 E S d k v W (hTl _ _ hT hW) (hM.below hW) hS hm4 hI hk hkb hv hc1 h1 hc2 hc3)
   have HM := uy hM
   rw [uh HRES]
   clear hM hT hS hI h1 h2 hp hpp FND hb0 hc1 hc2 hc3
   go_enter Tryz.func53, Tryz.ntmps53
   go_wp2_with fail
   refine (uh HFND _ (uh HB0)).mono ?_
   rintro e w1 ⟨rfl, hb1⟩
   have hB1 := (uh HB0).trans (hb1.mono (uh HB0).size)
   have vv := (uh HV0).2.keep hb1.size (hb1.block _ (uh HV0).2.lt)
   have vk := (uh HV0).1.keep hb1.size (hb1.block _ (uh HV0).1.lt)
   have v0 := vv.k0
   have v1 := vv.k1
   have v2 := vv.k2
   have v3 := vv.k3
   have v4 := vv.k4
   have lv := vv.lt
   have y0 := vk.k0
   have y1 := vk.k1
   have y2 := vk.k2
   have y3 := vk.k3
   have y4 := vk.k4
   have lk := vk.lt
   have c5 := ((uh HM).below hB1).c5
   have c6 := ((uh HM).below hB1).c6
   have lb := ((uh HM).below hB1).lt
   have HB1 := uy hB1
   clear hb1 vv vk hB1
   go_wp2_with fail
   refine (uh HADD _ (uh HB1)).mono ?_
   rintro e w2 ⟨⟨⟨uu, rfl⟩, r0', r1', R2', E2, S', hM2⟩, hb2⟩
   have HM2 := uy hM2
   have HB2 := uy (((uh HB1).mono (Nat.le_of_lt hlt)).trans hb2)
   clear hM2 hb2
   go_wp2
   go_end0
   exact ⟨⟨⟨_, rfl⟩, r0', r1', R2', E2, S', uh HM2⟩, uh HB2⟩
  ·have HRES : Hid (putD hf d k v = d) := uy (putD_not hp hc)
   have HM := uy hM
   rw [uh HRES]
   have hcc : v.kind = 0 ∨ (v.kind ≠ 0 ∧ ¬ d.live < 500) ∨ (v.kind ≠ 0 ∧ d.live < 500 ∧ ¬ d.turns < 1000000000000) := by
    by_cases e1 : v.kind = 0
    ·exact .inl e1
    ·by_cases e2 : d.live < 500
     ·exact .inr (.inr ⟨e1, e2, fun e3 => hc ⟨e1, e2, e3⟩⟩)
     ·exact .inr (.inl ⟨e1, e2⟩)
   clear hM hT hS hI h1 h2 hp hpp FND hb0 hc
   go_enter Tryz.func53, Tryz.ntmps53
   go_wp2_with fail
   refine (uh HFND _ (uh HB0)).mono ?_
   rintro e w1 ⟨rfl, hb1⟩
   have hB1 := (uh HB0).trans (hb1.mono (uh HB0).size)
   have vv := (uh HV0).2.keep hb1.size (hb1.block _ (uh HV0).2.lt)
   have v0 := vv.k0
   have lv := vv.lt
   have hM1 := (uh HM).below hB1
   have c5 := hM1.c5
   have c6 := hM1.c6
   have lb := hM1.lt
   have HM1 := uy hM1
   have HB1 := uy (hB1.mono (Nat.le_of_lt hlt))
   clear hb1 vv hB1 hM1
   rcases hcc with e1 | ⟨e1, e2⟩ | ⟨e1, e2, e3⟩
   ·rw [e1] at v0
    clear e1
    go_wp2
    go_end0
    exact ⟨⟨⟨_, rfl⟩, _, _, _, _, _, uh HM1⟩, uh HB1⟩
   ·have e1' : (v.kind != 0) = true := by simp [e1]
    have e2' : decide (d.live < 500) = false := by simp [e2]
    clear e1 e2
    go_wp2
    go_end0
    exact ⟨⟨⟨_, rfl⟩, _, _, _, _, _, uh HM1⟩, uh HB1⟩
   ·have e1' : (v.kind != 0) = true := by simp [e1]
    have e2' : decide (d.live < 500) = true := by simp [e2]
    have e3' : decide (d.turns < 1000000000000) = false := by simp [e3]
    clear e1 e2 e3
    go_wp2
    go_end0
    exact ⟨⟨⟨_, rfl⟩, _, _, _, _, _, uh HM1⟩, uh HB1⟩
end
section
open Go.RowKit
attribute [local go_sem] run_store_float run_equalIn_float
structure DWay (w wr : World) (v0 v1 v2 : Value) (d : Dc) : Prop where
 b0 : wr.heap[w.heap.size]? = some (.cells #[.slice none 0 0, .slice none 0 0, .slice none 0 0, .int .i64 0, .int .i64 0, .int .i64 0] 26 (0, 0))
 b1 : wr.heap[w.heap.size + 1]? = some (.cells #[v0, v1, v2, .int .i64 d.used, .int .i64 d.live, .int .i64 d.turns] 26 (0, 0))
 bel : Below w.heap.size w wr
theorem DWay.size {w wr : World} {v0 v1 v2 : Value} {d : Dc} (h : DWay w wr v0 v1 v2 d) : w.heap.size + 1 < wr.heap.size := (Array.getElem?_eq_some_iff.1 h.b1).1
theorem DWay.cells {w wr : World} {v0 v1 v2 : Value} {d : Dc} (h : DWay w wr v0 v1 v2 d) : wr.cell? ⟨w.heap.size + 1, 0, none⟩ = some v0 ∧ wr.cell? ⟨w.heap.size + 1, 1, none⟩ = some v1 ∧ wr.cell? ⟨w.heap.size + 1, 2, none⟩ = some v2 ∧ wr.cell? ⟨w.heap.size + 1, 3, none⟩ = some (.int .i64 d.used) ∧ wr.cell? ⟨w.heap.size + 1, 4, none⟩ = some (.int .i64 d.live) ∧ wr.cell? ⟨w.heap.size + 1, 5, none⟩ = some (.int .i64 d.turns) ∧ ∀ q, wr.frozen? ⟨w.heap.size + 1, q, none⟩ = false :=
 ⟨by simp [World.cell?, h.b1], by simp [World.cell?, h.b1], by simp [World.cell?, h.b1], by simp [World.cell?, h.b1], by simp [World.cell?, h.b1], by simp [World.cell?, h.b1], fun q => by simp [World.frozen?, h.b1]⟩
theorem DWay.keep {w wr w' : World} {v0 v1 v2 : Value} {d : Dc} (h : DWay w wr v0 v1 v2 d) (h0 : w'.heap[w.heap.size]? = wr.heap[w.heap.size]?) (h1 : w'.heap[w.heap.size + 1]? = wr.heap[w.heap.size + 1]?) (hb : Below w.heap.size w w') : DWay w w' v0 v1 v2 d := ⟨h0.trans h.b0, h1.trans h.b1, hb⟩
theorem DWay.set0 {w wr : World} {v0 v1 v2 u : Value} {d : Dc} (h : DWay w wr v0 v1 v2 d) : DWay w (wr.setCell ⟨w.heap.size + 1, 0, none⟩ u) u v1 v2 d :=
 ⟨(Deep.blk_setCell_other _ _ _ _ (by show w.heap.size ≠ w.heap.size + 1; omega)).trans h.b0, (heap_setCell_same _ _ _ _ _ _ h.b1).trans (by simp), h.bel.setCell (by show w.heap.size ≤ w.heap.size + 1; omega) _⟩
theorem DWay.set1 {w wr : World} {v0 v1 v2 u : Value} {d : Dc} (h : DWay w wr v0 v1 v2 d) : DWay w (wr.setCell ⟨w.heap.size + 1, 1, none⟩ u) v0 u v2 d :=
 ⟨(Deep.blk_setCell_other _ _ _ _ (by show w.heap.size ≠ w.heap.size + 1; omega)).trans h.b0, (heap_setCell_same _ _ _ _ _ _ h.b1).trans (by simp), h.bel.setCell (by show w.heap.size ≤ w.heap.size + 1; omega) _⟩
theorem DWay.set2 {w wr : World} {v0 v1 v2 u : Value} {d : Dc} (h : DWay w wr v0 v1 v2 d) : DWay w (wr.setCell ⟨w.heap.size + 1, 2, none⟩ u) v0 v1 u d :=
 ⟨(Deep.blk_setCell_other _ _ _ _ (by show w.heap.size ≠ w.heap.size + 1; omega)).trans h.b0, (heap_setCell_same _ _ _ _ _ _ h.b1).trans (by simp), h.bel.setCell (by show w.heap.size ≤ w.heap.size + 1; omega) _⟩
def upTo (f : Nat → Int) (k j : Nat) : Int := if j < k then f j else 0
theorem upTo_step (f : Nat → Int) (k : Nat) : upd (upTo f k) k (f k) = upTo f (k + 1) := by
 funext j
 unfold upTo
 by_cases e : j = k
 ·subst e; rw [upd_same, if_pos (by omega)]
 ·rw [upd_other _ _ e]
  by_cases h : j < k
  ·rw [if_pos h, if_pos (by omega)]
  ·rw [if_neg h, if_neg (by omega)]
theorem upTo_zero (f : Nat → Int) (k : Nat) (h : f k = 0) : upTo f k = upTo f (k + 1) := by
 rw [← upTo_step, h]
 funext j
 by_cases e : j = k
 ·subst e; rw [upd_same]; exact if_neg (by omega)
 ·rw [upd_other _ _ e]
theorem IOwn.congr {w : World} {B : Nat} {v : Value} {n : Nat} {f g : Nat → Int} (h : IOwn w B v n f) (e : ∀ i, i < n → g i = f i) : IOwn w B v n g := by
 have hl : iL g n = iL f n := by
  apply List.ext_getElem?
  intro q
  by_cases hq : q < n
  ·rw [iL_get hq, iL_get hq, e q hq]
  ·rw [List.getElem?_eq_none (by rw [iL_length]; omega), List.getElem?_eq_none (by rw [iL_length]; omega)]
 show w.ownsRow _ _ _ _ _ (iL g n)
 rw [hl]
 exact h
def HeldP (e : Nat) (p : Pr) (W : World) : Prop := W.cell? ⟨e, 0, none⟩ = some (.int .i64 p.key.kind) ∧ W.cell? ⟨e, 1, none⟩ = some (.int .i64 p.key.num) ∧ W.cell? ⟨e, 2, none⟩ = some (.float .f64 p.key.flt) ∧ W.cell? ⟨e, 3, none⟩ = some (.string p.key.str) ∧ W.cell? ⟨e, 4, none⟩ = some (.int .i64 p.key.ref) ∧ W.cell? ⟨e, 5, none⟩ = some (.int .i64 p.val.kind) ∧ W.cell? ⟨e, 6, none⟩ = some (.int .i64 p.val.num) ∧ W.cell? ⟨e, 7, none⟩ = some (.float .f64 p.val.flt) ∧ W.cell? ⟨e, 8, none⟩ = some (.string p.val.str) ∧ W.cell? ⟨e, 9, none⟩ = some (.int .i64 p.val.ref) ∧ W.cell? ⟨e, 10, none⟩ = some (.int .i64 p.turn)
theorem ECell.held {w : World} {b : Nat} {p : Pr} {i : Nat} (h : ECell w b p i) : HeldP b p w := ⟨h.k0, h.k1, h.k2, h.k3, h.k4, h.v0, h.v1, h.v2, h.v3, h.v4, h.tn⟩
def HeldB (bk : Nat) (a b c : Int) (W : World) : Prop := W.cell? ⟨bk, 4, none⟩ = some (.int .i64 a) ∧ W.cell? ⟨bk, 5, none⟩ = some (.int .i64 b) ∧ W.cell? ⟨bk, 6, none⟩ = some (.int .i64 c)
def HeldI (c g m e : Nat) (x : Int) (W : World) : Prop := W.cell? ⟨c, 1, none⟩ = some (.slice (some ⟨g, 0, none⟩) m m) ∧ W.cell? ⟨e, 11, none⟩ = some (.int .i64 x)
def HeldX (c g m s e : Nat) (x : Int) (W : World) : Prop := W.cell? ⟨c, 2, none⟩ = some (.slice (some ⟨g, 0, none⟩) m m) ∧ W.cell? ⟨s, 5, none⟩ = some (.pointer (some ⟨e, 0, none⟩)) ∧ W.cell? ⟨e, 11, none⟩ = some (.int .i64 x)
set_option maxRecDepth 100000 in
set_option maxHeartbeats 8000000 in
theorem dict_any (bk : Nat) (r0 r1 : Value) (R2 : Nat) (E S : Nat → Nat) (d : Dc) (w : World) (hM : BMut w bk r0 r1 R2 E S d) (hS : Small d) (hI : ∀ j, j < d.m → 0 ≤ d.I j ∧ d.I j ≤ d.n) (hX : ∀ j, j < d.x → d.X j = 0 ∨ d.X j = -1 ∨ (0 < d.X j ∧ d.X j ≤ d.n)) :
  Calls Tryz.prog 54 #[.pointer (some ⟨bk, 0, none⟩)] w fun e w' => (∃ v0 v1 v2, e = .returned (DvV v0 v1 v2 d) ∧ DV d w' v0 v1 v2 w.heap.size w'.heap.size) ∧ Below w.heap.size w w' := by
 obtain ⟨i0, hi0, hz0, hz1, hz2⟩ := info_parts infoPair
 have hn := hS.n
 have hm := hS.m
 have hx := hS.x
 obtain ⟨a0, l0, e0⟩ := hM.log.slice
 obtain ⟨Q1, l1, e1⟩ := hM.rf
 subst e0 e1
 have hlt := hM.lt
 have c0 := hM.c0
 have c4 := hM.c4
 have c5 := hM.c5
 have c6 := hM.c6
 have mk1 := make_intsO d.m hm
 have mk2 := make_intsO d.x hx
 have HM := uy hM
 have HI := uy hI
 have HX := uy hX
 clear hM hS hI hX
 go_enter Tryz.func54, Tryz.ntmps54
 go_wp2_with fail
 refine wpN_held (HeldB bk d.used d.live d.turns) (by kernel_rfl) ?_
 change wpAnyH _ _ _ _ _ _ _ _ (World.drew _)
 have hB0 : ∀ o, Below w.heap.size w (w.alloc o) := fun o => (Below.refl _ _).alloc (Nat.le_refl _) _
 have hB0' : ∀ o, Below w.heap.size w (w.alloc o).drew := fun o => (hB0 o).drew
 have hS0 : ∀ o, HeldB bk d.used d.live d.turns (w.alloc o).drew := fun o => ⟨((hB0' o).cell (p := ⟨bk, 4, none⟩) hlt).trans c4, ((hB0' o).cell (p := ⟨bk, 5, none⟩) hlt).trans c5, ((hB0' o).cell (p := ⟨bk, 6, none⟩) hlt).trans c6⟩
 have hS0' := hS0 (.cells #[.slice none 0 0, .slice none 0 0, .slice none 0 0, .int .i64 0, .int .i64 0, .int .i64 0] 26)
 refine tk 0 (v := ?_) rfl (by kernel_rfl) (by rfl) ?_ (by assumption) ?_
 rotate_left
 ·intro w' ⟨s0, s1, s2⟩; go_simp; try with_reducible rfl
 simp only [Act.put, sA, sB, sC]
 refine tk 1 (v := ?_) rfl (by kernel_rfl) (by rfl) ?_ (by assumption) ?_
 rotate_left
 ·intro w' ⟨s0, s1, s2⟩; go_simp; try with_reducible rfl
 simp only [Act.put, sA, sB, sC]
 refine tk 2 (v := ?_) rfl (by kernel_rfl) (by rfl) ?_ (by assumption) ?_
 rotate_left
 ·intro w' ⟨s0, s1, s2⟩; go_simp; try with_reducible rfl
 simp only [Act.put, sA, sB, sC]
 refine tk 3 (v := ?_) rfl (by kernel_rfl) (by rfl) ?_ (by assumption) ?_
 rotate_left
 ·intro w' ⟨s0, s1, s2⟩; go_simp; try with_reducible rfl
 simp only [Act.put, sA, sB, sC]
 refine tk 4 (v := ?_) rfl (by kernel_rfl) (by rfl) ?_ (by assumption) ?_
 rotate_left
 ·intro w' ⟨s0, s1, s2⟩; go_simp; try with_reducible rfl
 simp only [Act.put, sA, sB, sC]
 refine tk 5 (v := ?_) rfl (by kernel_rfl) (by rfl) ?_ (by assumption) ?_
 rotate_left
 ·intro w' ⟨s0, s1, s2⟩; go_simp; try with_reducible rfl
 simp only [Act.put, sA, sB, sC]
 refine tk 6 (v := ?_) rfl (by kernel_rfl) (by rfl) ?_ (by assumption) ?_
 rotate_left
 ·intro w' ⟨s0, s1, s2⟩; go_simp; try with_reducible rfl
 simp only [Act.put, sA, sB, sC]
 refine tk 7 (v := ?_) rfl (by kernel_rfl) (by rfl) ?_ (by assumption) ?_
 rotate_left
 ·intro w' ⟨s0, s1, s2⟩; go_simp; try with_reducible rfl
 simp only [Act.put, sA, sB, sC]
 refine tk 8 (v := ?_) rfl (by kernel_rfl) (by rfl) ?_ (by assumption) ?_
 rotate_left
 ·intro w' ⟨s0, s1, s2⟩; go_simp; try with_reducible rfl
 simp only [Act.put, sA, sB, sC]
 refine tk 9 (v := ?_) rfl (by kernel_rfl) (by rfl) ?_ (by assumption) ?_
 rotate_left
 ·intro w' ⟨s0, s1, s2⟩; go_simp; try with_reducible rfl
 simp only [Act.put, sA, sB, sC]
 refine tk 10 (v := ?_) rfl (by kernel_rfl) (by rfl) ?_ (by assumption) ?_
 rotate_left
 ·intro w' ⟨s0, s1, s2⟩; go_simp; try with_reducible rfl
 simp only [Act.put, sA, sB, sC]
 refine tk 11 (v := ?_) rfl (by kernel_rfl) (by rfl) ?_ (by assumption) ?_
 rotate_left
 ·intro w' ⟨s0, s1, s2⟩; go_simp; try with_reducible rfl
 simp only [Act.put, sA, sB, sC]
 refine tk 12 (v := ?_) rfl (by kernel_rfl) (by rfl) ?_ (by assumption) ?_
 rotate_left
 ·intro w' ⟨s0, s1, s2⟩; go_simp; try with_reducible rfl
 simp only [Act.put, sA, sB, sC]
 refine tk 13 (v := ?_) rfl (by kernel_rfl) (by rfl) ?_ (by assumption) ?_
 rotate_left
 ·intro w' ⟨s0, s1, s2⟩; go_simp; try with_reducible rfl
 simp only [Act.put, sA, sB, sC]
 refine wpAnyH_ready (rs := [14]) (by kernel_rfl) (by simp) ?_
 refine AllReadyH.cons rfl (fun K hK => ?_) AllReadyH.nil
 go_simp
 refine hK.out _ _ ⟨(((hB0 _).alloc (by simp) _).drew.cell (p := ⟨bk, 4, none⟩) hlt).trans c4, (((hB0 _).alloc (by simp) _).drew.cell (p := ⟨bk, 5, none⟩) hlt).trans c5, (((hB0 _).alloc (by simp) _).drew.cell (p := ⟨bk, 6, none⟩) hlt).trans c6⟩ (fun hS1 => ?_)
 clear hK K
 refine wpAnyH_ready (rs := [15]) (by kernel_rfl) (by simp) ?_
 refine AllReadyH.cons rfl (fun K hK => ?_) AllReadyH.nil
 go_simp
 refine hK.out _ _ ⟨(((hB0 _).alloc (by simp) _).drew.cell (p := ⟨bk, 4, none⟩) hlt).trans c4, (((hB0 _).alloc (by simp) _).drew.cell (p := ⟨bk, 5, none⟩) hlt).trans c5, (((hB0 _).alloc (by simp) _).drew.cell (p := ⟨bk, 6, none⟩) hlt).trans c6⟩ (fun _ => ?_)
 clear hK K hS1 hS0 hS0'
 refine wpAnyH_done (by kernel_rfl) ?_ _
 refine QN.normal ?_
 obtain ⟨W1, hW1⟩ : ∃ W1, W1 = ((w.alloc (.cells #[.slice none 0 0, .slice none 0 0, .slice none 0 0, .int .i64 0, .int .i64 0, .int .i64 0] 26)).alloc (.cells #[.slice none 0 0, .slice none 0 0, .slice none 0 0, .int .i64 d.used, .int .i64 d.live, .int .i64 d.turns] 26)).drew := ⟨_, rfl⟩
 rw [← hW1]
 have hD1 : DWay w W1 (.slice none 0 0) (.slice none 0 0) (.slice none 0 0) d := by
  rw [hW1]
  refine ⟨(Deep.blk_alloc_lt _ _ _ (by simp)).trans (Deep.blk_alloc_new _ _), ?_, ((hB0 _).alloc (by simp) _).drew⟩
  have h1 := Deep.blk_alloc_new (w.alloc (.cells #[.slice none 0 0, .slice none 0 0, .slice none 0 0, .int .i64 0, .int .i64 0, .int .i64 0] 26)) (.cells #[.slice none 0 0, .slice none 0 0, .slice none 0 0, .int .i64 d.used, .int .i64 d.live, .int .i64 d.turns] 26)
  rw [World.size_alloc] at h1
  exact h1
 have c0' := (hD1.bel.cell (p := ⟨bk, 0, none⟩) hlt).trans c0
 have lb1 := Nat.lt_of_lt_of_le hlt hD1.bel.size
 have HD1 := uy hD1
 clear hD1 hW1 hB0 hB0' c0 c4 c5 c6
 go_wp2_with fail
 clear c0'
 go_loopw [29] (fun i wr => ∃ (k : Nat) (v0 : Value), k ≤ d.n ∧ i = .int .i64 (k : Int) ∧ POwn wr (w.heap.size + 2) v0 k d.L ∧ DWay w wr v0 (.slice none 0 0) (.slice none 0 0) d) (fun i _ => d.n - (intOf i).toNat)
 case atStart => exact ⟨0, .slice none 0 0, by omega, rfl, World.ownsRow_nil _ _ _ _, uh HD1⟩
 case round =>
  clear HD1
  obtain ⟨k, v0, hk, rfl, hown, hW⟩ := hrel
  have hMr := (uh HM).below hW.bel
  have hzr := hW.size
  by_cases hkn : k < d.n
  ·obtain ⟨g0, cp0, e0, _, g0l, _, hg0, _⟩ := hMr.log.form (by omega)
   cases e0
   have rk := hg0 k hkn
   have he := hMr.ent k hkn
   have hel := he.lt
   have heb := ((uh HM).ent k hkn).lt
   obtain ⟨x0, _, _, _, _, _, hfz⟩ := hW.cells
   have fx := hfz 0
   have hS0 : HeldP (E k) (d.L k) wr.drew := he.drew.held
   have HOW : Hid (POwn wr.drew (w.heap.size + 2) v0 k d.L) := uy hown.drew
   have HAPP : Hid (∀ (o : Obj) (g3 cp3 : Nat) (w3 : World), w3.ownsRow (w.heap.size + 2) 43 11 (.slice (some ⟨g3, 0, none⟩) (k + 1) cp3) (k + 1) (pL d.L k ++ prL (d.L k)) → (wr.drew.alloc o).grownBy w3 v0.ownBlock → HeldP (E k) (d.L k) w3 ∧ w3.cell? ⟨w.heap.size + 1, 0, none⟩ = some v0 ∧ w3.frozen? ⟨w.heap.size + 1, 0, none⟩ = false ∧ w.heap.size + 1 < w3.heap.size ∧ HeldP (E k) (d.L k) (w3.setCell ⟨w.heap.size + 1, 0, none⟩ (.slice (some ⟨g3, 0, none⟩) (k + 1) cp3)) ∧
     (POwn (w3.setCell ⟨w.heap.size + 1, 0, none⟩ (.slice (some ⟨g3, 0, none⟩) (k + 1) cp3)) (w.heap.size + 2) (.slice (some ⟨g3, 0, none⟩) (k + 1) cp3) (k + 1) d.L ∧ DWay w (w3.setCell ⟨w.heap.size + 1, 0, none⟩ (.slice (some ⟨g3, 0, none⟩) (k + 1) cp3)) (.slice (some ⟨g3, 0, none⟩) (k + 1) cp3) (.slice none 0 0) (.slice none 0 0) d)) := uy (fun o g3 cp3 w3 h1 h2 => by
    have hB : ∀ b, b < w.heap.size + 2 → w3.heap[b]? = wr.heap[b]? := fun b hb => (h2.block b (by simp; omega) (fun e => by have := (hown.lt b e.symm).1; omega)).trans (Deep.blk_alloc_lt _ _ _ (by show b < wr.heap.size; omega))
    have hz3 : wr.heap.size ≤ w3.heap.size := by have := h2.size; simp at this; omega
    have hW3 : DWay w w3 v0 (.slice none 0 0) (.slice none 0 0) d := hW.keep (hB _ (by omega)) (hB _ (by omega)) (((hW.bel.drew).alloc (by show w.heap.size ≤ wr.heap.size; omega) o).grown h2 (by simp; omega) (fun q e => by have := (hown.lt q e).1; omega))
    have he3 := he.keep hz3 (hB _ (by omega))
    obtain ⟨y0, _, _, _, _, _, yf⟩ := hW3.cells
    have hg3 := (World.ownsRow.lt h1 g3 rfl).1
    refine ⟨he3.held, y0, yf 0, by omega, (he3.keep (by simp) (Deep.blk_setCell_other _ _ _ _ (by show E k ≠ w.heap.size + 1; omega))).held, own_at h1 (fun q e => Deep.blk_setCell_other _ _ _ _ (by
     have e' : g3 = q := by simpa [Value.ownBlock] using e
     show q ≠ w.heap.size + 1
     omega)), hW3.set0⟩)
   clear hown hMr hg0 he hW hfz
   go_wp2_with fail
   refine wpN_held (HeldP (E k) (d.L k)) (by kernel_rfl) ?_
   change wpAnyH _ _ _ _ _ _ _ _ (World.drew _)
   refine tk 0 (v := ?_) rfl (by kernel_rfl) (by rfl) ?_ (by assumption) ?_
   rotate_left
   ·intro w' ⟨s0, s1, s2, s3, s4, s5, s6, s7, s8, s9, s10⟩; go_simp; try with_reducible rfl
   simp only [Act.put, sA, sB, sC]
   refine tk 2 (v := ?_) rfl (by kernel_rfl) (by rfl) ?_ (by assumption) ?_
   rotate_left
   ·intro w' ⟨s0, s1, s2, s3, s4, s5, s6, s7, s8, s9, s10⟩; go_simp; try with_reducible rfl
   simp only [Act.put, sA, sB, sC]
   refine tk 3 (v := ?_) rfl (by kernel_rfl) (by rfl) ?_ (by assumption) ?_
   rotate_left
   ·intro w' ⟨s0, s1, s2, s3, s4, s5, s6, s7, s8, s9, s10⟩; go_simp; try with_reducible rfl
   simp only [Act.put, sA, sB, sC]
   refine tk 4 (v := ?_) rfl (by kernel_rfl) (by rfl) ?_ (by assumption) ?_
   rotate_left
   ·intro w' ⟨s0, s1, s2, s3, s4, s5, s6, s7, s8, s9, s10⟩; go_simp; try with_reducible rfl
   simp only [Act.put, sA, sB, sC]
   refine tk 5 (v := ?_) rfl (by kernel_rfl) (by rfl) ?_ (by assumption) ?_
   rotate_left
   ·intro w' ⟨s0, s1, s2, s3, s4, s5, s6, s7, s8, s9, s10⟩; go_simp; try with_reducible rfl
   simp only [Act.put, sA, sB, sC]
   refine wpAnyH_ready (rs := [1, 6]) (by kernel_rfl) (by simp) ?_
   refine AllReadyH.cons rfl (fun K hK => ?_) (AllReadyH.cons rfl (fun K hK => ?_) AllReadyH.nil)
   ·go_simp
    refine hK.out _ _ hS0 (fun _ => ?_)
    clear hK K
    refine wpAnyH_ready (rs := [6]) (by kernel_rfl) (by simp) ?_
    refine AllReadyH.cons rfl (fun K hK => ?_) AllReadyH.nil
    go_simp
    refine hK.out _ _ (by obtain ⟨s0, s1, s2, s3, s4, s5, s6, s7, s8, s9, s10⟩ := hS0; exact (fun (hb : Below wr.heap.size wr _) => (⟨(hb.cell (p := ⟨E k, 0, none⟩) hel).trans s0, (hb.cell (p := ⟨E k, 1, none⟩) hel).trans s1, (hb.cell (p := ⟨E k, 2, none⟩) hel).trans s2, (hb.cell (p := ⟨E k, 3, none⟩) hel).trans s3, (hb.cell (p := ⟨E k, 4, none⟩) hel).trans s4, (hb.cell (p := ⟨E k, 5, none⟩) hel).trans s5, (hb.cell (p := ⟨E k, 6, none⟩) hel).trans s6, (hb.cell (p := ⟨E k, 7, none⟩) hel).trans s7, (hb.cell (p := ⟨E k, 8, none⟩) hel).trans s8, (hb.cell (p := ⟨E k, 9, none⟩) hel).trans s9, (hb.cell (p := ⟨E k, 10, none⟩) hel).trans s10⟩ : HeldP (E k) (d.L k) _)) ((Below.refl wr.heap.size wr).drew.alloc (Nat.le_refl _) _)) (fun hS1 => ?_)
    clear hK K
    refine wpAnyH_ready (rs := [7]) (by kernel_rfl) (by simp) ?_
    refine AllReadyH.cons rfl (fun K hK => ?_) AllReadyH.nil
    refine step_append_lies _ rfl (.tmp 34) (.tmp 39) 23 rfl (w.heap.size + 2) 43 i0 PZ 11 104 Tryz.underlying23 hi0 hz0 hz1 hz2 rfl (by decide) v0 k (pL d.L k) (by simp [Act.eval]) (World.ownsRow.alloc (uh HOW) _) ⟨wr.heap.size, 0, none⟩ 1 1 (prL (d.L k)) (by simp [Act.eval]) rfl (World.news_of_block (Deep.blk_alloc_new _ _)) (prL_one _) (by decide) (by unfold maxLen; omega) (by omega) (by simp; omega) _ rfl ?_
    intro g3 cp3 w3 hown3 hgr3 hloc3 hlt3
    obtain ⟨hS3, x3, f3, l3, hS4, HN3⟩ := uh HAPP _ g3 cp3 w3 hown3 hgr3
    clear hown3 hgr3 hloc3
    refine hK.out _ _ hS3 (fun hS3' => ?_)
    clear hK K
    refine tk 8 (v := ?_) rfl (by kernel_rfl) (by rfl) ?_ (by assumption) ?_
    rotate_left
    ·intro w' ⟨s0, s1, s2, s3, s4, s5, s6, s7, s8, s9, s10⟩; go_simp; try with_reducible rfl
    (try simp only [Act.put]); (try simp only [List.setIfInBounds_toArray]); (try simp only [List.set_cons_succ]); try simp only [List.set_cons_zero]
    refine wpAnyH_ready (rs := [9]) (by kernel_rfl) (by simp) ?_
    refine AllReadyH.cons rfl (fun K hK => ?_) AllReadyH.nil
    go_simp
    refine hK.out _ _ hS4 (fun _ => ?_)
    clear hK K hS0 hS3 hS3' hS4
    refine wpAnyH_done (by kernel_rfl) ?_ _
    refine QN.normal ?_
    have HN := uy HN3
    clear HN3 x3 f3
    go_wp2
    go_roundw
    case rel => exact ⟨k + 1, _, by omega, by go_num, (uh HN).1, (uh HN).2⟩
    case measure => simp [intOf]; omega
   ·go_simp
    refine hK.out _ _ (by obtain ⟨s0, s1, s2, s3, s4, s5, s6, s7, s8, s9, s10⟩ := hS0; exact (fun (hb : Below wr.heap.size wr _) => (⟨(hb.cell (p := ⟨E k, 0, none⟩) hel).trans s0, (hb.cell (p := ⟨E k, 1, none⟩) hel).trans s1, (hb.cell (p := ⟨E k, 2, none⟩) hel).trans s2, (hb.cell (p := ⟨E k, 3, none⟩) hel).trans s3, (hb.cell (p := ⟨E k, 4, none⟩) hel).trans s4, (hb.cell (p := ⟨E k, 5, none⟩) hel).trans s5, (hb.cell (p := ⟨E k, 6, none⟩) hel).trans s6, (hb.cell (p := ⟨E k, 7, none⟩) hel).trans s7, (hb.cell (p := ⟨E k, 8, none⟩) hel).trans s8, (hb.cell (p := ⟨E k, 9, none⟩) hel).trans s9, (hb.cell (p := ⟨E k, 10, none⟩) hel).trans s10⟩ : HeldP (E k) (d.L k) _)) ((Below.refl wr.heap.size wr).drew.alloc (Nat.le_refl _) _)) (fun hS1 => ?_)
    clear hK K
    refine wpAnyH_ready (rs := [1]) (by kernel_rfl) (by simp) ?_
    refine AllReadyH.cons rfl (fun K hK => ?_) AllReadyH.nil
    go_simp
    refine hK.out _ _ hS1 (fun _ => ?_)
    clear hK K
    refine wpAnyH_ready (rs := [7]) (by kernel_rfl) (by simp) ?_
    refine AllReadyH.cons rfl (fun K hK => ?_) AllReadyH.nil
    refine step_append_lies _ rfl (.tmp 34) (.tmp 39) 23 rfl (w.heap.size + 2) 43 i0 PZ 11 104 Tryz.underlying23 hi0 hz0 hz1 hz2 rfl (by decide) v0 k (pL d.L k) (by simp [Act.eval]) (World.ownsRow.alloc (uh HOW) _) ⟨wr.heap.size, 0, none⟩ 1 1 (prL (d.L k)) (by simp [Act.eval]) rfl (World.news_of_block (Deep.blk_alloc_new _ _)) (prL_one _) (by decide) (by unfold maxLen; omega) (by omega) (by simp; omega) _ rfl ?_
    intro g3 cp3 w3 hown3 hgr3 hloc3 hlt3
    obtain ⟨hS3, x3, f3, l3, hS4, HN3⟩ := uh HAPP _ g3 cp3 w3 hown3 hgr3
    clear hown3 hgr3 hloc3
    refine hK.out _ _ hS3 (fun hS3' => ?_)
    clear hK K
    refine tk 8 (v := ?_) rfl (by kernel_rfl) (by rfl) ?_ (by assumption) ?_
    rotate_left
    ·intro w' ⟨s0, s1, s2, s3, s4, s5, s6, s7, s8, s9, s10⟩; go_simp; try with_reducible rfl
    (try simp only [Act.put]); (try simp only [List.setIfInBounds_toArray]); (try simp only [List.set_cons_succ]); try simp only [List.set_cons_zero]
    refine wpAnyH_ready (rs := [9]) (by kernel_rfl) (by simp) ?_
    refine AllReadyH.cons rfl (fun K hK => ?_) AllReadyH.nil
    go_simp
    refine hK.out _ _ hS4 (fun _ => ?_)
    clear hK K hS0 hS3 hS3' hS4
    refine wpAnyH_done (by kernel_rfl) ?_ _
    refine QN.normal ?_
    have HN := uy HN3
    clear HN3 x3 f3
    go_wp2
    go_roundw
    case rel => exact ⟨k + 1, _, by omega, by go_num, (uh HN).1, (uh HN).2⟩
    case measure => simp [intOf]; omega
  ·have hk' : k = d.n := by omega
   subst hk'
   have HMr := uy hMr
   have HOW := uy hown
   have c1 := hMr.c1
   have lb := hMr.lt
   obtain ⟨x0, x1, x2, x3, x4, x5, hfz⟩ := hW.cells
   have fx1 := hfz 1
   have HW := uy hW
   clear hMr hown hW hfz
   go_wp2_with fail
   obtain ⟨g1, hg1⟩ : ∃ g1, g1 = wr.heap.size := ⟨_, rfl⟩
   obtain ⟨W2, hW2⟩ : ∃ W2, W2 = (wr.setCell ⟨w.heap.size + 1, 1, none⟩ (.slice (some ⟨wr.heap.size, 0, none⟩) d.m d.m)).alloc (.cells (madeCells #[Value.int .i64 0] d.m) 3) := ⟨_, rfl⟩
   rw [← hW2]
   have hP2 : IOwn W2 (w.heap.size + 2) (.slice (some ⟨g1, 0, none⟩) d.m d.m) d.m (upTo d.I 0) := by
    have h1 := IOwn.made (wr.setCell ⟨w.heap.size + 1, 1, none⟩ (.slice (some ⟨wr.heap.size, 0, none⟩) d.m d.m)) (w.heap.size + 2) d.m (by simp; omega) hm
    rw [show (wr.setCell ⟨w.heap.size + 1, 1, none⟩ (.slice (some ⟨wr.heap.size, 0, none⟩) d.m d.m)).heap.size = g1 by rw [hg1]; simp] at h1
    rw [hW2]
    exact h1.congr (fun i _ => if_neg (by omega))
   have hkp : ∀ b, b < g1 → b ≠ w.heap.size + 1 → W2.heap[b]? = wr.heap[b]? := fun b hb hne => by
    rw [hW2]
    exact (Deep.blk_alloc_lt _ _ _ (by simp; omega)).trans (Deep.blk_setCell_other _ _ _ _ (by exact hne))
   have hv0 : ∀ q, v0.ownBlock = some q → w.heap.size + 2 ≤ q ∧ q < g1 := fun q e => by have := (uh HOW).lt q e; omega
   have hO2 : POwn W2 (w.heap.size + 2) v0 d.n d.L := own_at (uh HOW) (fun q e => hkp q (hv0 q e).2 (by have := (hv0 q e).1; omega))
   have hD2 : DWay w W2 v0 (.slice (some ⟨g1, 0, none⟩) d.m d.m) (.slice none 0 0) d := by
    have h1 := (uh HW).set1 (u := .slice (some ⟨g1, 0, none⟩) d.m d.m)
    rw [hg1] at h1 ⊢
    rw [hW2]
    exact h1.keep (Deep.blk_alloc_lt _ _ _ (by simp; omega)) (Deep.blk_alloc_lt _ _ _ (by simp; omega)) (h1.bel.alloc (by simp; omega) _)
   have hg1n : w.heap.size + 2 ≤ g1 := by omega
   have HL2 := uy (show IOwn W2 (w.heap.size + 2) (.slice (some ⟨g1, 0, none⟩) d.m d.m) d.m (upTo d.I 0) ∧ POwn W2 (w.heap.size + 2) v0 d.n d.L ∧ DWay w W2 v0 (.slice (some ⟨g1, 0, none⟩) d.m d.m) (.slice none 0 0) d from ⟨hP2, hO2, hD2⟩)
   rw [← hg1]
   have HV0 := uy hv0
   clear HMr HOW HW hP2 hkp hv0 hO2 hD2 hW2 hg1 x0 x1 x2 x3 x4 x5 fx1 c1 lb hzr hkn hk lb1
   go_loopw [55] (fun i wr => ∃ k : Nat, k ≤ d.m ∧ i = .int .i64 (k : Int) ∧ IOwn wr (w.heap.size + 2) (.slice (some ⟨g1, 0, none⟩) d.m d.m) d.m (upTo d.I k) ∧ POwn wr (w.heap.size + 2) v0 d.n d.L ∧ DWay w wr v0 (.slice (some ⟨g1, 0, none⟩) d.m d.m) (.slice none 0 0) d) (fun i _ => d.m - (intOf i).toNat)
   case atStart => exact ⟨0, by omega, rfl, (uh HL2).1, (uh HL2).2.1, (uh HL2).2.2⟩
   case round =>
    clear HL2
    obtain ⟨k, hk, rfl, hP, hO, hW⟩ := hrel
    have hMr := (uh HM).below hW.bel
    have hzr := hW.size
    by_cases hkn : k < d.m
    ·obtain ⟨_, _, e1, _, _, _, hc1, _⟩ := hMr.ints.form (by omega)
     cases e1
     have rk : wr.cell? ⟨Q1, k, none⟩ = some (.pointer (entP E (d.I k))) := hc1 k hkn
     obtain ⟨_, _, e2, hgl, hgs, _, hgc, hgf⟩ := hP.form (by omega)
     cases e2
     have gk := hgc k hkn
     have gf := hgf k
     have hQl := World.block_lt_of_cell? _ _ rk
     dsimp only at hQl
     obtain ⟨hI1, hI2⟩ := uh HI k hkn
     obtain ⟨x0, x1, _, _, _, _, hfz⟩ := hW.cells
     by_cases h0 : d.I k = 0
     ·rw [h0, show entP E 0 = none from if_neg (by decide)] at rk
      have HN : Hid (IOwn wr (w.heap.size + 2) (.slice (some ⟨g1, 0, none⟩) d.m d.m) d.m (upTo d.I (k + 1)) ∧ POwn wr (w.heap.size + 2) v0 d.n d.L ∧ DWay w wr v0 (.slice (some ⟨g1, 0, none⟩) d.m d.m) (.slice none 0 0) d) := uy ⟨by rw [← upTo_zero d.I k h0]; exact hP, hO, hW⟩
      clear hP hO hW hMr hc1 hgc hgf hfz h0 hI1 hI2
      go_wp2
      go_roundw
      case rel => exact ⟨k + 1, by omega, by go_num, (uh HN).1, (uh HN).2.1, (uh HN).2.2⟩
      case measure => simp [intOf]; omega
     ·obtain ⟨q, hq⟩ : ∃ q : Nat, d.I k = (q : Int) + 1 := ⟨(d.I k - 1).toNat, by omega⟩
      have hqn : q < d.n := by omega
      rw [hq, show entP E ((q : Int) + 1) = some ⟨E q, 0, none⟩ by unfold entP; rw [if_pos (by omega), show ((q : Int) + 1 - 1).toNat = q by omega]] at rk
      have he := hMr.ent q hqn
      have hel := he.lt
      have heb := ((uh HM).ent q hqn).lt
      have hwq : IntKind.i64.wrap ((q : Int) + 1) = (q : Int) + 1 := by rw [IntKind.wrap_i64]; omega
      have hS0 : HeldI (w.heap.size + 1) g1 d.m (E q) q wr.drew := ⟨x1, he.pl⟩
      have hS1 : HeldI (w.heap.size + 1) g1 d.m (E q) q (wr.setCell ⟨g1, k, none⟩ (.int .i64 ((q : Int) + 1))).drew := ⟨(cell_set_block (by omega)).trans x1, (cell_set_block (by omega)).trans he.pl⟩
      have HN : Hid (IOwn (wr.setCell ⟨g1, k, none⟩ (.int .i64 ((q : Int) + 1))).drew (w.heap.size + 2) (.slice (some ⟨g1, 0, none⟩) d.m d.m) d.m (upTo d.I (k + 1)) ∧ POwn (wr.setCell ⟨g1, k, none⟩ (.int .i64 ((q : Int) + 1))).drew (w.heap.size + 2) v0 d.n d.L ∧ DWay w (wr.setCell ⟨g1, k, none⟩ (.int .i64 ((q : Int) + 1))).drew v0 (.slice (some ⟨g1, 0, none⟩) d.m d.m) (.slice none 0 0) d) := uy (by
       refine ⟨?_, own_at hO (fun b e => Deep.blk_setCell_other _ _ _ _ (by have := uh HV0 b e; show b ≠ g1; omega)), hW.keep (Deep.blk_setCell_other _ _ _ _ (by show w.heap.size ≠ g1; omega)) (Deep.blk_setCell_other _ _ _ _ (by show w.heap.size + 1 ≠ g1; omega)) (hW.bel.setCell (by show w.heap.size ≤ g1; omega) _).drew⟩
       have h1 := (hP.set hkn ((q : Int) + 1)).drew
       rw [← hq, upTo_step] at h1
       rw [← hq]
       exact h1)
      clear hP hO hW hMr hc1 hgc hgf hfz h0 hI1 hI2 he hq
      go_wp2_with fail
      refine wpN_held (HeldI (w.heap.size + 1) g1 d.m (E q) q) (by kernel_rfl) ?_
      change wpAnyH _ _ _ _ _ _ _ _ (World.drew _)
      refine tk 0 (v := ?_) rfl (by kernel_rfl) (by rfl) ?_ (by assumption) ?_
      rotate_left
      ·intro w' ⟨s0, s1⟩; go_simp; try with_reducible rfl
      simp only [Act.put, sA, sB, sC]
      refine tk 1 (v := ?_) rfl (by kernel_rfl) (by rfl) ?_ (by assumption) ?_
      rotate_left
      ·intro w' ⟨s0, s1⟩; go_simp; try with_reducible rfl
      simp only [Act.put, sA, sB, sC]
      refine tk 2 (v := ?_) rfl (by kernel_rfl) (by rfl) ?_ (by assumption) ?_
      rotate_left
      ·intro w' ⟨s0, s1⟩; go_simp; try with_reducible rfl
      simp only [Act.put, sA, sB, sC]
      refine tk 3 (v := ?_) rfl (by kernel_rfl) (by rfl) ?_ (by assumption) ?_
      rotate_left
      ·intro w' ⟨s0, s1⟩; go_simp; try with_reducible rfl
      simp only [Act.put, sA, sB, sC]
      refine tk 4 (v := ?_) rfl (by kernel_rfl) (by rfl) ?_ (by assumption) ?_
      rotate_left
      ·intro w' ⟨s0, s1⟩; go_simp; try with_reducible rfl
      simp only [Act.put, sA, sB, sC]
      refine tk 5 (v := ?_) rfl (by kernel_rfl) (by rfl) ?_ (by assumption) ?_
      rotate_left
      ·intro w' ⟨s0, s1⟩; go_simp; try with_reducible rfl
      simp only [Act.put, sA, sB, sC]
      refine tk 6 (v := ?_) rfl (by kernel_rfl) (by rfl) ?_ (by assumption) ?_
      rotate_left
      ·intro w' ⟨s0, s1⟩; go_simp; try with_reducible rfl
      simp only [Act.put, sA, sB, sC]
      refine tk 7 (v := ?_) rfl (by kernel_rfl) (by rfl) ?_ (by assumption) ?_
      rotate_left
      ·intro w' ⟨s0, s1⟩; go_simp; try with_reducible rfl
      simp only [Act.put, sA, sB, sC]
      refine tk 8 (v := ?_) rfl (by kernel_rfl) (by rfl) ?_ (by assumption) ?_
      rotate_left
      ·intro w' ⟨s0, s1⟩; go_simp; try with_reducible rfl
      simp only [Act.put, sA, sB, sC]
      refine wpAnyH_ready (rs := [9]) (by kernel_rfl) (by simp) ?_
      refine AllReadyH.cons rfl (fun K hK => ?_) AllReadyH.nil
      go_simp
      refine hK.out _ _ hS1 (fun _ => ?_)
      clear hK K hS0 hS1
      refine wpAnyH_done (by kernel_rfl) ?_ _
      refine QN.normal ?_
      go_wp2
      go_roundw
      case rel => exact ⟨k + 1, by omega, by go_num, (uh HN).1, (uh HN).2.1, (uh HN).2.2⟩
      case measure => simp [intOf]; omega
    ·have hk' : k = d.m := by omega
     subst hk'
     have hP' : IOwn wr (w.heap.size + 2) (.slice (some ⟨g1, 0, none⟩) d.m d.m) d.m d.I := hP.congr (fun i hi => (if_pos hi).symm)
     have c3 := hMr.c3
     have lb := hMr.lt
     obtain ⟨x0, x1, x2, x3, x4, x5, hfz⟩ := hW.cells
     have fx2 := hfz 2
     have hg1l := (hP'.lt g1 rfl).2
     have HP := uy hP'
     have HO := uy hO
     have HW := uy hW
     clear hMr hP hP' hO hW hfz
     go_wp2_with fail
     obtain ⟨g2, hg2⟩ : ∃ g2, g2 = wr.heap.size := ⟨_, rfl⟩
     obtain ⟨W3, hW3⟩ : ∃ W3, W3 = (wr.setCell ⟨w.heap.size + 1, 2, none⟩ (.slice (some ⟨wr.heap.size, 0, none⟩) d.x d.x)).alloc (.cells (madeCells #[Value.int .i64 0] d.x) 3) := ⟨_, rfl⟩
     rw [← hW3]
     have hX3 : IOwn W3 (w.heap.size + 2) (.slice (some ⟨g2, 0, none⟩) d.x d.x) d.x (upTo d.X 0) := by
      have h1 := IOwn.made (wr.setCell ⟨w.heap.size + 1, 2, none⟩ (.slice (some ⟨wr.heap.size, 0, none⟩) d.x d.x)) (w.heap.size + 2) d.x (by simp; omega) hx
      rw [show (wr.setCell ⟨w.heap.size + 1, 2, none⟩ (.slice (some ⟨wr.heap.size, 0, none⟩) d.x d.x)).heap.size = g2 by rw [hg2]; simp] at h1
      rw [hW3]
      exact h1.congr (fun i _ => if_neg (by omega))
     have hkp : ∀ b, b < g2 → b ≠ w.heap.size + 1 → W3.heap[b]? = wr.heap[b]? := fun b hb hne => by
      rw [hW3]
      exact (Deep.blk_alloc_lt _ _ _ (by simp; omega)).trans (Deep.blk_setCell_other _ _ _ _ (by exact hne))
     have hO3 : POwn W3 (w.heap.size + 2) v0 d.n d.L := own_at (uh HO) (fun q e => hkp q (by have := uh HV0 q e; omega) (by have := uh HV0 q e; omega))
     have hP3 : IOwn W3 (w.heap.size + 2) (.slice (some ⟨g1, 0, none⟩) d.m d.m) d.m d.I := own_at (uh HP) (fun q e => by
      have e' : g1 = q := by simpa [Value.ownBlock] using e
      exact hkp q (by omega) (by omega))
     have hD3 : DWay w W3 v0 (.slice (some ⟨g1, 0, none⟩) d.m d.m) (.slice (some ⟨g2, 0, none⟩) d.x d.x) d := by
      have h1 := (uh HW).set2 (u := .slice (some ⟨g2, 0, none⟩) d.x d.x)
      rw [hg2] at h1 ⊢
      rw [hW3]
      exact h1.keep (Deep.blk_alloc_lt _ _ _ (by simp; omega)) (Deep.blk_alloc_lt _ _ _ (by simp; omega)) (h1.bel.alloc (by simp; omega) _)
     have hg12 : g1 < g2 := by omega
     have HL3 := uy (show IOwn W3 (w.heap.size + 2) (.slice (some ⟨g2, 0, none⟩) d.x d.x) d.x (upTo d.X 0) ∧ IOwn W3 (w.heap.size + 2) (.slice (some ⟨g1, 0, none⟩) d.m d.m) d.m d.I ∧ POwn W3 (w.heap.size + 2) v0 d.n d.L ∧ DWay w W3 v0 (.slice (some ⟨g1, 0, none⟩) d.m d.m) (.slice (some ⟨g2, 0, none⟩) d.x d.x) d from ⟨hX3, hP3, hO3, hD3⟩)
     rw [← hg2]
     clear HP HO HW hX3 hP3 hO3 hD3 hkp hW3 hg2 x0 x1 x2 x3 x4 x5 fx2 c3 lb hzr hkn hk hg1l
     go_loopw [86] (fun i wr => ∃ k : Nat, k ≤ d.x ∧ i = .int .i64 (k : Int) ∧ IOwn wr (w.heap.size + 2) (.slice (some ⟨g2, 0, none⟩) d.x d.x) d.x (upTo d.X k) ∧ IOwn wr (w.heap.size + 2) (.slice (some ⟨g1, 0, none⟩) d.m d.m) d.m d.I ∧ POwn wr (w.heap.size + 2) v0 d.n d.L ∧ DWay w wr v0 (.slice (some ⟨g1, 0, none⟩) d.m d.m) (.slice (some ⟨g2, 0, none⟩) d.x d.x) d) (fun i _ => d.x - (intOf i).toNat)
     case atStart => exact ⟨0, by omega, rfl, (uh HL3).1, (uh HL3).2.1, (uh HL3).2.2.1, (uh HL3).2.2.2⟩
     case round =>
      clear HL3
      obtain ⟨k, hk, rfl, hX', hP, hO, hW⟩ := hrel
      have hMr := (uh HM).below hW.bel
      have hzr := hW.size
      obtain ⟨x0, x1, x2, x3, x4, x5, hfz⟩ := hW.cells
      by_cases hkn : k < d.x
      ·obtain ⟨_, _, e1, _, _, _, hc1, _⟩ := hMr.slots.form (by omega)
       cases e1
       have rk : wr.cell? ⟨R2, k, none⟩ = some (.pointer (sltP S k (d.X k))) := hc1 k hkn
       obtain ⟨_, _, e2, hgl, hgs, _, hgc, hgf⟩ := hX'.form (by omega)
       cases e2
       have gk := hgc k hkn
       have gf := hgf k
       have hQl := World.block_lt_of_cell? _ _ rk
       dsimp only at hQl
       have hsl := hMr.sl k hkn
       have SETX : ∀ x : Int, d.X k = x → IOwn (wr.setCell ⟨g2, k, none⟩ (.int .i64 x)) (w.heap.size + 2) (.slice (some ⟨g2, 0, none⟩) d.x d.x) d.x (upTo d.X (k + 1)) ∧ IOwn (wr.setCell ⟨g2, k, none⟩ (.int .i64 x)) (w.heap.size + 2) (.slice (some ⟨g1, 0, none⟩) d.m d.m) d.m d.I ∧ POwn (wr.setCell ⟨g2, k, none⟩ (.int .i64 x)) (w.heap.size + 2) v0 d.n d.L ∧ DWay w (wr.setCell ⟨g2, k, none⟩ (.int .i64 x)) v0 (.slice (some ⟨g1, 0, none⟩) d.m d.m) (.slice (some ⟨g2, 0, none⟩) d.x d.x) d := fun x hx' => by
        refine ⟨?_, own_at hP (fun b e => Deep.blk_setCell_other _ _ _ _ (by
         have e' : g1 = b := by simpa [Value.ownBlock] using e
         show b ≠ g2
         omega)), own_at hO (fun b e => Deep.blk_setCell_other _ _ _ _ (by have := uh HV0 b e; show b ≠ g2; omega)), hW.keep (Deep.blk_setCell_other _ _ _ _ (by show w.heap.size ≠ g2; omega)) (Deep.blk_setCell_other _ _ _ _ (by show w.heap.size + 1 ≠ g2; omega)) (hW.bel.setCell (by show w.heap.size ≤ g2; omega) _)⟩
        have h1 := hX'.set hkn x
        rw [← hx', upTo_step] at h1
        rw [← hx']
        exact h1
       have HSETX := uy SETX
       rcases uh HX k hkn with h0 | h0 | ⟨h0, h0'⟩
       ·rw [h0, show sltP S k 0 = none from if_pos rfl] at rk
        have HN : Hid (IOwn wr (w.heap.size + 2) (.slice (some ⟨g2, 0, none⟩) d.x d.x) d.x (upTo d.X (k + 1)) ∧ IOwn wr (w.heap.size + 2) (.slice (some ⟨g1, 0, none⟩) d.m d.m) d.m d.I ∧ POwn wr (w.heap.size + 2) v0 d.n d.L ∧ DWay w wr v0 (.slice (some ⟨g1, 0, none⟩) d.m d.m) (.slice (some ⟨g2, 0, none⟩) d.x d.x) d) := uy ⟨by rw [← upTo_zero d.X k h0]; exact hX', hP, hO, hW⟩
        clear hX' hP hO hW hMr hc1 hgc hgf hfz h0 hsl SETX HSETX
        go_wp2
        go_roundw
        case rel => exact ⟨k + 1, by omega, by go_num, (uh HN).1, (uh HN).2.1, (uh HN).2.2.1, (uh HN).2.2.2⟩
        case measure => simp [intOf]; omega
       ·rw [h0, show sltP S k (-1) = some ⟨S k, 0, none⟩ from if_neg (by decide)] at rk
        have hgc' := hsl.2 (by omega)
        have gg := hgc'.gn
        have hsz := hgc'.lt
        have HN := uy (SETX (-1) h0)
        clear hX' hP hO hW hMr hc1 hgc hgf hfz h0 hsl SETX HSETX hgc'
        go_wp2
        go_roundw
        case rel => exact ⟨k + 1, by omega, by go_num, (uh HN).1, (uh HN).2.1, (uh HN).2.2.1, (uh HN).2.2.2⟩
        case measure => simp [intOf]; omega
       ·obtain ⟨q, hq⟩ : ∃ q : Nat, d.X k = (q : Int) + 1 := ⟨(d.X k - 1).toNat, by omega⟩
        have hqn : q < d.n := by omega
        rw [show sltP S k (d.X k) = some ⟨S k, 0, none⟩ from if_neg (by omega)] at rk
        have hsc : SCell wr (S k) (d.at (d.X k)).key (E (d.X k - 1).toNat) := hsl.1 h0
        rw [show (d.X k - 1).toNat = q by omega] at hsc
        have gg := hsc.gn
        have gp := hsc.pt
        have hsz := hsc.lt
        have he := hMr.ent q hqn
        have hel := he.lt
        have heb := ((uh HM).ent q hqn).lt
        have hsb : S k ≠ g2 := fun e => by
         obtain ⟨cc, hcc⟩ : ∃ cc, wr.heap[g2]? = some (.cells cc 3 (0, 0)) := by
          obtain ⟨_, ⟨hv, _⟩ | ⟨g, cap, cur, hv, _, hblk, _⟩⟩ := hX'
          ·cases hv
          ·cases hv
           exact ⟨cur, hblk⟩
         exact type_apart (e ▸ hsc.ob) hcc (by decide)
        have hwq : IntKind.i64.wrap ((q : Int) + 1) = (q : Int) + 1 := by rw [IntKind.wrap_i64]; omega
        have hS0 : HeldX (w.heap.size + 1) g2 d.x (S k) (E q) q wr.drew := ⟨x2, gp, he.pl⟩
        have hS1 : HeldX (w.heap.size + 1) g2 d.x (S k) (E q) q (wr.setCell ⟨g2, k, none⟩ (.int .i64 ((q : Int) + 1))).drew := ⟨(cell_set_block (by omega)).trans x2, (cell_set_block (fun e => hsb e.symm)).trans gp, (cell_set_block (by omega)).trans he.pl⟩
        have HN := uy (SETX ((q : Int) + 1) hq)
        clear hX' hP hO hW hMr hc1 hgc hgf hfz h0 h0' hsl SETX HSETX he hsc hq
        go_wp2_with fail
        refine wpN_held (HeldX (w.heap.size + 1) g2 d.x (S k) (E q) q) (by kernel_rfl) ?_
        change wpAnyH _ _ _ _ _ _ _ _ (World.drew _)
        refine tk 0 (v := ?_) rfl (by kernel_rfl) (by rfl) ?_ (by assumption) ?_
        rotate_left
        ·intro w' ⟨s0, s1, s2⟩; go_simp; try with_reducible rfl
        simp only [Act.put, sA, sB, sC]
        refine tk 1 (v := ?_) rfl (by kernel_rfl) (by rfl) ?_ (by assumption) ?_
        rotate_left
        ·intro w' ⟨s0, s1, s2⟩; go_simp; try with_reducible rfl
        simp only [Act.put, sA, sB, sC]
        refine tk 2 (v := ?_) rfl (by kernel_rfl) (by rfl) ?_ (by assumption) ?_
        rotate_left
        ·intro w' ⟨s0, s1, s2⟩; go_simp; try with_reducible rfl
        simp only [Act.put, sA, sB, sC]
        refine tk 3 (v := ?_) rfl (by kernel_rfl) (by rfl) ?_ (by assumption) ?_
        rotate_left
        ·intro w' ⟨s0, s1, s2⟩; go_simp; try with_reducible rfl
        simp only [Act.put, sA, sB, sC]
        refine tk 4 (v := ?_) rfl (by kernel_rfl) (by rfl) ?_ (by assumption) ?_
        rotate_left
        ·intro w' ⟨s0, s1, s2⟩; go_simp; try with_reducible rfl
        simp only [Act.put, sA, sB, sC]
        refine tk 5 (v := ?_) rfl (by kernel_rfl) (by rfl) ?_ (by assumption) ?_
        rotate_left
        ·intro w' ⟨s0, s1, s2⟩; go_simp; try with_reducible rfl
        simp only [Act.put, sA, sB, sC]
        refine tk 6 (v := ?_) rfl (by kernel_rfl) (by rfl) ?_ (by assumption) ?_
        rotate_left
        ·intro w' ⟨s0, s1, s2⟩; go_simp; try with_reducible rfl
        simp only [Act.put, sA, sB, sC]
        refine tk 7 (v := ?_) rfl (by kernel_rfl) (by rfl) ?_ (by assumption) ?_
        rotate_left
        ·intro w' ⟨s0, s1, s2⟩; go_simp; try with_reducible rfl
        simp only [Act.put, sA, sB, sC]
        refine tk 8 (v := ?_) rfl (by kernel_rfl) (by rfl) ?_ (by assumption) ?_
        rotate_left
        ·intro w' ⟨s0, s1, s2⟩; go_simp; try with_reducible rfl
        simp only [Act.put, sA, sB, sC]
        refine tk 9 (v := ?_) rfl (by kernel_rfl) (by rfl) ?_ (by assumption) ?_
        rotate_left
        ·intro w' ⟨s0, s1, s2⟩; go_simp; try with_reducible rfl
        simp only [Act.put, sA, sB, sC]
        refine tk 10 (v := ?_) rfl (by kernel_rfl) (by rfl) ?_ (by assumption) ?_
        rotate_left
        ·intro w' ⟨s0, s1, s2⟩; go_simp; try with_reducible rfl
        simp only [Act.put, sA, sB, sC]
        refine tk 11 (v := ?_) rfl (by kernel_rfl) (by rfl) ?_ (by assumption) ?_
        rotate_left
        ·intro w' ⟨s0, s1, s2⟩; go_simp; try with_reducible rfl
        simp only [Act.put, sA, sB, sC]
        refine wpAnyH_ready (rs := [12]) (by kernel_rfl) (by simp) ?_
        refine AllReadyH.cons rfl (fun K hK => ?_) AllReadyH.nil
        go_simp
        refine hK.out _ _ hS1 (fun _ => ?_)
        clear hK K hS0 hS1
        refine wpAnyH_done (by kernel_rfl) ?_ _
        refine QN.normal ?_
        go_wp2
        go_roundw
        case rel => exact ⟨k + 1, by omega, by go_num, (uh HN).1.drew, (uh HN).2.1.drew, (uh HN).2.2.1.drew, (uh HN).2.2.2.keep rfl rfl (uh HN).2.2.2.bel.drew⟩
        case measure => simp [intOf]; omega
      ·have hk' : k = d.x := by omega
       subst hk'
       have y0 : wr.cell? ⟨w.heap.size, 0, none⟩ = some (.slice none 0 0) := by simp [World.cell?, hW.b0]
       have y1 : wr.cell? ⟨w.heap.size, 1, none⟩ = some (.slice none 0 0) := by simp [World.cell?, hW.b0]
       have y2 : wr.cell? ⟨w.heap.size, 2, none⟩ = some (.slice none 0 0) := by simp [World.cell?, hW.b0]
       have y3 : wr.cell? ⟨w.heap.size, 3, none⟩ = some (.int .i64 0) := by simp [World.cell?, hW.b0]
       have y4 : wr.cell? ⟨w.heap.size, 4, none⟩ = some (.int .i64 0) := by simp [World.cell?, hW.b0]
       have y5 : wr.cell? ⟨w.heap.size, 5, none⟩ = some (.int .i64 0) := by simp [World.cell?, hW.b0]
       have yf : ∀ q, wr.frozen? ⟨w.heap.size, q, none⟩ = false := fun q => by simp [World.frozen?, hW.b0]
       have hyl : w.heap.size < wr.heap.size := by omega
       have hX'' : IOwn wr (w.heap.size + 2) (.slice (some ⟨g2, 0, none⟩) d.x d.x) d.x d.X := hX'.congr (fun i hi => (if_pos hi).symm)
       obtain ⟨va, vc, ev⟩ : ∃ va vc, v0 = .slice va d.n vc := by
        obtain ⟨_, ⟨hv, h0⟩ | ⟨g, cap, cur, hv, _⟩⟩ := hO
        ·exact ⟨none, 0, by rw [hv, h0]⟩
        ·exact ⟨_, _, hv⟩
       subst ev
       have HFIN : Hid (∀ W' : World, Below (w.heap.size) w W' → wr.heap.size ≤ W'.heap.size → (∀ b, w.heap.size + 2 ≤ b → W'.heap[b]? = wr.heap[b]?) → DV d W' (.slice va d.n vc) (.slice (some ⟨g1, 0, none⟩) d.m d.m) (.slice (some ⟨g2, 0, none⟩) d.x d.x) w.heap.size W'.heap.size) := uy (fun W' hB hz hb => by
        have o0 : POwn W' w.heap.size (.slice va d.n vc) d.n d.L := own_mono (own_at hO (fun q e => hb q (hO.lt q e).1)) (by omega)
        have o1 : IOwn W' w.heap.size (.slice (some ⟨g1, 0, none⟩) d.m d.m) d.m d.I := own_mono (own_at hP (fun q e => hb q (hP.lt q e).1)) (by omega)
        have o2 : IOwn W' w.heap.size (.slice (some ⟨g2, 0, none⟩) d.x d.x) d.x d.X := own_mono (own_at hX'' (fun q e => hb q (hX''.lt q e).1)) (by omega)
        refine ⟨PrV.of o0, InV.of o1, InV.of o2, fun q e e' => ?_, fun q e e' => ?_, fun q e e' => ?_⟩
        ·have := (uh HV0 q e).2
         have e2 : g1 = q := by simpa [Value.ownBlock] using e'
         omega
        ·have := (uh HV0 q e).2
         have e2 : g2 = q := by simpa [Value.ownBlock] using e'
         omega
        ·have e1 : g1 = q := by simpa [Value.ownBlock] using e
         have e2 : g2 = q := by simpa [Value.ownBlock] using e'
         omega)
       have HBW := uy hW.bel
       clear hX' hX'' hP hO hW hMr hfz
       go_wp2
       refine bodyPost_ret (v := DvV (.slice va d.n vc) (.slice (some ⟨g1, 0, none⟩) d.m d.m) (.slice (some ⟨g2, 0, none⟩) d.x d.x) d) (by simp [results, Tryz.results54, go_sem, y0, y1, y2, y3, y4, y5]) rfl ?_
       have hbel : Below w.heap.size w ((((((wr.setCell ⟨w.heap.size, 0, none⟩ (.slice va d.n vc)).setCell ⟨w.heap.size, 1, none⟩ (.slice (some ⟨g1, 0, none⟩) d.m d.m)).setCell ⟨w.heap.size, 2, none⟩ (.slice (some ⟨g2, 0, none⟩) d.x d.x)).setCell ⟨w.heap.size, 3, none⟩ (.int .i64 d.used)).setCell ⟨w.heap.size, 4, none⟩ (.int .i64 d.live)).setCell ⟨w.heap.size, 5, none⟩ (.int .i64 d.turns)) := by
        iterate 6 (refine Below.setCell ?_ (by exact Nat.le_refl _) _)
        exact uh HBW
       refine ⟨⟨_, _, _, rfl, uh HFIN _ hbel (by simp) (fun b hb => ?_)⟩, hbel⟩
       iterate 6 (refine (Deep.blk_setCell_other _ _ _ _ (by show b ≠ w.heap.size; omega)).trans ?_)
       rfl
end
section
open Go.RowKit
attribute [local go_sem] run_store_float run_equalIn_float
structure PBox (w W : World) (la : Option Addr) (lc : Nat) (ia : Option Addr) (ic : Nat) (xa : Option Addr) (xc : Nat) (d : Dc) (v : Vl) : Prop where
 b0 : W.heap[w.heap.size]? = some (.cells #[.slice la d.n lc, .slice ia d.m ic, .slice xa d.x xc, .int .i64 d.used, .int .i64 d.live, .int .i64 d.turns] 26 (0, 0))
 b2 : W.heap[w.heap.size + 1 + 1]? = some (.cells #[.int .i64 v.kind, .int .i64 v.num, .float .f64 v.flt, .string v.str, .int .i64 v.ref] 30 (0, 0))
 b3 : W.heap[w.heap.size + 1 + 1 + 1]? = some (.cells #[.slice none 0 0, .slice none 0 0, .slice none 0 0, .int .i64 0, .int .i64 0, .int .i64 0] 26 (0, 0))
 bel : Below w.heap.size w W
section
variable {w W W' : World} {la ia xa : Option Addr} {lc ic xc : Nat} {d : Dc} {v : Vl}
theorem PBox.size (h : PBox w W la lc ia ic xa xc d v) : w.heap.size + 1 + 1 + 1 < W.heap.size := (Array.getElem?_eq_some_iff.1 h.b3).1
theorem PBox.keep (h : PBox w W la lc ia ic xa xc d v) {B : Nat} (hb : Below B W W') (hB : w.heap.size + 1 + 1 + 1 < B) : PBox w W' la lc ia ic xa xc d v :=
 ⟨(hb.block _ (by omega)).trans h.b0, (hb.block _ (by omega)).trans h.b2, (hb.block _ hB).trans h.b3, h.bel.trans (hb.mono (by omega))⟩
theorem PBox.dc (h : PBox w W la lc ia ic xa xc d v) : W.cell? ⟨w.heap.size, 0, none⟩ = some (.slice la d.n lc) ∧ W.cell? ⟨w.heap.size, 1, none⟩ = some (.slice ia d.m ic) ∧ W.cell? ⟨w.heap.size, 2, none⟩ = some (.slice xa d.x xc) ∧ W.cell? ⟨w.heap.size, 3, none⟩ = some (.int .i64 d.used) ∧ W.cell? ⟨w.heap.size, 4, none⟩ = some (.int .i64 d.live) ∧ W.cell? ⟨w.heap.size, 5, none⟩ = some (.int .i64 d.turns) :=
 ⟨by simp [World.cell?, h.b0], by simp [World.cell?, h.b0], by simp [World.cell?, h.b0], by simp [World.cell?, h.b0], by simp [World.cell?, h.b0], by simp [World.cell?, h.b0]⟩
theorem PBox.vc (h : PBox w W la lc ia ic xa xc d v) : W.cell? ⟨w.heap.size + 1 + 1, 0, none⟩ = some (.int .i64 v.kind) ∧ W.cell? ⟨w.heap.size + 1 + 1, 1, none⟩ = some (.int .i64 v.num) ∧ W.cell? ⟨w.heap.size + 1 + 1, 2, none⟩ = some (.float .f64 v.flt) ∧ W.cell? ⟨w.heap.size + 1 + 1, 3, none⟩ = some (.string v.str) ∧ W.cell? ⟨w.heap.size + 1 + 1, 4, none⟩ = some (.int .i64 v.ref) :=
 ⟨by simp [World.cell?, h.b2], by simp [World.cell?, h.b2], by simp [World.cell?, h.b2], by simp [World.cell?, h.b2], by simp [World.cell?, h.b2]⟩
theorem PBox.rc (h : PBox w W la lc ia ic xa xc d v) : W.cell? ⟨w.heap.size + 1 + 1 + 1, 0, none⟩ = some (.slice none 0 0) ∧ W.cell? ⟨w.heap.size + 1 + 1 + 1, 1, none⟩ = some (.slice none 0 0) ∧ W.cell? ⟨w.heap.size + 1 + 1 + 1, 2, none⟩ = some (.slice none 0 0) ∧ W.cell? ⟨w.heap.size + 1 + 1 + 1, 3, none⟩ = some (.int .i64 0) ∧ W.cell? ⟨w.heap.size + 1 + 1 + 1, 4, none⟩ = some (.int .i64 0) ∧ W.cell? ⟨w.heap.size + 1 + 1 + 1, 5, none⟩ = some (.int .i64 0) ∧ ∀ q, W.frozen? ⟨w.heap.size + 1 + 1 + 1, q, none⟩ = false :=
 ⟨by simp [World.cell?, h.b3], by simp [World.cell?, h.b3], by simp [World.cell?, h.b3], by simp [World.cell?, h.b3], by simp [World.cell?, h.b3], by simp [World.cell?, h.b3], fun q => by simp [World.frozen?, h.b3]⟩
end
theorem PrV.wide {f : Nat → Pr} {n : Nat} {w : World} {v : Value} {lo hi lo' hi' : Nat} (h : PrV f n w v lo hi) (h1 : lo' ≤ lo) (h2 : hi ≤ hi') : PrV f n w v lo' hi' := by
 rcases h with h | ⟨b, cp, N, g, e1, e2, e3, e4⟩
 ·exact .inl h
 ·exact .inr ⟨b, cp, N, g, e1, by omega, by omega, e4⟩
theorem InV.wide {f : Nat → Int} {n : Nat} {w : World} {v : Value} {lo hi lo' hi' : Nat} (h : InV f n w v lo hi) (h1 : lo' ≤ lo) (h2 : hi ≤ hi') : InV f n w v lo' hi' := by
 rcases h with h | ⟨b, cp, N, g, e1, e2, e3, e4⟩
 ·exact .inl h
 ·exact .inr ⟨b, cp, N, g, e1, by omega, by omega, e4⟩
theorem DV.wide {d : Dc} {w : World} {v0 v1 v2 : Value} {lo hi lo' hi' : Nat} (h : DV d w v0 v1 v2 lo hi) (h1 : lo' ≤ lo) (h2 : hi ≤ hi') : DV d w v0 v1 v2 lo' hi' := ⟨h.log.wide h1 h2, h.ints.wide h1 h2, h.index.wide h1 h2, h.a01, h.a02, h.a12⟩
set_option maxRecDepth 100000 in
set_option maxHeartbeats 8000000 in
theorem implPut (la : Option Addr) (lc : Nat) (ia : Option Addr) (ic : Nat) (xa : Option Addr) (xc : Nat) (d : Dc) (k v : Vl) (c : Int) (kv : Vl) (w : World) (hT : Tabs w) (hA : DAt w la ia xa d) (hS : Small d) (hW : WfD d) (hm : d.m ≤ 4000000) (hk : keyV k.kind k.num k.flt k.str k.ref = KV c kv.kind kv.num kv.flt kv.str kv.ref) (hh : c = 0 → Ky kv) :
  Calls Tryz.prog 15 #[Dv la lc ia ic xa xc d, V k.kind k.num k.flt k.str k.ref, V v.kind v.num v.flt v.str v.ref] w fun e w' => (∃ v0 v1 v2, e = .returned (DvV v0 v1 v2 (putO d c kv v)) ∧ DV (putO d c kv v) w' v0 v1 v2 w.heap.size w'.heap.size) ∧ Below w.heap.size w w' := by
 have HA := uy hA
 have HS := uy hS
 have HW := uy hW
 have HKV := uy hk
 have HH := uy hh
 have HT := uy hT
 clear hA hS hW hk hh hT
 have HP0 : Hid (PBox w ((((w.alloc (.cells #[.slice la d.n lc, .slice ia d.m ic, .slice xa d.x xc, .int .i64 d.used, .int .i64 d.live, .int .i64 d.turns] 26)).alloc (.cells #[.int .i64 k.kind, .int .i64 k.num, .float .f64 k.flt, .string k.str, .int .i64 k.ref] 30)).alloc (.cells #[.int .i64 v.kind, .int .i64 v.num, .float .f64 v.flt, .string v.str, .int .i64 v.ref] 30)).alloc (.cells #[.slice none 0 0, .slice none 0 0, .slice none 0 0, .int .i64 0, .int .i64 0, .int .i64 0] 26)) la lc ia ic xa xc d v) := uy (by
  refine ⟨?_, ?_, ?_, ((((Below.refl _ _).alloc (Nat.le_refl _) _).alloc (by simp) _).alloc (by simp; omega) _).alloc (by simp; omega) _⟩
  ·iterate 3 (refine (Deep.blk_alloc_lt _ _ _ (by simp; try omega)).trans ?_)
   exact Deep.blk_alloc_new _ _
  ·refine (Deep.blk_alloc_lt _ _ _ (by simp)).trans ?_
   have h1 := Deep.blk_alloc_new ((w.alloc (.cells #[.slice la d.n lc, .slice ia d.m ic, .slice xa d.x xc, .int .i64 d.used, .int .i64 d.live, .int .i64 d.turns] 26)).alloc (.cells #[.int .i64 k.kind, .int .i64 k.num, .float .f64 k.flt, .string k.str, .int .i64 k.ref] 30)) (.cells #[.int .i64 v.kind, .int .i64 v.num, .float .f64 v.flt, .string v.str, .int .i64 v.ref] 30)
   simpa using h1
  ·have h1 := Deep.blk_alloc_new (((w.alloc (.cells #[.slice la d.n lc, .slice ia d.m ic, .slice xa d.x xc, .int .i64 d.used, .int .i64 d.live, .int .i64 d.turns] 26)).alloc (.cells #[.int .i64 k.kind, .int .i64 k.num, .float .f64 k.flt, .string k.str, .int .i64 k.ref] 30)).alloc (.cells #[.int .i64 v.kind, .int .i64 v.num, .float .f64 v.flt, .string v.str, .int .i64 v.ref] 30)) (.cells #[.slice none 0 0, .slice none 0 0, .slice none 0 0, .int .i64 0, .int .i64 0, .int .i64 0] 26)
   simpa using h1)
 go_enter Tryz.func15, Tryz.ntmps15
 go_wp2_with fail
 refine (ikey_any k.kind k.num k.flt k.str k.ref _).mono ?_
 rintro e w1 ⟨rfl, hb1⟩
 rw [uh HKV]
 have hP1 := (uh HP0).keep hb1 (uh HP0).size
 have z1 := hP1.size
 have z1' : w.heap.size + 1 + 1 < w1.heap.size := by omega
 have z1'' : w.heap.size < w1.heap.size := by omega
 obtain ⟨W1, hW1⟩ : ∃ W1, W1 = w1.alloc (.cells #[.int .i64 c, .int .i64 kv.kind, .int .i64 kv.num, .float .f64 kv.flt, .string kv.str, .int .i64 kv.ref] 34) := ⟨_, rfl⟩
 have hP2 : PBox w W1 la lc ia ic xa xc d v := by rw [hW1]; exact hP1.keep ((Below.refl w1.heap.size w1).alloc (Nat.le_refl _) _) z1
 have zk : w1.heap.size < W1.heap.size := by rw [hW1]; simp
 clear hb1
 by_cases hc : c = 0
 case neg =>
  have HR : Hid (putO d c kv v = noD) := uy (if_neg (fun h => hc h.2.1))
  have hc' : (c != 0) = true := by simp [hc]
  obtain ⟨r0, r1, r2, r3, r4, r5, rf⟩ := hP1.rc
  have HB1 := uy hP1.bel
  clear hc hP1 hP2 hW1 zk HP0
  go_wp2
  refine bodyPost_ret (v := .agg #[.slice none 0 0, .slice none 0 0, .slice none 0 0, .int .i64 0, .int .i64 0, .int .i64 0]) (by simp [results, Tryz.results15, go_sem, r0, r1, r2, r3, r4, r5, z1]) rfl ⟨⟨.slice none 0 0, .slice none 0 0, .slice none 0 0, by rw [uh HR]; rfl, by rw [uh HR]; exact noD_dv _ _ _⟩, ?_⟩
  refine Below.alloc ?_ (by simp; omega) _
  iterate 6 (refine Below.setCell ?_ (by show w.heap.size ≤ w.heap.size + 1 + 1 + 1; omega) _)
  exact uh HB1
 subst hc
 obtain ⟨v0, v1, v2, v3, v4⟩ := hP1.vc
 clear hP1 HP0
 have HP2 := uy hP2
 have HW1 : Hid (W1.cell? ⟨w1.heap.size, 1, none⟩ = some (.int .i64 kv.kind) ∧ W1.cell? ⟨w1.heap.size, 2, none⟩ = some (.int .i64 kv.num) ∧ W1.cell? ⟨w1.heap.size, 3, none⟩ = some (.float .f64 kv.flt) ∧ W1.cell? ⟨w1.heap.size, 4, none⟩ = some (.string kv.str) ∧ W1.cell? ⟨w1.heap.size, 5, none⟩ = some (.int .i64 kv.ref)) := uy (by rw [hW1]; refine ⟨?_, ?_, ?_, ?_, ?_⟩ <;> simp [go_sem])
 clear hP2
 go_wp2_with fail
 rw [← hW1]
 clear hW1 v0 v1 v2 v3 v4
 refine (isValid_any v.kind v.num v.flt v.str v.ref _).mono ?_
 rintro e w2 ⟨rfl, hb2⟩
 have hP3 := (uh HP2).keep hb2 (uh HP2).size
 have HKC : Hid (w2.cell? ⟨w1.heap.size, 1, none⟩ = some (.int .i64 kv.kind) ∧ w2.cell? ⟨w1.heap.size, 2, none⟩ = some (.int .i64 kv.num) ∧ w2.cell? ⟨w1.heap.size, 3, none⟩ = some (.float .f64 kv.flt) ∧ w2.cell? ⟨w1.heap.size, 4, none⟩ = some (.string kv.str) ∧ w2.cell? ⟨w1.heap.size, 5, none⟩ = some (.int .i64 kv.ref)) := uy ⟨(hb2.cell (p := ⟨w1.heap.size, 1, none⟩) zk).trans (uh HW1).1, (hb2.cell (p := ⟨w1.heap.size, 2, none⟩) zk).trans (uh HW1).2.1, (hb2.cell (p := ⟨w1.heap.size, 3, none⟩) zk).trans (uh HW1).2.2.1, (hb2.cell (p := ⟨w1.heap.size, 4, none⟩) zk).trans (uh HW1).2.2.2.1, (hb2.cell (p := ⟨w1.heap.size, 5, none⟩) zk).trans (uh HW1).2.2.2.2⟩
 have zk2 := Nat.lt_of_lt_of_le zk hb2.size
 have z2 := hP3.size
 clear hb2 HP2 HW1
 by_cases hv : validB v.kind v.num v.flt v.str v.ref = true
 case neg =>
  have HR : Hid (putO d 0 kv v = noD) := uy (if_neg (fun h => hv h.2.2))
  have hv' : validB v.kind v.num v.flt v.str v.ref = false := by simpa using hv
  rw [hv']
  obtain ⟨r0, r1, r2, r3, r4, r5, rf⟩ := hP3.rc
  have HB := uy hP3.bel
  clear hv hv' hP3
  go_wp2
  refine bodyPost_ret (v := .agg #[.slice none 0 0, .slice none 0 0, .slice none 0 0, .int .i64 0, .int .i64 0, .int .i64 0]) (by simp [results, Tryz.results15, go_sem, r0, r1, r2, r3, r4, r5]) rfl ⟨⟨.slice none 0 0, .slice none 0 0, .slice none 0 0, by rw [uh HR]; rfl, by rw [uh HR]; exact noD_dv _ _ _⟩, ?_⟩
  iterate 6 (refine Below.setCell ?_ (by show w.heap.size ≤ w.heap.size + 1 + 1 + 1; omega) _)
  exact uh HB
 rw [hv]
 obtain ⟨q0, q1, q2, q3, q4, q5⟩ := hP3.dc
 have HP3 := uy hP3
 have HV := uy hv
 clear hP3 hv
 go_wp2_with fail
 refine (implOk la lc ia ic xa xc d _ (lastsT _ _ (uh HT) (uh HP3).bel) ((uh HA).below (uh HP3).bel) (uh HS) (uh HW)).mono ?_
 rintro e w3 ⟨rfl, hb3⟩
 have hP4 := (uh HP3).keep hb3 (uh HP3).size
 have zk3 := Nat.lt_of_lt_of_le zk2 hb3.size
 have z3 := hP4.size
 have HKC3 : Hid (w3.cell? ⟨w1.heap.size, 1, none⟩ = some (.int .i64 kv.kind) ∧ w3.cell? ⟨w1.heap.size, 2, none⟩ = some (.int .i64 kv.num) ∧ w3.cell? ⟨w1.heap.size, 3, none⟩ = some (.float .f64 kv.flt) ∧ w3.cell? ⟨w1.heap.size, 4, none⟩ = some (.string kv.str) ∧ w3.cell? ⟨w1.heap.size, 5, none⟩ = some (.int .i64 kv.ref)) := uy ⟨(hb3.cell (p := ⟨w1.heap.size, 1, none⟩) zk2).trans (uh HKC).1, (hb3.cell (p := ⟨w1.heap.size, 2, none⟩) zk2).trans (uh HKC).2.1, (hb3.cell (p := ⟨w1.heap.size, 3, none⟩) zk2).trans (uh HKC).2.2.1, (hb3.cell (p := ⟨w1.heap.size, 4, none⟩) zk2).trans (uh HKC).2.2.2.1, (hb3.cell (p := ⟨w1.heap.size, 5, none⟩) zk2).trans (uh HKC).2.2.2.2⟩
 clear hb3 HP3 HKC q0 q1 q2 q3 q4 q5 z2 zk2
 by_cases hok : dictOk d (hD d) = 0
 case neg =>
  have HR : Hid (putO d 0 kv v = noD) := uy (if_neg (fun h => hok h.1))
  have hk' : (dictOk d (hD d) != 0) = true := by simp [hok]
  obtain ⟨r0, r1, r2, r3, r4, r5, rf⟩ := hP4.rc
  have HB := uy hP4.bel
  clear hok hP4
  generalize dictOk d (hD d) = ok at hk'
  go_wp2
  refine bodyPost_ret (v := .agg #[.slice none 0 0, .slice none 0 0, .slice none 0 0, .int .i64 0, .int .i64 0, .int .i64 0]) (by simp [results, Tryz.results15, go_sem, r0, r1, r2, r3, r4, r5]) rfl ⟨⟨.slice none 0 0, .slice none 0 0, .slice none 0 0, by rw [uh HR]; rfl, by rw [uh HR]; exact noD_dv _ _ _⟩, ?_⟩
  iterate 6 (refine Below.setCell ?_ (by show w.heap.size ≤ w.heap.size + 1 + 1 + 1; omega) _)
  exact uh HB
 have HR : Hid (putO d 0 kv v = putD hN d kv v) := uy (if_pos ⟨hok, rfl, uh HV⟩)
 have hSd := sound_of hok
 have hInv := sound_inv hSd (uh HW)
 have hKy := uh HH trivial
 have HPI := uy (putD_inv keyLaw hInv hKy hKy.1 (uh HV))
 have hpm := putD_m (v := v) keyLaw hInv hKy
 have HI := uy hInv
 have HSd := uy hSd
 have HKy := uy hKy
 rw [hok]
 obtain ⟨q0, q1, q2, q3, q4, q5⟩ := hP4.dc
 have HP4 := uy hP4
 clear hP4 hSd hInv hKy hok
 go_wp2_with fail
 refine (openBook_own la lc ia ic xa xc d _ ((uh HA).below (uh HP4).bel) (uh HS) (uh HSd).d3 (uh HSd).d4).mono ?_
 rintro e w4 ⟨⟨bk, R0, R1, R2, E, S, rfl, hBk, hSt⟩, hb4⟩
 have hM4 := BMut.of_open hBk hSt (uh HS)
 have hbk := hSt.gb
 have hP5 := (uh HP4).keep hb4 (uh HP4).size
 have z4 := hP5.size
 have zk4 := Nat.lt_of_lt_of_le zk3 hb4.size
 obtain ⟨v0, v1, v2, v3, v4⟩ := hP5.vc
 have k1 := (hb4.cell (p := ⟨w1.heap.size, 1, none⟩) zk3).trans (uh HKC3).1
 have k2 := (hb4.cell (p := ⟨w1.heap.size, 2, none⟩) zk3).trans (uh HKC3).2.1
 have k3 := (hb4.cell (p := ⟨w1.heap.size, 3, none⟩) zk3).trans (uh HKC3).2.2.1
 have k4 := (hb4.cell (p := ⟨w1.heap.size, 4, none⟩) zk3).trans (uh HKC3).2.2.2.1
 have k5 := (hb4.cell (p := ⟨w1.heap.size, 5, none⟩) zk3).trans (uh HKC3).2.2.2.2
 have HP5 := uy hP5
 have HM4 := uy hM4
 clear hb4 hBk hSt hM4 hP5 HP4 HKC3 q0 q1 q2 q3 q4 q5
 go_wp2_with fail
 have hNG : 4 ≤ bk := by have := (uh HT).sz; omega
 refine (put_any Tabs lastsT hN Ky keyLaw hsI_all bk (fun a b ha hb => ha.below hb hNG) _ _ R2 E S d kv v w4 (lastsT _ _ (uh HT) (uh HP5).bel) (uh HM4) (uh HS) hm (uh HI) (uh HKy) (uh HKy).1 (uh HV)).mono ?_
 rintro e w5 ⟨⟨⟨uu, rfl⟩, r0', r1', R2', E2, S2, hM5⟩, hb5⟩
 have hP6 := (uh HP5).keep hb5 (by omega)
 have HM5 := uy hM5
 have HP6 := uy hP6
 have z5 := hP6.size
 clear hb5 hM5 hP6 HM4 HP5 v0 v1 v2 v3 v4 k1 k2 k3 k4 k5
 generalize hP : putD hN d kv v = P at *
 clear hP
 go_wp2_with fail
 refine (dict_any bk r0' r1' R2' E2 S2 P w5 (uh HM5) ((uh HPI).small (by omega)) (fun j hj => by
  rcases (uh HPI).i0.ints j hj with e | e <;> omega) (fun j hj => by
  rcases (uh HPI).i0.idx.range j hj with e | e | ⟨e1, e2, _⟩
  ·exact .inl e
  ·exact .inr (.inl e)
  ·exact .inr (.inr ⟨e1, by omega⟩))).mono ?_
 rintro e w6 ⟨⟨u0, u1, u2, rfl, hDV⟩, hb6⟩
 have hP7 := (uh HP6).keep hb6 z5
 obtain ⟨r0, r1, r2, r3, r4, r5, rf⟩ := hP7.rc
 have z6 := hP7.size
 have HB7 := uy hP7.bel
 have z56 := hb6.size
 obtain ⟨ua, uc, ub, ud, ue, uf, e0, e1, e2, -⟩ := hDV.at
 have HDV := uy hDV
 subst e0 e1 e2
 clear hDV hb6 hP7 HP6 HM5
 go_wp2
 refine bodyPost_ret (v := DvV (.slice ua P.n uc) (.slice ub P.m ud) (.slice ue P.x uf) P) (by simp [results, Tryz.results15, go_sem, r0, r1, r2, r3, r4, r5]) rfl ⟨⟨_, _, _, by rw [uh HR], ?_⟩, ?_⟩
 ·rw [uh HR]
  refine DV.wide (DV.keep (uh HDV) (fun b hb _ => ?_)) (by omega) (by simp)
  iterate 6 (refine (Deep.blk_setCell_other _ _ _ _ (by show b ≠ w.heap.size + 1 + 1 + 1; omega)).trans ?_)
  rfl
 ·iterate 6 (refine Below.setCell ?_ (by show w.heap.size ≤ w.heap.size + 1 + 1 + 1; omega) _)
  exact uh HB7
end
end Go.Proofs.YtglcaejddckleaaGreatDoor
