/-
  StM.
-/
import Derived.Test.YtfceeijdmilieaaGreatDoorStCP
import Derived.Test.YtfceeijdmilieaaGreatDoorFoEP
namespace Go.Proofs.YtfceeijdmilieaaGreatDoor
open Go.RowKit
set_option linter.unusedVariables false
attribute [local go_sem] run_store_float run_equalIn_float

/-- A block is a row. -/
def RowS (w : World) (b : Nat) (t : TypeId) (N : Nat) : Prop := ∃ g, w.rowIs b t N g
theorem RowS.uniq {w : World} {b : Nat} {t t' : TypeId} {N N' : Nat} (h : RowS w b t N) (h' : RowS w b t' N') : t = t' ∧ N = N' := by
  obtain ⟨g, c, h1, h2, _⟩ := h
  obtain ⟨g', c', h1', h2', _⟩ := h'
  rw [h1] at h1'
  cases h1'
  exact ⟨rfl, h2.symm.trans h2'⟩
theorem RowS.lt {w : World} {b : Nat} {t : TypeId} {N : Nat} (h : RowS w b t N) : b < w.heap.size := by obtain ⟨g, r⟩ := h; exact World.rowIs.lt r
/-- Only blocks from lo to H have turned, and rows stay rows. -/
structure Mk (lo H : Nat) (w w' : World) : Prop where
  os : w'.os = w.os
  tape : w'.tape = w.tape
  output : w'.output = w.output
  size : w.heap.size ≤ w'.heap.size
  block : ∀ k, k < w.heap.size → (k < lo ∨ H ≤ k) → w'.heap[k]? = w.heap[k]?
  rows : ∀ k t N, RowS w k t N → RowS w' k t N
theorem Mk.refl (lo H : Nat) (w : World) : Mk lo H w w := ⟨rfl, rfl, rfl, Nat.le_refl _, fun _ _ _ => rfl, fun _ _ _ h => h⟩
theorem Mk.trans {lo H : Nat} {u v w : World} (h : Mk lo H u v) (k : Mk lo H v w) : Mk lo H u w :=
  ⟨k.os.trans h.os, k.tape.trans h.tape, k.output.trans h.output, Nat.le_trans h.size k.size, fun i hi hn => (k.block i (Nat.lt_of_lt_of_le hi h.size) hn).trans (h.block i hi hn), fun i t N r => k.rows i t N (h.rows i t N r)⟩
theorem Mk.mono {lo lo' H : Nat} {w w' : World} (h : Mk lo H w w') (hl : lo' ≤ lo) : Mk lo' H w w' := ⟨h.os, h.tape, h.output, h.size, fun k hk hn => h.block k hk (by omega), h.rows⟩
theorem Mk.of {lo H : Nat} {w w' : World} (h : Below w.heap.size w w') : Mk lo H w w' := ⟨h.os, h.tape, h.output, h.size, fun k hk _ => h.block k hk, fun k t N r => by obtain ⟨g, r'⟩ := r; exact ⟨g, World.rowIs.of_block r' (h.block k (World.rowIs.lt r'))⟩⟩
theorem Mk.bt {lo H b N : Nat} {t : TypeId} {w w' : World} (h : Bt b w w') (h1 : lo ≤ b) (h2 : b < H) (r : RowS w b t N) (r' : RowS w' b t N) : Mk lo H w w' :=
  ⟨h.os, h.tape, h.output, h.size, fun k hk hn => h.block k hk (by omega), fun k t' N' q => by
    by_cases e : k = b
    · subst e
      obtain ⟨rfl, rfl⟩ := RowS.uniq r q
      exact r'
    · obtain ⟨g, q'⟩ := q
      exact ⟨g, World.rowIs.of_block q' (h.block k (World.rowIs.lt q') e)⟩⟩
theorem Mk.set {lo H b o N : Nat} {t : TypeId} {w : World} (v : Value) (h1 : lo ≤ b) (h2 : b < H) (r : RowS w b t N) : Mk lo H w (w.setCell ⟨b, o, none⟩ v) :=
  Mk.bt (Bt.set b o w v) h1 h2 r (by obtain ⟨g, q⟩ := r; exact ⟨_, q.set o v⟩)

set_option maxRecDepth 100000 in
set_option maxHeartbeats 4000000 in
theorem markValueS_any (b n cap N s : Nat) (g : Nat → Value) (w : World) (hA : w.rowIs b 32 N g) (hN : n * 5 ≤ N) (hn : n ≤ 4194304) (hs : s ≤ 100000000) :
    Calls Tryz.prog 126 #[.slice (some ⟨b, 0, none⟩) n cap, .int .i64 (s : Int)] w fun e w' => (e = .returned (.int .i64 ((s : Int) + 5 * (n : Int))) ∧ ∃ g', w'.rowIs b 32 N g') ∧ Bt b w w' := by
  have HA := hide hA
  clear hA
  go_enter Tryz.func126, Tryz.ntmps126
  go_wp2
  go_loopw [1, 5] (fun q i wr => ∃ (k : Nat) (g : Nat → Value), k ≤ n ∧ i = .int .i64 (k : Int) ∧ q = .int .i64 ((s : Int) + 5 * (k : Int)) ∧ Bt b w wr ∧ wr.rowIs b 32 N g) (fun _ i _ => n - (intOf i).toNat)
  case atStart => exact ⟨0, g, by omega, rfl, by simp, Bt.refl _ _, unhide HA⟩
  case round =>
    obtain ⟨k, g, hk, rfl, rfl, hb, hr⟩ := hrel
    by_cases hkn : k < n
    · have hlr := hr.lt
      have d0 := hr.cell (i := k * 5) (by omega)
      have e0 := hr.frozen (k * 5)
      have d1 := hr.cell (i := k * 5 + 1) (by omega)
      have e1 := hr.frozen (k * 5 + 1)
      have d2 := hr.cell (i := k * 5 + 2) (by omega)
      have e2 := hr.frozen (k * 5 + 2)
      have d3 := hr.cell (i := k * 5 + 3) (by omega)
      have e3 := hr.frozen (k * 5 + 3)
      have d4 := hr.cell (i := k * 5 + 4) (by omega)
      have e4 := hr.frozen (k * 5 + 4)
      have hm : ∀ w : World, _ := fun w => markText_any (s + 5 * k + 3) (by omega) w
      rw [show ((s + 5 * k + 3 : Nat) : Int) = (s : Int) + 5 * (k : Int) + 1 + 1 + 1 by omega] at hm
      have HM := hide hm
      have HB := hide hb
      have HR := hide hr
      clear hb hr hm
      go_wp2_with fail
      refine (unhide HM _).mono ?_
      rintro e w1 ⟨rfl, hb1⟩
      have hr1 := (((((unhide HR).set (k * 5) (.int .i64 ((s : Int) + 5 * (k : Int)))).set (k * 5 + 1) (.int .i64 ((s : Int) + 5 * (k : Int) + 1))).set (k * 5 + 2) (.float .f64 (floatOfInt .f64 ((s : Int) + 5 * (k : Int) + 1 + 1))))).of_block (hb1.block b (by simpa using hlr))
      have HB1 := hide (((((unhide HB).trans (Bt.set b (k * 5) _ (.int .i64 ((s : Int) + 5 * (k : Int))))).trans (Bt.set b (k * 5 + 1) _ (.int .i64 ((s : Int) + 5 * (k : Int) + 1)))).trans (Bt.set b (k * 5 + 2) _ (.float .f64 (floatOfInt .f64 ((s : Int) + 5 * (k : Int) + 1 + 1))))).trans (Bt.of hb1))
      have HR1 := hide hr1
      have hl1 := hr1.lt
      clear hb1 d0 e0 d1 e1 d2 e2 d3 e3 d4 e4
      have d3 := hr1.cell (i := k * 5 + 3) (by omega)
      have e3 := hr1.frozen (k * 5 + 3)
      have d4 := hr1.cell (i := k * 5 + 4) (by omega)
      have e4 := hr1.frozen (k * 5 + 4)
      clear hr1
      go_wp2
      go_roundw
      case rel => exact ⟨k + 1, _, by omega, by go_num, by go_num, (((unhide HB1).trans (Bt.set b (k * 5 + 3) _ (.string (mark (s + 5 * k + 3))))).trans (Bt.set b (k * 5 + 4) _ (.int .i64 ((s : Int) + 5 * (k : Int) + 1 + 1 + 1 + 1)))), (((unhide HR1).set (k * 5 + 3) (.string (mark (s + 5 * k + 3)))).set (k * 5 + 4) (.int .i64 ((s : Int) + 5 * (k : Int) + 1 + 1 + 1 + 1)))⟩
      case measure => simp [intOf]; omega
    · have hkn' : k = n := by omega
      subst hkn'
      have HB := hide hb
      have HR := hide hr
      clear hb hr
      go_wp2
      go_ret
      exact ⟨⟨rfl, _, unhide HR⟩, unhide HB⟩

set_option maxRecDepth 100000 in
set_option maxHeartbeats 4000000 in
theorem markSiteS_any (b n cap N s : Nat) (g : Nat → Value) (w : World) (hA : w.rowIs b 80 N g) (hN : n * 5 ≤ N) (hn : n ≤ 4194304) (hs : s ≤ 100000000) :
    Calls Tryz.prog 64 #[.slice (some ⟨b, 0, none⟩) n cap, .int .i64 (s : Int)] w fun e w' => (e = .returned (.int .i64 ((s : Int) + 5 * (n : Int))) ∧ ∃ g', w'.rowIs b 80 N g') ∧ Bt b w w' := by
  have HA := hide hA
  clear hA
  go_enter Tryz.func64, Tryz.ntmps64
  go_wp2
  go_loopw [1, 5] (fun q i wr => ∃ (k : Nat) (g : Nat → Value), k ≤ n ∧ i = .int .i64 (k : Int) ∧ q = .int .i64 ((s : Int) + 5 * (k : Int)) ∧ Bt b w wr ∧ wr.rowIs b 80 N g) (fun _ i _ => n - (intOf i).toNat)
  case atStart => exact ⟨0, g, by omega, rfl, by simp, Bt.refl _ _, unhide HA⟩
  case round =>
    obtain ⟨k, g, hk, rfl, rfl, hb, hr⟩ := hrel
    by_cases hkn : k < n
    · have hlr := hr.lt
      have d0 := hr.cell (i := k * 5) (by omega)
      have e0 := hr.frozen (k * 5)
      have d1 := hr.cell (i := k * 5 + 1) (by omega)
      have e1 := hr.frozen (k * 5 + 1)
      have d2 := hr.cell (i := k * 5 + 2) (by omega)
      have e2 := hr.frozen (k * 5 + 2)
      have d3 := hr.cell (i := k * 5 + 3) (by omega)
      have e3 := hr.frozen (k * 5 + 3)
      have d4 := hr.cell (i := k * 5 + 4) (by omega)
      have e4 := hr.frozen (k * 5 + 4)
      have hm : ∀ w : World, _ := fun w => markText_any (s + 5 * k) (by omega) w
      rw [show ((s + 5 * k : Nat) : Int) = (s : Int) + 5 * (k : Int) by omega] at hm
      have HM := hide hm
      have HB := hide hb
      have HR := hide hr
      clear hb hr hm
      go_wp2_with fail
      refine (unhide HM _).mono ?_
      rintro e w1 ⟨rfl, hb1⟩
      have hr1 := ((unhide HR)).of_block (hb1.block b (by simpa using hlr))
      have HB1 := hide ((unhide HB).trans (Bt.of hb1))
      have HR1 := hide hr1
      have hl1 := hr1.lt
      clear hb1 d0 e0 d1 e1 d2 e2 d3 e3 d4 e4
      have d0 := hr1.cell (i := k * 5) (by omega)
      have e0 := hr1.frozen (k * 5)
      have d1 := hr1.cell (i := k * 5 + 1) (by omega)
      have e1 := hr1.frozen (k * 5 + 1)
      have d2 := hr1.cell (i := k * 5 + 2) (by omega)
      have e2 := hr1.frozen (k * 5 + 2)
      have d3 := hr1.cell (i := k * 5 + 3) (by omega)
      have e3 := hr1.frozen (k * 5 + 3)
      have d4 := hr1.cell (i := k * 5 + 4) (by omega)
      have e4 := hr1.frozen (k * 5 + 4)
      clear hr1
      go_wp2
      go_roundw
      case rel => exact ⟨k + 1, _, by omega, by go_num, by go_num, ((((((unhide HB1).trans (Bt.set b (k * 5) _ (.string (mark (s + 5 * k))))).trans (Bt.set b (k * 5 + 1) _ (.int .i64 ((s : Int) + 5 * (k : Int) + 1)))).trans (Bt.set b (k * 5 + 2) _ (.int .i64 ((s : Int) + 5 * (k : Int) + 1 + 1)))).trans (Bt.set b (k * 5 + 3) _ (.int .i64 ((s : Int) + 5 * (k : Int) + 1 + 1 + 1)))).trans (Bt.set b (k * 5 + 4) _ (.int .i64 ((s : Int) + 5 * (k : Int) + 1 + 1 + 1 + 1)))), ((((((unhide HR1).set (k * 5) (.string (mark (s + 5 * k)))).set (k * 5 + 1) (.int .i64 ((s : Int) + 5 * (k : Int) + 1))).set (k * 5 + 2) (.int .i64 ((s : Int) + 5 * (k : Int) + 1 + 1))).set (k * 5 + 3) (.int .i64 ((s : Int) + 5 * (k : Int) + 1 + 1 + 1))).set (k * 5 + 4) (.int .i64 ((s : Int) + 5 * (k : Int) + 1 + 1 + 1 + 1)))⟩
      case measure => simp [intOf]; omega
    · have hkn' : k = n := by omega
      subst hkn'
      have HB := hide hb
      have HR := hide hr
      clear hb hr
      go_wp2
      go_ret
      exact ⟨⟨rfl, _, unhide HR⟩, unhide HB⟩

/-- A table whose rows may be marked. -/
structure TMk (b H : Nat) (w : World) (o : Nat) (t : Tb) (vb s0 s1 s2 : Nat) : Prop where
  c1 : w.cell? ⟨b, o + 1, none⟩ = some (.slice (some ⟨vb, 0, none⟩) t.nv t.nv)
  c2 : w.cell? ⟨b, o + 2, none⟩ = some (.slice (some ⟨s0, 0, none⟩) t.d.n t.d.n)
  c3 : w.cell? ⟨b, o + 3, none⟩ = some (.slice (some ⟨s1, 0, none⟩) t.d.m t.d.m)
  c4 : w.cell? ⟨b, o + 4, none⟩ = some (.slice (some ⟨s2, 0, none⟩) t.d.x t.d.x)
  l0 : b < vb ∧ vb < H
  l1 : b < s0 ∧ s0 < H
  l2 : b < s1 ∧ s1 < H
  l3 : b < s2 ∧ s2 < H
  r0 : RowS w vb 32 (t.nv * 5)
  r1 : RowS w s0 127 (t.d.n * 11)
  r2 : RowS w s1 3 t.d.m
  r3 : RowS w s2 3 t.d.x
theorem TabMade.mk {b H : Nat} {w : World} {o : Nat} {t : Tb} (h : TabMade (b + 1) H w b o t) : ∃ vb s0 s1 s2, TMk b H w o t vb s0 s1 s2 := by
  obtain ⟨vb, s0, s1, s2, h1, ⟨h2, h3, h4, h5, h6⟩, h7, h8, h9⟩ := h
  have q0 := h9.b0
  have q1 := h9.b1
  have q2 := h9.b2
  exact ⟨vb, s0, s1, s2, h1.c1, h1.c2, h1.c3, h1.c4, ⟨by omega, h3⟩, ⟨by omega, h4⟩, ⟨by omega, h5⟩, ⟨by omega, h6⟩, h7.1, h9.r0, h9.r1, h9.r2⟩

set_option maxRecDepth 100000 in
set_option maxHeartbeats 8000000 in
theorem markTableS_any (b n cap H s : Nat) (f : Nat → Tb) (w : World) (hb0 : RowS w b 93 (n * 8)) (hH : b < H) (hT : ∀ i, i < n → ∃ vb s0 s1 s2, TMk b H w (i * 8) (f i) vb s0 s1 s2) (hw : twTo f n ≤ 1048576) (hs : s ≤ 10000000) :
    Calls Tryz.prog 63 #[.slice (some ⟨b, 0, none⟩) n cap, .int .i64 (s : Int)] w fun e w' => (∃ r : Nat, e = .returned (.int .i64 (r : Int)) ∧ r ≤ s + 11 * twTo f n) ∧ Mk b H w w' := by
  have hnn := twTo_n f n
  have HT := hide hT
  have HB0 := hide hb0
  clear hT hb0
  go_enter Tryz.func63, Tryz.ntmps63
  go_wp2
  go_loopw [1, 5] (fun q i wr => ∃ (k r : Nat), k ≤ n ∧ i = .int .i64 (k : Int) ∧ q = .int .i64 (r : Int) ∧ r ≤ s + 11 * twTo f k ∧ Mk b H w wr ∧ ∀ j, k * 8 ≤ j → wr.cell? ⟨b, j, none⟩ = w.cell? ⟨b, j, none⟩) (fun _ i _ => n - (intOf i).toNat)
  case atStart => exact ⟨0, s, by omega, rfl, rfl, by omega, Mk.refl _ _ _, fun _ _ => rfl⟩
  case round =>
    obtain ⟨k, r, hk, rfl, rfl, hr, hM, hc⟩ := hrel
    by_cases hkn : k < n
    case neg =>
      have hke : k = n := by omega
      have HM := hide hM
      have HR := hide hr
      clear hM hc hr hkn
      subst hke
      go_wp2
      go_ret
      exact ⟨⟨r, rfl, unhide HR⟩, unhide HM⟩
    obtain ⟨vb, s0, s1, s2, hT⟩ := unhide HT k hkn
    have hstep := twTo_at f hkn
    have hsucc : twTo f (k + 1) = twTo f k + tw (f k) := rfl
    have htw : tw (f k) = (f k).nv + ((f k).d.n + (f k).d.m + (f k).d.x) + 1 := rfl
    have HR := hide hr
    have hrb : r ≤ 30000000 := by omega
    have HQ : Hid (∀ x : Nat, x ≤ r + 11 * tw (f k) → x ≤ s + 11 * twTo f (k + 1)) := hide (fun x hx => by omega)
    have hv1 : (f k).nv ≤ 1048576 := by omega
    have hv2 : (f k).d.n ≤ 1048576 := by omega
    have hv3 : (f k).d.m ≤ 1048576 := by omega
    have hv4 : (f k).d.x ≤ 1048576 := by omega
    have HTW := hide htw
    obtain ⟨g, hrow⟩ := hM.rows _ _ _ (unhide HB0)
    have d0 := hrow.cell (i := k * 8) (by omega)
    have e0 := hrow.frozen (k * 8)
    have d1 := (hc (k * 8 + 1) (by omega)).trans hT.c1
    have d2 := (hc (k * 8 + 2) (by omega)).trans hT.c2
    have d3 := (hc (k * 8 + 3) (by omega)).trans hT.c3
    have d4 := (hc (k * 8 + 4) (by omega)).trans hT.c4
    obtain ⟨⟨m0, n0⟩, ⟨m1, n1⟩, ⟨m2, n2⟩, ⟨m3, n3⟩⟩ := And.intro hT.l0 (And.intro hT.l1 (And.intro hT.l2 hT.l3))
    have hbr := World.rowIs.lt hrow
    -- the world behind the first store
    have M1 : Mk b H wr (wr.setCell ⟨b, k * 8, none⟩ (.int .i64 (r : Int))) := Mk.set _ (Nat.le_refl _) hH ⟨g, hrow⟩
    obtain ⟨ga, ra⟩ := M1.rows _ _ _ (hM.rows _ _ _ hT.r0)
    have HRA := hide ra
    have HM1 := hide (hM.trans M1)
    have HC := hide hc
    have HTk := hide hT
    clear hM M1 ra hc hT hstep hsucc htw hr
    go_wp2_with fail
    have hA := markValueS_any vb (f k).nv (f k).nv ((f k).nv * 5) (r + 1) ga _ (unhide HRA) (Nat.le_refl _) (by omega) (by omega)
    rw [show ((r + 1 : Nat) : Int) = (r : Int) + 1 by omega] at hA
    refine hA.mono ?_
    rintro e w1 ⟨⟨rfl, g1, rr1⟩, hb1⟩
    have hz1 := hb1.size
    simp at hz1
    have l1 : b < w1.heap.size := by omega
    have eb1 := hb1.block b (by simpa using hbr) (by omega)
    have p2 : w1.cell? ⟨b, k * 8 + 2, none⟩ = some (.slice (some ⟨s0, 0, none⟩) (f k).d.n (f k).d.n) := (World.cell?_of_block eb1).trans ((cell_set_other (by omega)).trans d2)
    have p3 : w1.cell? ⟨b, k * 8 + 3, none⟩ = some (.slice (some ⟨s1, 0, none⟩) (f k).d.m (f k).d.m) := (World.cell?_of_block eb1).trans ((cell_set_other (by omega)).trans d3)
    have p4 : w1.cell? ⟨b, k * 8 + 4, none⟩ = some (.slice (some ⟨s2, 0, none⟩) (f k).d.x (f k).d.x) := (World.cell?_of_block eb1).trans ((cell_set_other (by omega)).trans d4)
    have HE1 : Hid (∀ j, (k + 1) * 8 ≤ j → w1.cell? ⟨b, j, none⟩ = w.cell? ⟨b, j, none⟩) := hide (fun j hj => (World.cell?_of_block eb1).trans ((cell_set_other (by omega)).trans (unhide HC j (by omega))))
    have M2 := (unhide HM1).trans (Mk.bt hb1 (by omega) n0 ⟨_, unhide HRA⟩ ⟨_, rr1⟩)
    obtain ⟨gb, rb⟩ := M2.rows _ _ _ (unhide HTk).r1
    have HRB := hide rb
    have HM2 := hide M2
    clear hA hb1 rr1 M2 rb d0 e0 d1 d2 d3 d4 eb1
    go_wp2_with fail
    have hA := markPairS_any s0 (f k).d.n (f k).d.n ((f k).d.n * 11) (r + 1 + 5 * (f k).nv) gb _ (unhide HRB) (Nat.le_refl _) (by omega) (by omega)
    rw [show ((r + 1 + 5 * (f k).nv : Nat) : Int) = (r : Int) + 1 + 5 * ((f k).nv : Int) by omega] at hA
    refine hA.mono ?_
    rintro e w2 ⟨⟨rfl, g2, rr2, _⟩, hb2⟩
    have l2 : b < w2.heap.size := Nat.lt_of_lt_of_le l1 hb2.size
    have eb2 := hb2.block b l1 (by omega)
    have q3 := (World.cell?_of_block (a := ⟨b, k * 8 + 3, none⟩) eb2).trans p3
    have q4 := (World.cell?_of_block (a := ⟨b, k * 8 + 4, none⟩) eb2).trans p4
    have HE2 : Hid (∀ j, (k + 1) * 8 ≤ j → w2.cell? ⟨b, j, none⟩ = w.cell? ⟨b, j, none⟩) := hide (fun j hj => (World.cell?_of_block eb2).trans (unhide HE1 j hj))
    have M3 := (unhide HM2).trans (Mk.bt hb2 (by omega) n1 ⟨_, unhide HRB⟩ ⟨_, rr2⟩)
    obtain ⟨gc, rc⟩ := M3.rows _ _ _ (unhide HTk).r2
    have HRC := hide rc
    have HM3 := hide M3
    clear hA hb2 rr2 M3 rc p2 p3 p4 eb2
    go_wp2_with fail
    have hA := markIntS_any s1 (f k).d.m (f k).d.m (f k).d.m (r + 1 + 5 * (f k).nv + 11 * (f k).d.n) gc _ (unhide HRC) (Nat.le_refl _) (by omega) (by omega)
    rw [show ((r + 1 + 5 * (f k).nv + 11 * (f k).d.n : Nat) : Int) = (r : Int) + 1 + 5 * ((f k).nv : Int) + 11 * ((f k).d.n : Int) by omega] at hA
    refine hA.mono ?_
    rintro e w3 ⟨⟨rfl, g3, rr3, _⟩, hb3⟩
    have l3 : b < w3.heap.size := Nat.lt_of_lt_of_le l2 hb3.size
    have eb3 := hb3.block b l2 (by omega)
    have t4 := (World.cell?_of_block (a := ⟨b, k * 8 + 4, none⟩) eb3).trans q4
    have HE3 : Hid (∀ j, (k + 1) * 8 ≤ j → w3.cell? ⟨b, j, none⟩ = w.cell? ⟨b, j, none⟩) := hide (fun j hj => (World.cell?_of_block eb3).trans (unhide HE2 j hj))
    have M4 := (unhide HM3).trans (Mk.bt hb3 (by omega) n2 ⟨_, unhide HRC⟩ ⟨_, rr3⟩)
    obtain ⟨gd, rd⟩ := M4.rows _ _ _ (unhide HTk).r3
    have HRD := hide rd
    have HM4 := hide M4
    clear hA hb3 rr3 M4 rd q3 q4 eb3
    go_wp2_with fail
    have hA := markIntS_any s2 (f k).d.x (f k).d.x (f k).d.x (r + 1 + 5 * (f k).nv + 11 * (f k).d.n + (f k).d.m) gd _ (unhide HRD) (Nat.le_refl _) (by omega) (by omega)
    refine hA.mono ?_
    rintro e w4 ⟨⟨rfl, g4, rr4, _⟩, hb4⟩
    have l4 : b < w4.heap.size := Nat.lt_of_lt_of_le l3 hb4.size
    have eb4 := hb4.block b l3 (by omega)
    have HE4 : Hid (∀ j, (k + 1) * 8 ≤ j → w4.cell? ⟨b, j, none⟩ = w.cell? ⟨b, j, none⟩) := hide (fun j hj => (World.cell?_of_block eb4).trans (unhide HE3 j hj))
    have M5 := (unhide HM4).trans (Mk.bt hb4 (by omega) n3 ⟨_, unhide HRD⟩ ⟨_, rr4⟩)
    obtain ⟨ge, re⟩ := M5.rows _ _ _ (unhide HB0)
    have d5 := re.cell (i := k * 8 + 5) (by omega)
    have e5 := re.frozen (k * 8 + 5)
    have d6 := re.cell (i := k * 8 + 6) (by omega)
    have e6 := re.frozen (k * 8 + 6)
    have d7 := re.cell (i := k * 8 + 7) (by omega)
    have e7 := re.frozen (k * 8 + 7)
    have HRE := hide re
    have HM5 := hide M5
    obtain ⟨x, hx⟩ : ∃ x : Nat, x = r + 1 + 5 * (f k).nv + 11 * (f k).d.n + (f k).d.m + (f k).d.x := ⟨_, rfl⟩
    have hxb : x ≤ 100000000 := by omega
    rw [← hx]
    have HXQ : Hid (x + 1 + 1 + 1 ≤ s + 11 * twTo f (k + 1)) := hide (unhide HQ _ (by rw [unhide HTW]; omega))
    clear hA hb4 rr4 M5 re t4 eb4 hx
    go_wp2
    go_roundw
    case rel =>
      refine ⟨k + 1, x + 1 + 1 + 1, by omega, by go_num, by simp, unhide HXQ, ?_, fun j hj => ?_⟩
      · have a1 : Mk b H w4 (w4.setCell ⟨b, k * 8 + 5, none⟩ (.int .i64 (x : Int))) := Mk.set _ (Nat.le_refl _) hH ⟨_, unhide HRE⟩
        have a2 := Mk.set (lo := b) (H := H) (o := k * 8 + 6) (.int .i64 ((x : Int) + 1)) (Nat.le_refl _) hH (a1.rows _ _ _ ⟨_, unhide HRE⟩)
        have a3 := Mk.set (lo := b) (H := H) (o := k * 8 + 7) (.int .i64 ((x : Int) + 1 + 1)) (Nat.le_refl _) hH (a2.rows _ _ _ (a1.rows _ _ _ ⟨_, unhide HRE⟩))
        exact (((unhide HM5).trans a1).trans a2).trans a3
      · exact (cell_set_other (by omega)).trans ((cell_set_other (by omega)).trans ((cell_set_other (by omega)).trans (unhide HE4 j hj)))
    case measure => simp [intOf]; omega
end Go.Proofs.YtfceeijdmilieaaGreatDoor
