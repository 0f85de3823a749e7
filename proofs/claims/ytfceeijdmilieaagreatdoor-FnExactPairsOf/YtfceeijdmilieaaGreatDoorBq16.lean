/-
  DmA, DmB, DmC.
-/
import Derived.Test.YtfceeijdmilieaaGreatDoorBq15
import Derived.Test.YtfceeijdmilieaaGreatDoorDkMP
import Derived.Test.YtfceeijdmilieaaGreatDoorMarkP
namespace Go.Proofs.YtfceeijdmilieaaGreatDoor
open Go.RowKit
set_option linter.unusedVariables false
attribute [local go_sem] run_store_float run_equalIn_float

/-- All but one block lie as they lay. -/
structure Bt (b : Nat) (w w' : World) : Prop where
  os : w'.os = w.os
  tape : w'.tape = w.tape
  output : w'.output = w.output
  size : w.heap.size ≤ w'.heap.size
  block : ∀ k, k < w.heap.size → k ≠ b → w'.heap[k]? = w.heap[k]?
theorem Bt.refl (b : Nat) (w : World) : Bt b w w := ⟨rfl, rfl, rfl, Nat.le_refl _, fun _ _ _ => rfl⟩
theorem Bt.trans {b : Nat} {u v w : World} (h : Bt b u v) (k : Bt b v w) : Bt b u w :=
  ⟨k.os.trans h.os, k.tape.trans h.tape, k.output.trans h.output, Nat.le_trans h.size k.size, fun i hi hn => (k.block i (Nat.lt_of_lt_of_le hi h.size) hn).trans (h.block i hi hn)⟩
theorem Bt.of {b : Nat} {w w' : World} (h : Below w.heap.size w w') : Bt b w w' := ⟨h.os, h.tape, h.output, h.size, fun k hk _ => h.block k hk⟩
theorem Bt.set (b o : Nat) (w : World) (v : Value) : Bt b w (w.setCell ⟨b, o, none⟩ v) := ⟨rfl, rfl, rfl, by simp [World.setCell], fun k _ hn => Deep.blk_setCell_other _ _ _ _ (by exact hn)⟩
theorem Bt.below {b B : Nat} {w w' : World} (h : Bt b w w') (hb : B ≤ b) (hB : B ≤ w.heap.size) : Below B w w' := ⟨h.os, h.tape, h.output, h.size, fun k hk => h.block k (by omega) (by omega)⟩

set_option maxRecDepth 100000 in
set_option maxHeartbeats 2000000 in
theorem markIntS_any (b n cap N s : Nat) (g : Nat → Value) (w : World) (hA : w.rowIs b 3 N g) (hN : n ≤ N) (hn : n ≤ 4194304) (hs : s ≤ 100000000) :
    Calls Tryz.prog 127 #[.slice (some ⟨b, 0, none⟩) n cap, .int .i64 (s : Int)] w fun e w' => (e = .returned (.int .i64 ((s + n : Nat) : Int)) ∧ ∃ g', w'.rowIs b 3 N g' ∧ ∀ j, j < n → g' j = .int .i64 ((s + j : Nat) : Int)) ∧ Bt b w w' := by
  have HA := hide hA
  clear hA
  go_enter Tryz.func127, Tryz.ntmps127
  go_wp2
  go_loopw [1, 5] (fun q i wr => ∃ (k : Nat) (g : Nat → Value), k ≤ n ∧ i = .int .i64 (k : Int) ∧ q = .int .i64 ((s + k : Nat) : Int) ∧ Bt b w wr ∧ wr.rowIs b 3 N g ∧ ∀ j, j < k → g j = .int .i64 ((s + j : Nat) : Int)) (fun _ i _ => n - (intOf i).toNat)
  case atStart => exact ⟨0, g, by omega, rfl, rfl, Bt.refl _ _, unhide HA, fun j hj => by omega⟩
  case round =>
    obtain ⟨k, g, hk, rfl, rfl, hb, hr, hg⟩ := hrel
    by_cases hkn : k < n
    · have d0 := hr.cell (i := k) (by omega)
      have e0 := hr.frozen k
      have hlr := hr.lt
      have HB := hide hb
      have HR := hide hr
      have HG := hide hg
      clear hb hr hg
      go_wp2
      go_roundw
      case rel =>
        refine ⟨k + 1, _, by omega, by go_num, by go_num, (unhide HB).trans (Bt.set b _ _ _), (unhide HR).set k (.int .i64 ((s + k : Nat) : Int)), fun j hj => ?_⟩
        by_cases e : j = k
        · subst e; simp
        · simp only [e, if_false]; exact unhide HG j (by omega)
      case measure => simp [intOf]; omega
    · have hkn' : k = n := by omega
      subst hkn'
      have HB := hide hb
      have HR := hide (And.intro hr hg)
      clear hb hr hg
      go_wp2
      go_ret
      exact ⟨⟨rfl, _, (unhide HR).1, (unhide HR).2⟩, unhide HB⟩
end Go.Proofs.YtfceeijdmilieaaGreatDoor
namespace Go.Proofs.YtfceeijdmilieaaGreatDoor
open Go.RowKit
set_option linter.unusedVariables false
attribute [local go_sem] run_store_float run_equalIn_float

theorem fself (k : Int) (h0 : 0 ≤ k) (hk : k < 9007199254740992) : (FloatKind.f64.format.order (floatOfInt .f64 k) (floatOfInt .f64 k) != some .eq) = false := by
  obtain ⟨q, l, hr, hl, hv⟩ := Fl.nearest_whole (decide (k < 0)) k.natAbs (Fl.fits_small (by omega))
  have hx : Ieee.double.read (floatOfInt .f64 k) = .number (decide (k < 0)) q l := hr
  show (!(Ieee.double.order _ _ == some .eq)) = false
  rw [Fl.ord_of hx hx hl hl, Fl.cmp_eq]; simp

/-- What a marked pair is. -/
def mkP (s i : Nat) : Pr :=
  ⟨⟨(s : Int) + 11 * i, (s : Int) + 11 * i + 1, floatOfInt .f64 ((s : Int) + 11 * i + 1 + 1), mark (s + 11 * i + 3), (s : Int) + 11 * i + 1 + 1 + 1 + 1⟩,
   ⟨(s : Int) + 11 * i + 1 + 1 + 1 + 1 + 1, (s : Int) + 11 * i + 1 + 1 + 1 + 1 + 1 + 1, floatOfInt .f64 ((s : Int) + 11 * i + 1 + 1 + 1 + 1 + 1 + 1 + 1), mark (s + 11 * i + 8), (s : Int) + 11 * i + 1 + 1 + 1 + 1 + 1 + 1 + 1 + 1 + 1⟩, (s : Int) + 11 * i + 1 + 1 + 1 + 1 + 1 + 1 + 1 + 1 + 1 + 1⟩
/-- A cell of a row of pairs. -/
def pcell (f : Nat → Pr) (j : Nat) : Value := ((prL (f (j / 11)))[j % 11]?).getD undef
theorem pcell_at (f : Nat → Pr) (k i : Nat) (hi : i < 11) : pcell f (k * 11 + i) = ((prL (f k))[i]?).getD undef := by
  unfold pcell
  rw [show (k * 11 + i) / 11 = k by omega, show (k * 11 + i) % 11 = i by omega]
theorem pcells {w : World} {b N n : Nat} {g : Nat → Value} {f : Nat → Pr} (h : w.rowIs b 127 N g) (hN : n * 11 ≤ N) (hg : ∀ j, j < n * 11 → g j = pcell f j) {i : Nat} (hi : i < n) : PCell w b (i * 11) (f i) := by
  have e : ∀ j, j < 11 → w.cell? ⟨b, i * 11 + j, none⟩ = some (((prL (f i))[j]?).getD undef) := fun j hj => by
    rw [h.cell (i := i * 11 + j) (by omega), hg _ (by omega), pcell_at f i j hj]
  exact ⟨e 0 (by omega), e 1 (by omega), e 2 (by omega), e 3 (by omega), e 4 (by omega), e 5 (by omega), e 6 (by omega), e 7 (by omega), e 8 (by omega), e 9 (by omega), e 10 (by omega)⟩

set_option maxRecDepth 100000 in
set_option maxHeartbeats 4000000 in
theorem markPairS_any (b n cap N s : Nat) (g : Nat → Value) (w : World) (hA : w.rowIs b 127 N g) (hN : n * 11 ≤ N) (hn : n ≤ 4194304) (hs : s ≤ 100000000) :
    Calls Tryz.prog 22 #[.slice (some ⟨b, 0, none⟩) n cap, .int .i64 (s : Int)] w fun e w' => (e = .returned (.int .i64 ((s : Int) + 11 * (n : Int))) ∧ ∃ g', w'.rowIs b 127 N g' ∧ ∀ j, j < n * 11 → g' j = pcell (mkP s) j) ∧ Bt b w w' := by
  have HA := hide hA
  clear hA
  go_enter Tryz.func22, Tryz.ntmps22
  go_wp2
  go_loopw [1, 5] (fun q i wr => ∃ (k : Nat) (g : Nat → Value), k ≤ n ∧ i = .int .i64 (k : Int) ∧ q = .int .i64 ((s : Int) + 11 * (k : Int)) ∧ Bt b w wr ∧ wr.rowIs b 127 N g ∧ ∀ j, j < k * 11 → g j = pcell (mkP s) j) (fun _ i _ => n - (intOf i).toNat)
  case atStart => exact ⟨0, g, by omega, rfl, by simp, Bt.refl _ _, unhide HA, fun j hj => by omega⟩
  case round =>
    obtain ⟨k, g, hk, rfl, rfl, hb, hr, hg⟩ := hrel
    by_cases hkn : k < n
    · have hlr := hr.lt
      have d0 := hr.cell (i := k * 11) (by omega)
      have e0 := hr.frozen (k * 11)
      have d1 := hr.cell (i := k * 11 + 1) (by omega)
      have e1 := hr.frozen (k * 11 + 1)
      have d2 := hr.cell (i := k * 11 + 2) (by omega)
      have e2 := hr.frozen (k * 11 + 2)
      have d3 := hr.cell (i := k * 11 + 3) (by omega)
      have e3 := hr.frozen (k * 11 + 3)
      have d4 := hr.cell (i := k * 11 + 4) (by omega)
      have e4 := hr.frozen (k * 11 + 4)
      have d5 := hr.cell (i := k * 11 + 5) (by omega)
      have e5 := hr.frozen (k * 11 + 5)
      have d6 := hr.cell (i := k * 11 + 6) (by omega)
      have e6 := hr.frozen (k * 11 + 6)
      have d7 := hr.cell (i := k * 11 + 7) (by omega)
      have e7 := hr.frozen (k * 11 + 7)
      have d8 := hr.cell (i := k * 11 + 8) (by omega)
      have e8 := hr.frozen (k * 11 + 8)
      have d9 := hr.cell (i := k * 11 + 9) (by omega)
      have e9 := hr.frozen (k * 11 + 9)
      have d10 := hr.cell (i := k * 11 + 10) (by omega)
      have e10 := hr.frozen (k * 11 + 10)
      have hm3 : ∀ w : World, _ := fun w => markText_any (s + 11 * k + 3) (by omega) w
      have hm8 : ∀ w : World, _ := fun w => markText_any (s + 11 * k + 8) (by omega) w
      rw [show ((s + 11 * k + 3 : Nat) : Int) = (s : Int) + 11 * (k : Int) + 1 + 1 + 1 by omega] at hm3
      rw [show ((s + 11 * k + 8 : Nat) : Int) = (s : Int) + 11 * (k : Int) + 1 + 1 + 1 + 1 + 1 + 1 + 1 + 1 by omega] at hm8
      have H3 := hide hm3
      have H8 := hide hm8
      have HB := hide hb
      have HR := hide hr
      have HG := hide hg
      clear hb hr hg hm3 hm8
      go_wp2_with fail
      refine (unhide H3 _).mono ?_
      rintro e w1 ⟨rfl, hb1⟩
      have hr1 := ((((unhide HR).set (k * 11) (.int .i64 ((s : Int) + 11 * (k : Int)))).set (k * 11 + 1) (.int .i64 ((s : Int) + 11 * (k : Int) + 1))).set (k * 11 + 2) (.float .f64 (floatOfInt .f64 ((s : Int) + 11 * (k : Int) + 1 + 1)))).of_block (hb1.block b (by simpa using hlr))
      have hl1 := hr1.lt
      have HB1 := hide ((((((unhide HB).trans (Bt.set b (k * 11) _ (.int .i64 ((s : Int) + 11 * (k : Int))))).trans (Bt.set b (k * 11 + 1) _ (.int .i64 ((s : Int) + 11 * (k : Int) + 1)))).trans (Bt.set b (k * 11 + 2) _ (.float .f64 (floatOfInt .f64 ((s : Int) + 11 * (k : Int) + 1 + 1)))))).trans (Bt.of hb1))
      have HR1 := hide hr1
      clear hb1 d0 e0 d1 e1 d2 e2 d3 e3 d4 e4 d5 e5 d6 e6 d7 e7 d8 e8 d9 e9 d10 e10
      have d3 := hr1.cell (i := k * 11 + 3) (by omega)
      have e3 := hr1.frozen (k * 11 + 3)
      have d4 := hr1.cell (i := k * 11 + 4) (by omega)
      have e4 := hr1.frozen (k * 11 + 4)
      have d5 := hr1.cell (i := k * 11 + 5) (by omega)
      have e5 := hr1.frozen (k * 11 + 5)
      have d6 := hr1.cell (i := k * 11 + 6) (by omega)
      have e6 := hr1.frozen (k * 11 + 6)
      have d7 := hr1.cell (i := k * 11 + 7) (by omega)
      have e7 := hr1.frozen (k * 11 + 7)
      have d8 := hr1.cell (i := k * 11 + 8) (by omega)
      have e8 := hr1.frozen (k * 11 + 8)
      have d9 := hr1.cell (i := k * 11 + 9) (by omega)
      have e9 := hr1.frozen (k * 11 + 9)
      have d10 := hr1.cell (i := k * 11 + 10) (by omega)
      have e10 := hr1.frozen (k * 11 + 10)
      clear hr1
      go_wp2_with fail
      refine (unhide H8 _).mono ?_
      rintro e w2 ⟨rfl, hb2⟩
      have hr2 := ((((((unhide HR1).set (k * 11 + 3) (.string (mark (s + 11 * k + 3)))).set (k * 11 + 4) (.int .i64 ((s : Int) + 11 * (k : Int) + 1 + 1 + 1 + 1))).set (k * 11 + 5) (.int .i64 ((s : Int) + 11 * (k : Int) + 1 + 1 + 1 + 1 + 1))).set (k * 11 + 6) (.int .i64 ((s : Int) + 11 * (k : Int) + 1 + 1 + 1 + 1 + 1 + 1))).set (k * 11 + 7) (.float .f64 (floatOfInt .f64 ((s : Int) + 11 * (k : Int) + 1 + 1 + 1 + 1 + 1 + 1 + 1)))).of_block (hb2.block b (by simpa using hl1))
      have hl2 := hr2.lt
      have HB2 := hide ((((((((unhide HB1).trans (Bt.set b (k * 11 + 3) _ (.string (mark (s + 11 * k + 3))))).trans (Bt.set b (k * 11 + 4) _ (.int .i64 ((s : Int) + 11 * (k : Int) + 1 + 1 + 1 + 1)))).trans (Bt.set b (k * 11 + 5) _ (.int .i64 ((s : Int) + 11 * (k : Int) + 1 + 1 + 1 + 1 + 1)))).trans (Bt.set b (k * 11 + 6) _ (.int .i64 ((s : Int) + 11 * (k : Int) + 1 + 1 + 1 + 1 + 1 + 1)))).trans (Bt.set b (k * 11 + 7) _ (.float .f64 (floatOfInt .f64 ((s : Int) + 11 * (k : Int) + 1 + 1 + 1 + 1 + 1 + 1 + 1)))))).trans (Bt.of hb2))
      have HR2 := hide hr2
      clear hb2 d3 e3 d4 e4 d5 e5 d6 e6 d7 e7 d8 e8 d9 e9 d10 e10
      have d8 := hr2.cell (i := k * 11 + 8) (by omega)
      have e8 := hr2.frozen (k * 11 + 8)
      have d9 := hr2.cell (i := k * 11 + 9) (by omega)
      have e9 := hr2.frozen (k * 11 + 9)
      have d10 := hr2.cell (i := k * 11 + 10) (by omega)
      have e10 := hr2.frozen (k * 11 + 10)
      clear hr2
      go_wp2
      go_roundw
      case rel =>
        refine ⟨k + 1, _, by omega, by go_num, by go_num, ((((unhide HB2).trans (Bt.set b (k * 11 + 8) _ (.string (mark (s + 11 * k + 8))))).trans (Bt.set b (k * 11 + 9) _ (.int .i64 ((s : Int) + 11 * (k : Int) + 1 + 1 + 1 + 1 + 1 + 1 + 1 + 1 + 1)))).trans (Bt.set b (k * 11 + 10) _ (.int .i64 ((s : Int) + 11 * (k : Int) + 1 + 1 + 1 + 1 + 1 + 1 + 1 + 1 + 1 + 1)))), ((((unhide HR2).set (k * 11 + 8) (.string (mark (s + 11 * k + 8)))).set (k * 11 + 9) (.int .i64 ((s : Int) + 11 * (k : Int) + 1 + 1 + 1 + 1 + 1 + 1 + 1 + 1 + 1))).set (k * 11 + 10) (.int .i64 ((s : Int) + 11 * (k : Int) + 1 + 1 + 1 + 1 + 1 + 1 + 1 + 1 + 1 + 1))), fun j hj => ?_⟩
        by_cases hj' : j < k * 11
        · have hne : ∀ i, i < 11 → j ≠ k * 11 + i := fun i _ => by omega
          simp only [show j ≠ k * 11 by omega, hne 1 (by omega), hne 2 (by omega), hne 3 (by omega), hne 4 (by omega), hne 5 (by omega), hne 6 (by omega), hne 7 (by omega), hne 8 (by omega), hne 9 (by omega), hne 10 (by omega), if_false]
          exact unhide HG j hj'
        · obtain ⟨i, hi, rfl⟩ : ∃ i, i < 11 ∧ j = k * 11 + i := ⟨j - k * 11, by omega, by omega⟩
          rw [pcell_at _ k i hi]
          rcases (by omega : i = 0 ∨ i = 1 ∨ i = 2 ∨ i = 3 ∨ i = 4 ∨ i = 5 ∨ i = 6 ∨ i = 7 ∨ i = 8 ∨ i = 9 ∨ i = 10) with rfl | rfl | rfl | rfl | rfl | rfl | rfl | rfl | rfl | rfl | rfl <;> simp [prL, mkP]
      case measure => simp [intOf]; omega
    · have hkn' : k = n := by omega
      subst hkn'
      have HB := hide hb
      have HR := hide (And.intro hr hg)
      clear hb hr hg
      go_wp2
      go_ret
      exact ⟨⟨rfl, _, (unhide HR).1, (unhide HR).2⟩, unhide HB⟩

set_option maxRecDepth 100000 in
set_option maxHeartbeats 4000000 in
theorem heldPairS_any (b n cap s : Nat) (w : World) (hl : b < w.heap.size) (hA : ∀ i, i < n → PCell w b (i * 11) (mkP s i)) (hn : n ≤ 4194304) (hs : s ≤ 100000000) :
    Calls Tryz.prog 23 #[.slice (some ⟨b, 0, none⟩) n cap, .int .i64 (s : Int)] w fun e w' => e = .returned (.int .i64 ((s : Int) + 11 * (n : Int))) ∧ Below w.heap.size w w' := by
  have HA := hide hA
  clear hA
  go_enter Tryz.func23, Tryz.ntmps23
  go_wp2
  go_loopw [1, 5] (fun q i wr => ∃ (k : Nat), k ≤ n ∧ i = .int .i64 k ∧ q = .int .i64 ((s : Int) + 11 * (k : Int)) ∧ Below w.heap.size w wr) (fun _ i _ => n - (intOf i).toNat)
  case atStart => exact ⟨0, by omega, rfl, by simp, Below.refl _ _⟩
  case round =>
    obtain ⟨k, hk, rfl, rfl, hb⟩ := hrel
    have hx : b < wr.heap.size := Nat.lt_of_lt_of_le hl hb.size
    by_cases hlt : k < n
    · have hc := (unhide HA k hlt).keep (w' := wr) (fun q => hb.cell (p := ⟨b, q, none⟩) hl)
      have d0 : wr.cell? ⟨b, k * 11, none⟩ = some (.int .i64 ((s : Int) + 11 * (k : Int))) := hc.k0
      have d1 : wr.cell? ⟨b, k * 11 + 1, none⟩ = some (.int .i64 ((s : Int) + 11 * (k : Int) + 1)) := hc.k1
      have d2 : wr.cell? ⟨b, k * 11 + 2, none⟩ = some (.float .f64 (floatOfInt .f64 ((s : Int) + 11 * (k : Int) + 1 + 1))) := hc.k2
      have d3 : wr.cell? ⟨b, k * 11 + 3, none⟩ = some (.string (mark (s + 11 * k + 3))) := hc.k3
      have d4 : wr.cell? ⟨b, k * 11 + 4, none⟩ = some (.int .i64 ((s : Int) + 11 * (k : Int) + 1 + 1 + 1 + 1)) := hc.k4
      have d5 : wr.cell? ⟨b, k * 11 + 5, none⟩ = some (.int .i64 ((s : Int) + 11 * (k : Int) + 1 + 1 + 1 + 1 + 1)) := hc.v0
      have d6 : wr.cell? ⟨b, k * 11 + 6, none⟩ = some (.int .i64 ((s : Int) + 11 * (k : Int) + 1 + 1 + 1 + 1 + 1 + 1)) := hc.v1
      have d7 : wr.cell? ⟨b, k * 11 + 7, none⟩ = some (.float .f64 (floatOfInt .f64 ((s : Int) + 11 * (k : Int) + 1 + 1 + 1 + 1 + 1 + 1 + 1))) := hc.v2
      have d8 : wr.cell? ⟨b, k * 11 + 8, none⟩ = some (.string (mark (s + 11 * k + 8))) := hc.v3
      have d9 : wr.cell? ⟨b, k * 11 + 9, none⟩ = some (.int .i64 ((s : Int) + 11 * (k : Int) + 1 + 1 + 1 + 1 + 1 + 1 + 1 + 1 + 1)) := hc.v4
      have d10 : wr.cell? ⟨b, k * 11 + 10, none⟩ = some (.int .i64 ((s : Int) + 11 * (k : Int) + 1 + 1 + 1 + 1 + 1 + 1 + 1 + 1 + 1 + 1)) := hc.tn
      have g2 := fself ((s : Int) + 11 * (k : Int) + 1 + 1) (by omega) (by omega)
      have g7 := fself ((s : Int) + 11 * (k : Int) + 1 + 1 + 1 + 1 + 1 + 1 + 1) (by omega) (by omega)
      have hm3 : ∀ w : World, _ := fun w => markText_any (s + 11 * k + 3) (by omega) w
      have hm8 : ∀ w : World, _ := fun w => markText_any (s + 11 * k + 8) (by omega) w
      rw [show ((s + 11 * k + 3 : Nat) : Int) = (s : Int) + 11 * (k : Int) + 1 + 1 + 1 by omega] at hm3
      rw [show ((s + 11 * k + 8 : Nat) : Int) = (s : Int) + 11 * (k : Int) + 1 + 1 + 1 + 1 + 1 + 1 + 1 + 1 by omega] at hm8
      have H3 := hide hm3
      have H8 := hide hm8
      have HB := hide hb
      clear hb hc hm3 hm8
      go_wp2
      refine wp_region_quiet (C := fun w' => Below wr.heap.size wr w') (by kernel_rfl) (by kernel_rfl) ((Below.refl _ _).drew) ?_
      show wpQuiet _ _ _ _ [_, _, _, _, _, _, _, _, _] _
      refine wpQuiet_step (fun K hK => ?_)
      go_simp
      refine ⟨_, fun w' hw' => rfl, hK _ ?_⟩
      clear hK K
      refine wpQuiet_step (fun K hK => ?_)
      go_simp
      refine ⟨_, fun w' hw' => rfl, hK _ ?_⟩
      clear hK K
      refine wpQuiet_step (fun K hK => ?_)
      go_simp
      refine ⟨_, fun w' hw' => rfl, hK _ ?_⟩
      clear hK K
      refine wpQuiet_step (fun K hK => ?_)
      go_simp
      refine ⟨_, fun w' hw' => rfl, hK _ ?_⟩
      clear hK K
      refine wpQuiet_step (fun K hK => ?_)
      go_simp
      refine ⟨_, fun w' hw' => rfl, hK _ ?_⟩
      clear hK K
      refine wpQuiet_step (fun K hK => ?_)
      go_simp
      apply Exists.intro
      refine And.intro (fun w' hw' => ?_) (hK _ ?_)
      · obtain ⟨hc', hf'⟩ := bcell hw'
        go_simp
        first | rfl | exact ⟨rfl, rfl⟩ | exact ⟨rfl⟩
      clear hK K
      refine wpQuiet_step (fun K hK => ?_)
      go_simp
      refine ⟨_, fun w' hw' => rfl, hK _ ?_⟩
      clear hK K
      refine wpQuiet_step (fun K hK => ?_)
      go_simp
      apply Exists.intro
      refine And.intro (fun w' hw' => ?_) (hK _ ?_)
      · refine ((unhide H3) _).mono ?_
        rintro e w'' ⟨rfl, hb⟩
        exact ⟨rfl, hw'.trans (hb.mono hw'.size)⟩
      clear hK K
      refine wpQuiet_step (fun K hK => ?_)
      go_simp
      refine ⟨_, fun w' hw' => rfl, hK _ ?_⟩
      clear hK K
      refine wpQuiet_nil ?_
      intro w2 hw2
      have HB2 := hide ((unhide HB).trans (hw2.mono (unhide HB).size))
      have hx2 : b < w2.heap.size := Nat.lt_of_lt_of_le hx hw2.size
      have c4 := (hw2.cell (p := ⟨b, k * 11 + 4, none⟩) hx).trans d4
      have c5 := (hw2.cell (p := ⟨b, k * 11 + 5, none⟩) hx).trans d5
      have c6 := (hw2.cell (p := ⟨b, k * 11 + 6, none⟩) hx).trans d6
      have c7 := (hw2.cell (p := ⟨b, k * 11 + 7, none⟩) hx).trans d7
      have c8 := (hw2.cell (p := ⟨b, k * 11 + 8, none⟩) hx).trans d8
      have c9 := (hw2.cell (p := ⟨b, k * 11 + 9, none⟩) hx).trans d9
      have c10 := (hw2.cell (p := ⟨b, k * 11 + 10, none⟩) hx).trans d10
      clear hw2 HB d0 d1 d2 d3 d4 d5 d6 d7 d8 d9 d10
      go_wp2
      refine wp_region_quiet (C := fun w' => Below w2.heap.size w2 w') (by kernel_rfl) (by kernel_rfl) ((Below.refl _ _).drew) ?_
      show wpQuiet _ _ _ _ [_, _, _, _, _, _, _, _, _] _
      refine wpQuiet_step (fun K hK => ?_)
      go_simp
      refine ⟨_, fun w' hw' => rfl, hK _ ?_⟩
      clear hK K
      refine wpQuiet_step (fun K hK => ?_)
      go_simp
      refine ⟨_, fun w' hw' => rfl, hK _ ?_⟩
      clear hK K
      refine wpQuiet_step (fun K hK => ?_)
      go_simp
      refine ⟨_, fun w' hw' => rfl, hK _ ?_⟩
      clear hK K
      refine wpQuiet_step (fun K hK => ?_)
      go_simp
      refine ⟨_, fun w' hw' => rfl, hK _ ?_⟩
      clear hK K
      refine wpQuiet_step (fun K hK => ?_)
      go_simp
      refine ⟨_, fun w' hw' => rfl, hK _ ?_⟩
      clear hK K
      refine wpQuiet_step (fun K hK => ?_)
      go_simp
      apply Exists.intro
      refine And.intro (fun w' hw' => ?_) (hK _ ?_)
      · obtain ⟨hc', hf'⟩ := bcell hw'
        go_simp
        first | rfl | exact ⟨rfl, rfl⟩ | exact ⟨rfl⟩
      clear hK K
      refine wpQuiet_step (fun K hK => ?_)
      go_simp
      refine ⟨_, fun w' hw' => rfl, hK _ ?_⟩
      clear hK K
      refine wpQuiet_step (fun K hK => ?_)
      go_simp
      apply Exists.intro
      refine And.intro (fun w' hw' => ?_) (hK _ ?_)
      · refine ((unhide H8) _).mono ?_
        rintro e w'' ⟨rfl, hb⟩
        exact ⟨rfl, hw'.trans (hb.mono hw'.size)⟩
      clear hK K
      refine wpQuiet_step (fun K hK => ?_)
      go_simp
      refine ⟨_, fun w' hw' => rfl, hK _ ?_⟩
      clear hK K
      refine wpQuiet_nil ?_
      intro w3 hw3
      have HB3 := hide ((unhide HB2).trans (hw3.mono (unhide HB2).size))
      have hx3 : b < w3.heap.size := Nat.lt_of_lt_of_le hx2 hw3.size
      have d9 := (hw3.cell (p := ⟨b, k * 11 + 9, none⟩) hx2).trans c9
      have d10 := (hw3.cell (p := ⟨b, k * 11 + 10, none⟩) hx2).trans c10
      clear hw3 HB2 c4 c5 c6 c7 c8 c9 c10
      go_wp2
      go_roundw
      case rel => exact ⟨k + 1, by omega, by go_num, by go_num, unhide HB3⟩
      case measure => simp [intOf]; omega
    · have : k = n := by omega
      subst this
      have HB := hide hb
      clear hb
      go_wp2
      go_ret
      exact ⟨rfl, unhide HB⟩
end Go.Proofs.YtfceeijdmilieaaGreatDoor
namespace Go.Proofs.YtfceeijdmilieaaGreatDoor
open Go.RowKit
set_option linter.unusedVariables false
attribute [local go_sem] run_store_float run_equalIn_float

theorem row_set {w : World} {s N b q : Nat} {t : TypeId} {g : Nat → Value} {v : Value} (h : w.rowIs s t N g) (hb : s ≠ b) : (w.setCell ⟨b, q, none⟩ v).rowIs s t N g := World.rowIs.of_block h (Deep.blk_setCell_other _ _ _ _ (by exact hb))
/-- The rows of a dict that was made. -/
structure ToR (B : Nat) (w : World) (s0 s1 s2 : Nat) (d : Dc) : Prop where
  b0 : B ≤ s0
  b1 : B ≤ s1
  b2 : B ≤ s2
  n01 : s0 ≠ s1
  n02 : s0 ≠ s2
  n12 : s1 ≠ s2
  r0 : ∃ g, w.rowIs s0 127 (d.n * 11) g
  r1 : ∃ g, w.rowIs s1 3 d.m g
  r2 : ∃ g, w.rowIs s2 3 d.x g
theorem ToR.keep {B : Nat} {w w' : World} {s0 s1 s2 : Nat} {d : Dc} (h : ToR B w s0 s1 s2 d) (hk : ∀ q, q < w.heap.size → w'.heap[q]? = w.heap[q]?) : ToR B w' s0 s1 s2 d :=
  ⟨h.b0, h.b1, h.b2, h.n01, h.n02, h.n12, h.r0.imp fun g r => World.rowIs.of_block r (hk _ (World.rowIs.lt r)), h.r1.imp fun g r => World.rowIs.of_block r (hk _ (World.rowIs.lt r)), h.r2.imp fun g r => World.rowIs.of_block r (hk _ (World.rowIs.lt r))⟩
theorem ToR.lt {B : Nat} {w : World} {s0 s1 s2 : Nat} {d : Dc} (h : ToR B w s0 s1 s2 d) : s0 < w.heap.size ∧ s1 < w.heap.size ∧ s2 < w.heap.size := by
  obtain ⟨_, r0⟩ := h.r0
  obtain ⟨_, r1⟩ := h.r1
  obtain ⟨_, r2⟩ := h.r2
  exact ⟨World.rowIs.lt r0, World.rowIs.lt r1, World.rowIs.lt r2⟩

set_option maxRecDepth 100000 in
set_option maxHeartbeats 2000000 in
theorem toPairS_row (a : Option Addr) (n cap : Nat) (f : Nat → Pr) (w : World) (hA : PAt w a n f) (hn : n ≤ 4194304) :
    Calls Tryz.prog 209 #[.slice a n cap] w fun e w' => (e = .returned (.slice (some ⟨w.heap.size, 0, none⟩) n n) ∧ PAt w' (some ⟨w.heap.size, 0, none⟩) n f ∧ ∃ g, w'.rowIs w.heap.size 127 (n * 11) g) ∧ Below w.heap.size w w' := by
  have hmk := make_pairs n hn
  have HG := hide (made_pairs w (n * 11))
  have HA := hide hA
  clear hA
  go_enter Tryz.func209, Tryz.ntmps209
  go_wp2
  clear hmk
  go_loopw [4] (fun i wr => ∃ (k : Nat), k ≤ n ∧ i = .int .i64 k ∧ Below w.heap.size w wr ∧ (∃ g, wr.rowIs w.heap.size 127 (n * 11) g) ∧ ∀ j, j < k → PCell wr w.heap.size (j * 11) (f j)) (fun i _ => n - (intOf i).toNat)
  case atStart => exact ⟨0, by omega, rfl, (Below.refl _ _).alloc (Nat.le_refl _) _, unhide HG, fun j hj => by omega⟩
  case round =>
    clear HG
    obtain ⟨k, hk, rfl, hb, ⟨g, hrow⟩, hall⟩ := hrel
    by_cases hkn : k < n
    · obtain ⟨b, off, rfl, hbl, hcs⟩ := (unhide HA).resolve_left (by omega)
      obtain ⟨e0, e1, e2, e3, e4, e5, e6, e7, e8, e9, e10⟩ := (hcs k hkn).keep (fun q => hb.cell (p := ⟨b, q, none⟩) hbl)
      have hrl := World.rowIs.lt hrow
      have HB := hide hb
      have HR := hide hrow
      have HALL := hide hall
      clear hcs hb hrow hall
      go_wp2_with fail
      refine (toPair_any (f k) _).mono ?_
      rintro e w1 ⟨rfl, hb1⟩
      have hrow1 := World.rowIs.of_block (unhide HR) (hb1.block _ hrl)
      have d0 := hrow1.cell (i := k * 11) (by omega)
      have f0 := hrow1.frozen (k * 11)
      have d1 := hrow1.cell (i := k * 11 + 1) (by omega)
      have f1 := hrow1.frozen (k * 11 + 1)
      have d2 := hrow1.cell (i := k * 11 + 2) (by omega)
      have f2 := hrow1.frozen (k * 11 + 2)
      have d3 := hrow1.cell (i := k * 11 + 3) (by omega)
      have f3 := hrow1.frozen (k * 11 + 3)
      have d4 := hrow1.cell (i := k * 11 + 4) (by omega)
      have f4 := hrow1.frozen (k * 11 + 4)
      have d5 := hrow1.cell (i := k * 11 + 5) (by omega)
      have f5 := hrow1.frozen (k * 11 + 5)
      have d6 := hrow1.cell (i := k * 11 + 6) (by omega)
      have f6 := hrow1.frozen (k * 11 + 6)
      have d7 := hrow1.cell (i := k * 11 + 7) (by omega)
      have f7 := hrow1.frozen (k * 11 + 7)
      have d8 := hrow1.cell (i := k * 11 + 8) (by omega)
      have f8 := hrow1.frozen (k * 11 + 8)
      have d9 := hrow1.cell (i := k * 11 + 9) (by omega)
      have f9 := hrow1.frozen (k * 11 + 9)
      have d10 := hrow1.cell (i := k * 11 + 10) (by omega)
      have f10 := hrow1.frozen (k * 11 + 10)
      obtain ⟨hg', hpc⟩ := set11_row hrow1 (o := k * 11) (by omega) (f k)
      have HN : Hid (∀ j, j < k → PCell w1 w.heap.size (j * 11) (f j)) := hide (fun j hj => (unhide HALL j hj).keepAt (fun q _ => World.cell?_of_block (hb1.block _ hrl)))
      have HG' := hide hg'
      have HPC := hide hpc
      have HB1 := hide ((unhide HB).trans (hb1.mono (unhide HB).size))
      clear hb1 hrow1 hg' hpc e0 e1 e2 e3 e4 e5 e6 e7 e8 e9 e10
      go_wp2_with fail
      go_roundw
      case rel =>
        refine ⟨k + 1, by omega, by go_num, ?_, unhide HG', fun j hj => ?_⟩
        · repeat (refine Below.setCell ?_ (by exact Nat.le_refl _) _)
          exact unhide HB1
        · by_cases e : j = k
          · subst e; exact unhide HPC
          · exact (unhide HN j (by omega)).keepAt (fun q hq => set11_other (f k) (by omega))
      case measure => simp [intOf]; omega
    · have hkn' : k = n := by omega
      subst hkn'
      have HALL := hide hall
      have HB := hide hb
      have hrl := World.rowIs.lt hrow
      have HRW := hide hrow
      clear hall hb hrow
      go_wp2_with fail
      go_ret
      exact ⟨⟨rfl, .inr ⟨_, 0, rfl, hrl, fun i hi => by rw [Nat.zero_add]; exact unhide HALL i hi⟩, _, unhide HRW⟩, unhide HB⟩

set_option maxRecDepth 100000 in
set_option maxHeartbeats 2000000 in
theorem toIntS_row (a : Option Addr) (n cap : Nat) (f : Nat → Int) (w : World) (hA : IAt w a n f) (hn : n ≤ 4194304) :
    Calls Tryz.prog 210 #[.slice a n cap] w fun e w' => (e = .returned (.slice (some ⟨w.heap.size, 0, none⟩) n n) ∧ IAt w' (some ⟨w.heap.size, 0, none⟩) n f ∧ ∃ g, w'.rowIs w.heap.size 3 n g) ∧ Below w.heap.size w w' := by
  have hmk := make_ints n hn
  have HG := hide (made_zeros w n)
  have HA := hide hA
  clear hA
  go_enter Tryz.func210, Tryz.ntmps210
  go_wp2
  clear hmk
  go_loopw [4] (fun i wr => ∃ (k : Nat) (g : Nat → Value), k ≤ n ∧ i = .int .i64 k ∧ Below w.heap.size w wr ∧ wr.rowIs w.heap.size 3 n g ∧ ∀ j, j < k → g j = .int .i64 (f j)) (fun i _ => n - (intOf i).toNat)
  case atStart => exact ⟨0, _, by omega, rfl, (Below.refl _ _).alloc (Nat.le_refl _) _, unhide HG, fun j hj => by omega⟩
  case round =>
    clear HG
    obtain ⟨k, g, hk, rfl, hb, hrow, hall⟩ := hrel
    by_cases hkn : k < n
    · obtain ⟨b, off, rfl, hbl, hcs⟩ := (unhide HA).resolve_left (by omega)
      have e0 := (hb.cell (p := ⟨b, off + k, none⟩) hbl).trans (hcs k hkn)
      have hrl := World.rowIs.lt hrow
      have d0 := hrow.cell hkn
      have f0 := hrow.frozen k
      have HN : Hid ((wr.setCell ⟨w.heap.size, k, none⟩ (.int .i64 (f k))).rowIs w.heap.size 3 n (fun i => if i = k then .int .i64 (f k) else g i) ∧ ∀ j, j < k + 1 → (fun i => if i = k then .int .i64 (f k) else g i) j = .int .i64 (f j)) := hide ⟨hrow.set k _, fun j hj => by
        by_cases e : j = k
        · subst e; simp
        · simp only [e, if_false]; exact hall j (by omega)⟩
      have HB := hide hb
      clear hcs hb hrow hall
      go_wp2_with fail
      go_roundw
      case rel => exact ⟨k + 1, _, by omega, by go_num, (unhide HB).setCell (by exact Nat.le_refl _) _, (unhide HN).1, (unhide HN).2⟩
      case measure => simp [intOf]; omega
    · have hkn' : k = n := by omega
      subst hkn'
      have HALL := hide (⟨hrow, hall⟩ : wr.rowIs w.heap.size 3 k g ∧ ∀ j, j < k → g j = .int .i64 (f j))
      have HB := hide hb
      have hrl := World.rowIs.lt hrow
      clear hall hb hrow
      go_wp2_with fail
      go_ret
      exact ⟨⟨rfl, .inr ⟨_, 0, rfl, hrl, fun i hi => by rw [Nat.zero_add, (unhide HALL).1.cell hi, (unhide HALL).2 i hi]⟩, _, (unhide HALL).1⟩, unhide HB⟩
set_option maxRecDepth 100000 in
set_option maxHeartbeats 2000000 in
theorem toDict_row (la : Option Addr) (lc : Nat) (ia : Option Addr) (ic : Nat) (xa : Option Addr) (xc : Nat) (d : Dc) (w : World) (hD : DAt w la ia xa d) (hS : Small d) :
    Calls Tryz.prog 174 #[Dv la lc ia ic xa xc d] w fun e w' => (∃ s0 s1 s2, e = .returned (Dv (some ⟨s0, 0, none⟩) d.n (some ⟨s1, 0, none⟩) d.m (some ⟨s2, 0, none⟩) d.x d) ∧ DAt w' (some ⟨s0, 0, none⟩) (some ⟨s1, 0, none⟩) (some ⟨s2, 0, none⟩) d ∧ ToR w.heap.size w' s0 s1 s2 d) ∧ Below w.heap.size w w' := by
  have HD := hide hD
  have HS := hide hS
  clear hD hS
  have hb0 : Below w.heap.size w (((w.alloc (.cells #[.slice la d.n lc, .slice ia d.m ic, .slice xa d.x xc, .int .i64 d.used, .int .i64 d.live, .int .i64 d.turns] 185)).alloc (.cells #[.slice none 0 0, .slice none 0 0, .slice none 0 0, .int .i64 0, .int .i64 0, .int .i64 0] 91)).alloc (.cells #[.slice none 0 0, .slice none 0 0, .slice none 0 0, .int .i64 0, .int .i64 0, .int .i64 0] 91)) := (((Below.refl _ _).alloc (Nat.le_refl _) _).alloc (by simp) _).alloc (by simp; omega) _
  have HB0 := hide hb0
  clear hb0
  go_enter Tryz.func174, Tryz.ntmps174
  go_wp2_with fail
  refine (toPairS_row la d.n lc d.L _ ((unhide HD).below (unhide HB0)).log (unhide HS).n).mono ?_
  rintro e w1 ⟨⟨rfl, hP, hPR⟩, hb1⟩
  obtain ⟨hc1, hf1⟩ := bcell hb1
  have hz1 := hb1.size
  simp at hz1 hP hPR
  obtain ⟨g0, hPR⟩ := hPR
  have y0 : w.heap.size < w1.heap.size := by omega
  have y1 : w.heap.size + 1 < w1.heap.size := by omega
  have y2 : w.heap.size + 1 + 1 < w1.heap.size := by omega
  have HB1 := hide ((unhide HB0).trans (hb1.mono (unhide HB0).size))
  have HP1 := hide hP
  have HPR1 := hide hPR
  clear hb1 hP hPR
  have HBs1 : Hid (∀ v, Below w.heap.size w (w1.setCell ⟨w.heap.size + 1 + 1, 0, none⟩ v)) := hide (fun v => (unhide HB1).setCell (by show w.heap.size ≤ w.heap.size + 1 + 1; omega) _)
  go_wp2_with fail
  refine (toIntS_row ia d.m ic d.I _ ((unhide HD).below (unhide HBs1 _)).ints (unhide HS).m).mono ?_
  rintro e w2 ⟨⟨rfl, hI, hIR⟩, hb2⟩
  obtain ⟨hc2, hf2⟩ := bcell hb2
  have hz2 := hb2.size
  simp at hz2 hI hIR
  obtain ⟨gi, hIR⟩ := hIR
  have z0 : w.heap.size < w2.heap.size := by omega
  have z1 : w.heap.size + 1 < w2.heap.size := by omega
  have z2 : w.heap.size + 1 + 1 < w2.heap.size := by omega
  have HB2 := hide ((unhide HBs1 _).trans (hb2.mono (unhide HBs1 _).size))
  have HP2 := hide (PAt.below (PAt.setOther (q := 0) (v := .slice (some ⟨w.heap.size + 1 + 1 + 1, 0, none⟩) d.n d.n) (unhide HP1) (show w.heap.size + 1 + 1 + 1 ≠ w.heap.size + 1 + 1 by omega)) hb2 rfl)
  have HI2 := hide hI
  have HPR2 := hide (World.rowIs.of_block (row_set (q := 0) (v := .slice (some ⟨w.heap.size + 1 + 1 + 1, 0, none⟩) d.n d.n) (unhide HPR1) (show w.heap.size + 1 + 1 + 1 ≠ w.heap.size + 1 + 1 by omega)) (hb2.block _ (by have := World.rowIs.lt (unhide HPR1); simpa using this)))
  have HIR2 := hide hIR
  clear hb2 hI hIR
  have HBs2 : Hid (∀ v, Below w.heap.size w (w2.setCell ⟨w.heap.size + 1 + 1, 1, none⟩ v)) := hide (fun v => (unhide HB2).setCell (by show w.heap.size ≤ w.heap.size + 1 + 1; omega) _)
  go_wp2_with fail
  refine (toIntS_row xa d.x xc d.X _ ((unhide HD).below (unhide HBs2 _)).index (unhide HS).x).mono ?_
  rintro e w3 ⟨⟨rfl, hX, hXR⟩, hb3⟩
  obtain ⟨hc3, hf3⟩ := bcell hb3
  have hz3 := hb3.size
  simp at hz3 hX hXR
  obtain ⟨gx, hXR⟩ := hXR
  have x0 : w.heap.size < w3.heap.size := by omega
  have x1 : w.heap.size + 1 < w3.heap.size := by omega
  have x2 : w.heap.size + 1 + 1 < w3.heap.size := by omega
  have HB3 := hide ((unhide HBs2 _).trans (hb3.mono (unhide HBs2 _).size))
  have HP3 := hide (PAt.below (PAt.setOther (q := 1) (v := .slice (some ⟨w1.heap.size, 0, none⟩) d.m d.m) (unhide HP2) (show w.heap.size + 1 + 1 + 1 ≠ w.heap.size + 1 + 1 by omega)) hb3 rfl)
  have HI3 := hide (IAt.below (IAt.setOther (q := 1) (v := .slice (some ⟨w1.heap.size, 0, none⟩) d.m d.m) (unhide HI2) (show w1.heap.size ≠ w.heap.size + 1 + 1 by omega)) hb3 rfl)
  have HX3 := hide hX
  have HPR3 := hide (World.rowIs.of_block (row_set (q := 1) (v := .slice (some ⟨w1.heap.size, 0, none⟩) d.m d.m) (unhide HPR2) (show w.heap.size + 1 + 1 + 1 ≠ w.heap.size + 1 + 1 by omega)) (hb3.block _ (by have := World.rowIs.lt (unhide HPR2); simpa using this)))
  have HIR3 := hide (World.rowIs.of_block (row_set (q := 1) (v := .slice (some ⟨w1.heap.size, 0, none⟩) d.m d.m) (unhide HIR2) (show w1.heap.size ≠ w.heap.size + 1 + 1 by omega)) (hb3.block _ (by have := World.rowIs.lt (unhide HIR2); simpa using this)))
  have HXR3 := hide hXR
  have hpl : w.heap.size + 1 + 1 + 1 < w1.heap.size := World.rowIs.lt (unhide HPR1)
  have hil : w1.heap.size < w2.heap.size := World.rowIs.lt (unhide HIR2)
  clear hb3 hX hXR
  have g1 : w1.heap.size ≠ w.heap.size + 1 + 1 := by omega
  have g2 : w1.heap.size ≠ w.heap.size + 1 := by omega
  have g3 : w2.heap.size ≠ w.heap.size + 1 + 1 := by omega
  have g4 : w2.heap.size ≠ w.heap.size + 1 := by omega
  go_wp2
  refine bodyPost_ret (v := Dv (some ⟨w.heap.size + 1 + 1 + 1, 0, none⟩) d.n (some ⟨w1.heap.size, 0, none⟩) d.m (some ⟨w2.heap.size, 0, none⟩) d.x d) (by simp [results, Tryz.results174, go_sem, hc1, hc2, hc3, y1, z1]) rfl ⟨⟨_, _, _, rfl, ⟨?_, ?_, ?_⟩, ⟨by omega, by omega, by omega, by omega, by omega, by omega, ⟨g0, ?_⟩, ⟨gi, ?_⟩, ⟨gx, ?_⟩⟩⟩, ?_⟩
  · repeat (refine PAt.setOther ?_ (by omega))
    exact unhide HP3
  · repeat (refine IAt.setOther ?_ (by omega))
    exact unhide HI3
  · repeat (refine IAt.setOther ?_ (by omega))
    exact unhide HX3
  · repeat (refine row_set ?_ (by omega))
    exact unhide HPR3
  · repeat (refine row_set ?_ (by omega))
    exact unhide HIR3
  · repeat (refine row_set ?_ (by omega))
    exact unhide HXR3
  · repeat (refine Below.setCell ?_ (by first | (show w.heap.size ≤ w.heap.size + 1; omega) | (show w.heap.size ≤ w.heap.size + 1 + 1; omega)) _)
    exact unhide HB3

/-- All but three blocks lie as they lay. -/
structure Bt3 (a b c : Nat) (w w' : World) : Prop where
  os : w'.os = w.os
  tape : w'.tape = w.tape
  output : w'.output = w.output
  size : w.heap.size ≤ w'.heap.size
  block : ∀ k, k < w.heap.size → k ≠ a → k ≠ b → k ≠ c → w'.heap[k]? = w.heap[k]?
theorem Bt3.below {a b c B : Nat} {w w' : World} (h : Bt3 a b c w w') (ha : B ≤ a) (hb : B ≤ b) (hc : B ≤ c) (hB : B ≤ w.heap.size) : Below B w w' := ⟨h.os, h.tape, h.output, h.size, fun k hk => h.block k (by omega) (by omega) (by omega) (by omega)⟩

set_option maxHeartbeats 1000000 in
theorem markPairS_nil (w : World) :
    Calls Tryz.prog 22 #[.slice none 0 0, .int .i64 1] w fun e w' => e = .returned (.int .i64 1) ∧ w' = w := by
  go_enter Tryz.func22, Tryz.ntmps22
  go_wp2
  go_loopw [1, 5] (fun q i wr => q = .int .i64 1 ∧ i = .int .i64 0 ∧ wr = w) (fun _ _ _ => 0)
  case atStart => exact ⟨rfl, rfl, rfl⟩
  case round =>
    obtain ⟨rfl, rfl, rfl⟩ := hrel
    go_wp2
    go_ret
    exact ⟨rfl, rfl⟩

set_option maxHeartbeats 1000000 in
theorem heldPairS_nil (w : World) :
    Calls Tryz.prog 23 #[.slice none 0 0, .int .i64 1] w fun e w' => e = .returned (.int .i64 1) ∧ w' = w := by
  go_enter Tryz.func23, Tryz.ntmps23
  go_wp2
  go_loopw [1, 5] (fun q i wr => q = .int .i64 1 ∧ i = .int .i64 0 ∧ wr = w) (fun _ _ _ => 0)
  case atStart => exact ⟨rfl, rfl, rfl⟩
  case round =>
    obtain ⟨rfl, rfl, rfl⟩ := hrel
    go_wp2
    go_ret
    exact ⟨rfl, rfl⟩

/-- The pairs of an answer. -/
def PrV (f : Nat → Pr) (n : Nat) (w : World) (v : Value) (lo hi : Nat) : Prop :=
  (n = 0 ∧ v = .slice none 0 0) ∨ ∃ b cp N g, v = .slice (some ⟨b, 0, none⟩) n cp ∧ lo ≤ b ∧ b < hi ∧ w.rowIs b 127 N g ∧ n * 11 ≤ N ∧ ∀ j, j < n * 11 → g j = pcell f j
theorem PrV.keep {f : Nat → Pr} {n : Nat} {w w' : World} {v : Value} {lo hi : Nat} (h : PrV f n w v lo hi) (hk : ∀ b, lo ≤ b → b < hi → w'.heap[b]? = w.heap[b]?) : PrV f n w' v lo hi := by
  rcases h with h | ⟨b, cp, N, g, h1, h2, h3, h4, h5, h6⟩
  · exact .inl h
  · exact .inr ⟨b, cp, N, g, h1, h2, h3, World.rowIs.of_block h4 (hk b h2 h3), h5, h6⟩
theorem PrV.below {f : Nat → Pr} {n : Nat} {w w' : World} {v : Value} {lo hi B : Nat} (h : PrV f n w v lo hi) (hb : Below B w w') (hB : hi ≤ B) : PrV f n w' v lo hi := h.keep fun b _ h2 => hb.block b (by omega)
theorem PrV.of {f : Nat → Pr} {n B : Nat} {w : World} {v : Value} (h : POwn w B v n f) : PrV f n w v B w.heap.size := by
  have hlt := h.lt
  obtain ⟨hl, ⟨hv, h0⟩ | ⟨g', cap, cur, hv, hb, hblk, h1, h2, h3, h4⟩⟩ := h
  · exact .inl ⟨h0, hv⟩
  · subst hv
    refine .inr ⟨g', cap, cap * 11, fun j => (cur[j]?).getD undef, rfl, hb, (hlt g' rfl).2, ⟨cur, hblk, h3, fun i hi => by simp [Array.getElem?_eq_getElem (show i < cur.size by omega)]⟩, by omega, fun j hj => ?_⟩
    have h5 := pL_get (f := f) (n := n) (i := j / 11) (j := j % 11) (by omega) (by omega)
    rw [show j / 11 * 11 + j % 11 = j by omega, ← h4, List.getElem?_take, if_pos hj, Array.getElem?_toList] at h5
    show (cur[j]?).getD undef = _
    rw [h5]
    rfl
theorem PrV.at {f : Nat → Pr} {n : Nat} {w : World} {v : Value} {lo hi : Nat} (h : PrV f n w v lo hi) : ∃ a cp, v = .slice a n cp ∧ PAt w a n f := by
  rcases h with ⟨h0, rfl⟩ | ⟨b, cp, N, g, h1, h2, h3, h4, h5, h6⟩
  · subst h0; exact ⟨_, _, rfl, .inl rfl⟩
  · exact ⟨_, _, h1, .inr ⟨b, 0, rfl, World.rowIs.lt h4, fun i hi => by rw [Nat.zero_add]; exact pcells h4 h5 h6 hi⟩⟩
theorem eqPrV {f : Nat → Pr} {n : Nat} {w : World} {v v' : Value} {lo hi lo' hi' : Nat} (h : PrV f n w v lo hi) (h' : PrV f n w v' lo' hi') (hn : n ≤ 4194304) :
    Calls Tryz.prog 19 #[v, v'] w fun e w' => e = .returned (.bool true) ∧ Below w.heap.size w w' := by
  obtain ⟨a, cp, rfl, hA⟩ := h.at
  obtain ⟨a', cp', rfl, hA'⟩ := h'.at
  exact eqPairS_same a a' n cp cp' f w hA hA' hn
theorem markPrV {f : Nat → Pr} {n : Nat} {w : World} {v : Value} {lo hi : Nat} (h : PrV f n w v lo hi) (hl : lo ≤ w.heap.size) (hn : n ≤ 4194304) :
    Calls Tryz.prog 22 #[v, .int .i64 1] w fun e w' => (e = .returned (.int .i64 (1 + 11 * (n : Int))) ∧ PrV (mkP 1) n w' v lo hi) ∧ Below lo w w' := by
  rcases h with ⟨h0, rfl⟩ | ⟨b, cp, N, g, rfl, h2, h3, h4, h5, h6⟩
  · subst h0
    refine (markPairS_nil w).mono fun e w' h => ?_
    rw [h.2]
    exact ⟨⟨by rw [h.1]; rfl, .inl ⟨rfl, rfl⟩⟩, Below.refl _ _⟩
  · have h1 := markPairS_any b n cp N 1 g w h4 h5 hn (by omega)
    rw [show ((1 : Nat) : Int) = 1 from rfl] at h1
    refine h1.mono fun e w' h => ?_
    obtain ⟨⟨rfl, g', hr, hg⟩, hb⟩ := h
    exact ⟨⟨rfl, .inr ⟨b, cp, N, g', rfl, h2, h3, hr, h5, hg⟩⟩, hb.below h2 hl⟩
theorem heldPrV {n : Nat} {w : World} {v : Value} {lo hi : Nat} (h : PrV (mkP 1) n w v lo hi) (hn : n ≤ 4194304) :
    Calls Tryz.prog 23 #[v, .int .i64 1] w fun e w' => e = .returned (.int .i64 (1 + 11 * (n : Int))) ∧ Below w.heap.size w w' := by
  rcases h with ⟨h0, rfl⟩ | ⟨b, cp, N, g, rfl, h2, h3, h4, h5, h6⟩
  · subst h0
    refine (heldPairS_nil w).mono fun e w' h => ?_
    rw [h.2]
    exact ⟨by rw [h.1]; rfl, Below.refl _ _⟩
  · have h1 := heldPairS_any b n cp 1 w (World.rowIs.lt h4) (fun i hi => pcells h4 h5 h6 hi) hn (by omega)
    rw [show ((1 : Nat) : Int) = 1 from rfl] at h1
    exact h1
end Go.Proofs.YtfceeijdmilieaaGreatDoor
