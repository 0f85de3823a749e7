/-
  KdD.
-/
import Derived.Test.YtnjgebncghdajaaGreatDoorBi4
namespace Go.Proofs.YtnjgebncghdajaaGreatDoor
open Go.RowKit
set_option linter.unusedVariables false
set_option linter.unusedSimpArgs false
attribute [local go_sem] run_store_float run_equalIn_float

/-- What a marked Act is, cell by cell. -/
def mkAct (s i : Nat) : List Value := [.int .i64 ((s : Int) + 14 * (i : Int)), .int .i64 ((s : Int) + 14 * (i : Int) + 1), .int .i64 ((s : Int) + 14 * (i : Int) + 1 + 1), .int .i64 ((s : Int) + 14 * (i : Int) + 1 + 1 + 1), .int .i64 ((s : Int) + 14 * (i : Int) + 1 + 1 + 1 + 1), .int .i64 ((s : Int) + 14 * (i : Int) + 1 + 1 + 1 + 1 + 1), .float .f64 (floatOfInt .f64 ((s : Int) + 14 * (i : Int) + 1 + 1 + 1 + 1 + 1 + 1)), .string (mark (s + 14 * i + 7)), .int .i64 ((s : Int) + 14 * (i : Int) + 1 + 1 + 1 + 1 + 1 + 1 + 1 + 1), .int .i64 ((s : Int) + 14 * (i : Int) + 1 + 1 + 1 + 1 + 1 + 1 + 1 + 1 + 1), .int .i64 ((s : Int) + 14 * (i : Int) + 1 + 1 + 1 + 1 + 1 + 1 + 1 + 1 + 1 + 1), .float .f64 (floatOfInt .f64 ((s : Int) + 14 * (i : Int) + 1 + 1 + 1 + 1 + 1 + 1 + 1 + 1 + 1 + 1 + 1)), .string (mark (s + 14 * i + 12)), .int .i64 ((s : Int) + 14 * (i : Int) + 1 + 1 + 1 + 1 + 1 + 1 + 1 + 1 + 1 + 1 + 1 + 1 + 1)]
def mcAct (s j : Nat) : Value := ((mkAct s (j / 14))[j % 14]?).getD undef
theorem mcAct_at (s k i : Nat) (hi : i < 14) : mcAct s (k * 14 + i) = ((mkAct s k)[i]?).getD undef := by
  unfold mcAct
  rw [show (k * 14 + i) / 14 = k by omega, show (k * 14 + i) % 14 = i by omega]

set_option maxRecDepth 100000 in
set_option maxHeartbeats 8000000 in
theorem markActR (b n cap N s : Nat) (g : Nat → Value) (w : World) (hA : w.rowIs b 48 N g) (hN : n * 14 ≤ N) (hn : n ≤ 4194304) (hs : s ≤ 100000000) :
    Calls Tryz.prog 10 #[.slice (some ⟨b, 0, none⟩) n cap, .int .i64 (s : Int)] w fun e w' => (e = .returned (.int .i64 ((s : Int) + 14 * (n : Int))) ∧ ∃ g', w'.rowIs b 48 N g' ∧ ∀ j, j < n * 14 → g' j = mcAct s j) ∧ Bu b w w' := by
  have HA := hide hA
  clear hA
  go_enter Tryz.func10, Tryz.ntmps10
  go_wp2
  go_loopw [1, 5] (fun q i wr => ∃ (k : Nat) (g : Nat → Value), k ≤ n ∧ i = .int .i64 (k : Int) ∧ q = .int .i64 ((s : Int) + 14 * (k : Int)) ∧ Bu b w wr ∧ wr.rowIs b 48 N g ∧ ∀ j, j < k * 14 → g j = mcAct s j) (fun _ i _ => n - (intOf i).toNat)
  case atStart => exact ⟨0, g, by omega, rfl, by simp, Bu.refl _ _, unhide HA, fun j hj => by omega⟩
  case round =>
    obtain ⟨k, g, hk, rfl, rfl, hb, hr, hg⟩ := hrel
    by_cases hkn : k < n
    · have hl0 := hr.lt
      have hm7 : ∀ w : World, _ := fun w => markText_any (s + 14 * k + 7) (by omega) w
      rw [show ((s + 14 * k + 7 : Nat) : Int) = (s : Int) + 14 * (k : Int) + 1 + 1 + 1 + 1 + 1 + 1 + 1 by omega] at hm7
      have H7 := hide hm7
      have hm12 : ∀ w : World, _ := fun w => markText_any (s + 14 * k + 12) (by omega) w
      rw [show ((s + 14 * k + 12 : Nat) : Int) = (s : Int) + 14 * (k : Int) + 1 + 1 + 1 + 1 + 1 + 1 + 1 + 1 + 1 + 1 + 1 + 1 by omega] at hm12
      have H12 := hide hm12
      have HB0 := hide hb
      have HR0 := hide hr
      have HG := hide hg
      clear hb hg hm7 hm12
      have d0 := hr.cell (i := k * 14) (by omega)
      have e0 := hr.frozen (k * 14)
      have d1 := hr.cell (i := k * 14 + 1) (by omega)
      have e1 := hr.frozen (k * 14 + 1)
      have d2 := hr.cell (i := k * 14 + 2) (by omega)
      have e2 := hr.frozen (k * 14 + 2)
      have d3 := hr.cell (i := k * 14 + 3) (by omega)
      have e3 := hr.frozen (k * 14 + 3)
      have d4 := hr.cell (i := k * 14 + 4) (by omega)
      have e4 := hr.frozen (k * 14 + 4)
      have d5 := hr.cell (i := k * 14 + 5) (by omega)
      have e5 := hr.frozen (k * 14 + 5)
      have d6 := hr.cell (i := k * 14 + 6) (by omega)
      have e6 := hr.frozen (k * 14 + 6)
      have d7 := hr.cell (i := k * 14 + 7) (by omega)
      have e7 := hr.frozen (k * 14 + 7)
      have d8 := hr.cell (i := k * 14 + 8) (by omega)
      have e8 := hr.frozen (k * 14 + 8)
      have d9 := hr.cell (i := k * 14 + 9) (by omega)
      have e9 := hr.frozen (k * 14 + 9)
      have d10 := hr.cell (i := k * 14 + 10) (by omega)
      have e10 := hr.frozen (k * 14 + 10)
      have d11 := hr.cell (i := k * 14 + 11) (by omega)
      have e11 := hr.frozen (k * 14 + 11)
      have d12 := hr.cell (i := k * 14 + 12) (by omega)
      have e12 := hr.frozen (k * 14 + 12)
      have d13 := hr.cell (i := k * 14 + 13) (by omega)
      have e13 := hr.frozen (k * 14 + 13)
      clear hr
      go_wp2_with fail
      refine (unhide H7 _).mono ?_
      rintro e w1 ⟨rfl, hb1⟩
      have hr1 := ((((((((unhide HR0).set (k * 14) (.int .i64 ((s : Int) + 14 * (k : Int)))).set (k * 14 + 1) (.int .i64 ((s : Int) + 14 * (k : Int) + 1))).set (k * 14 + 2) (.int .i64 ((s : Int) + 14 * (k : Int) + 1 + 1))).set (k * 14 + 3) (.int .i64 ((s : Int) + 14 * (k : Int) + 1 + 1 + 1))).set (k * 14 + 4) (.int .i64 ((s : Int) + 14 * (k : Int) + 1 + 1 + 1 + 1))).set (k * 14 + 5) (.int .i64 ((s : Int) + 14 * (k : Int) + 1 + 1 + 1 + 1 + 1))).set (k * 14 + 6) (.float .f64 (floatOfInt .f64 ((s : Int) + 14 * (k : Int) + 1 + 1 + 1 + 1 + 1 + 1)))).of_block (hb1.block b (by simpa using hl0))
      have hl1 := hr1.lt
      have HB1 := hide (((((((((unhide HB0).trans (Bu.set b (k * 14) _ (.int .i64 ((s : Int) + 14 * (k : Int))))).trans (Bu.set b (k * 14 + 1) _ (.int .i64 ((s : Int) + 14 * (k : Int) + 1)))).trans (Bu.set b (k * 14 + 2) _ (.int .i64 ((s : Int) + 14 * (k : Int) + 1 + 1)))).trans (Bu.set b (k * 14 + 3) _ (.int .i64 ((s : Int) + 14 * (k : Int) + 1 + 1 + 1)))).trans (Bu.set b (k * 14 + 4) _ (.int .i64 ((s : Int) + 14 * (k : Int) + 1 + 1 + 1 + 1)))).trans (Bu.set b (k * 14 + 5) _ (.int .i64 ((s : Int) + 14 * (k : Int) + 1 + 1 + 1 + 1 + 1)))).trans (Bu.set b (k * 14 + 6) _ (.float .f64 (floatOfInt .f64 ((s : Int) + 14 * (k : Int) + 1 + 1 + 1 + 1 + 1 + 1))))).trans (Bu.of hb1))
      have HR1 := hide hr1
      clear hb1 d0 e0 d1 e1 d2 e2 d3 e3 d4 e4 d5 e5 d6 e6 d7 e7 d8 e8 d9 e9 d10 e10 d11 e11 d12 e12 d13 e13
      have d7 := hr1.cell (i := k * 14 + 7) (by omega)
      have e7 := hr1.frozen (k * 14 + 7)
      have d8 := hr1.cell (i := k * 14 + 8) (by omega)
      have e8 := hr1.frozen (k * 14 + 8)
      have d9 := hr1.cell (i := k * 14 + 9) (by omega)
      have e9 := hr1.frozen (k * 14 + 9)
      have d10 := hr1.cell (i := k * 14 + 10) (by omega)
      have e10 := hr1.frozen (k * 14 + 10)
      have d11 := hr1.cell (i := k * 14 + 11) (by omega)
      have e11 := hr1.frozen (k * 14 + 11)
      have d12 := hr1.cell (i := k * 14 + 12) (by omega)
      have e12 := hr1.frozen (k * 14 + 12)
      have d13 := hr1.cell (i := k * 14 + 13) (by omega)
      have e13 := hr1.frozen (k * 14 + 13)
      clear hr1
      go_wp2_with fail
      refine (unhide H12 _).mono ?_
      rintro e w2 ⟨rfl, hb2⟩
      have hr2 := ((((((unhide HR1).set (k * 14 + 7) (.string (mark (s + 14 * k + 7)))).set (k * 14 + 8) (.int .i64 ((s : Int) + 14 * (k : Int) + 1 + 1 + 1 + 1 + 1 + 1 + 1 + 1))).set (k * 14 + 9) (.int .i64 ((s : Int) + 14 * (k : Int) + 1 + 1 + 1 + 1 + 1 + 1 + 1 + 1 + 1))).set (k * 14 + 10) (.int .i64 ((s : Int) + 14 * (k : Int) + 1 + 1 + 1 + 1 + 1 + 1 + 1 + 1 + 1 + 1))).set (k * 14 + 11) (.float .f64 (floatOfInt .f64 ((s : Int) + 14 * (k : Int) + 1 + 1 + 1 + 1 + 1 + 1 + 1 + 1 + 1 + 1 + 1)))).of_block (hb2.block b (by simpa using hl1))
      have hl2 := hr2.lt
      have HB2 := hide (((((((unhide HB1).trans (Bu.set b (k * 14 + 7) _ (.string (mark (s + 14 * k + 7))))).trans (Bu.set b (k * 14 + 8) _ (.int .i64 ((s : Int) + 14 * (k : Int) + 1 + 1 + 1 + 1 + 1 + 1 + 1 + 1)))).trans (Bu.set b (k * 14 + 9) _ (.int .i64 ((s : Int) + 14 * (k : Int) + 1 + 1 + 1 + 1 + 1 + 1 + 1 + 1 + 1)))).trans (Bu.set b (k * 14 + 10) _ (.int .i64 ((s : Int) + 14 * (k : Int) + 1 + 1 + 1 + 1 + 1 + 1 + 1 + 1 + 1 + 1)))).trans (Bu.set b (k * 14 + 11) _ (.float .f64 (floatOfInt .f64 ((s : Int) + 14 * (k : Int) + 1 + 1 + 1 + 1 + 1 + 1 + 1 + 1 + 1 + 1 + 1))))).trans (Bu.of hb2))
      have HR2 := hide hr2
      clear hb2 d7 e7 d8 e8 d9 e9 d10 e10 d11 e11 d12 e12 d13 e13
      have d12 := hr2.cell (i := k * 14 + 12) (by omega)
      have e12 := hr2.frozen (k * 14 + 12)
      have d13 := hr2.cell (i := k * 14 + 13) (by omega)
      have e13 := hr2.frozen (k * 14 + 13)
      clear hr2
      go_wp2
      go_roundw
      case rel =>
        refine ⟨k + 1, _, by omega, by go_num, by go_num, (((unhide HB2).trans (Bu.set b (k * 14 + 12) _ (.string (mark (s + 14 * k + 12))))).trans (Bu.set b (k * 14 + 13) _ (.int .i64 ((s : Int) + 14 * (k : Int) + 1 + 1 + 1 + 1 + 1 + 1 + 1 + 1 + 1 + 1 + 1 + 1 + 1)))), (((unhide HR2).set (k * 14 + 12) (.string (mark (s + 14 * k + 12)))).set (k * 14 + 13) (.int .i64 ((s : Int) + 14 * (k : Int) + 1 + 1 + 1 + 1 + 1 + 1 + 1 + 1 + 1 + 1 + 1 + 1 + 1))), fun j hj => ?_⟩
        by_cases hj' : j < k * 14
        · have hne : ∀ i, i < 14 → j ≠ k * 14 + i := fun i _ => by omega
          simp only [show j ≠ k * 14 by omega, hne 1 (by omega), hne 2 (by omega), hne 3 (by omega), hne 4 (by omega), hne 5 (by omega), hne 6 (by omega), hne 7 (by omega), hne 8 (by omega), hne 9 (by omega), hne 10 (by omega), hne 11 (by omega), hne 12 (by omega), hne 13 (by omega), if_false]
          exact unhide HG j hj'
        · obtain ⟨i, hi, rfl⟩ : ∃ i, i < 14 ∧ j = k * 14 + i := ⟨j - k * 14, by omega, by omega⟩
          rw [mcAct_at _ k i hi]
          rcases (by omega : i = 0 ∨ i = 1 ∨ i = 2 ∨ i = 3 ∨ i = 4 ∨ i = 5 ∨ i = 6 ∨ i = 7 ∨ i = 8 ∨ i = 9 ∨ i = 10 ∨ i = 11 ∨ i = 12 ∨ i = 13) with rfl | rfl | rfl | rfl | rfl | rfl | rfl | rfl | rfl | rfl | rfl | rfl | rfl | rfl <;> simp [mkAct]
      case measure => simp [intOf]; omega
    · have hkn' : k = n := by omega
      subst hkn'
      have HB := hide hb
      have HR := hide (And.intro hr hg)
      clear hb hr hg
      go_wp2
      go_ret
      exact ⟨⟨rfl, _, (unhide HR).1, (unhide HR).2⟩, unhide HB⟩

end Go.Proofs.YtnjgebncghdajaaGreatDoor
