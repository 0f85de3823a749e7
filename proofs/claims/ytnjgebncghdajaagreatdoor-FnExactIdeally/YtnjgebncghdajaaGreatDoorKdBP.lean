/-
  KdB.
-/
import Derived.Test.YtnjgebncghdajaaGreatDoorBi4
namespace Go.Proofs.YtnjgebncghdajaaGreatDoor
open Go.RowKit
set_option linter.unusedVariables false
set_option linter.unusedSimpArgs false
attribute [local go_sem] run_store_float run_equalIn_float

/-- What a marked Ans is, cell by cell. -/
def mkAns (s i : Nat) : List Value := [.int .i64 ((s : Int) + 12 * (i : Int)), .int .i64 ((s : Int) + 12 * (i : Int) + 1), .int .i64 ((s : Int) + 12 * (i : Int) + 1 + 1), .int .i64 ((s : Int) + 12 * (i : Int) + 1 + 1 + 1), .float .f64 (floatOfInt .f64 ((s : Int) + 12 * (i : Int) + 1 + 1 + 1 + 1)), .string (mark (s + 12 * i + 5)), .int .i64 ((s : Int) + 12 * (i : Int) + 1 + 1 + 1 + 1 + 1 + 1), .int .i64 ((s : Int) + 12 * (i : Int) + 1 + 1 + 1 + 1 + 1 + 1 + 1), .int .i64 ((s : Int) + 12 * (i : Int) + 1 + 1 + 1 + 1 + 1 + 1 + 1 + 1), .float .f64 (floatOfInt .f64 ((s : Int) + 12 * (i : Int) + 1 + 1 + 1 + 1 + 1 + 1 + 1 + 1 + 1)), .string (mark (s + 12 * i + 10)), .int .i64 ((s : Int) + 12 * (i : Int) + 1 + 1 + 1 + 1 + 1 + 1 + 1 + 1 + 1 + 1 + 1)]
def mcAns (s j : Nat) : Value := ((mkAns s (j / 12))[j % 12]?).getD undef
theorem mcAns_at (s k i : Nat) (hi : i < 12) : mcAns s (k * 12 + i) = ((mkAns s k)[i]?).getD undef := by
  unfold mcAns
  rw [show (k * 12 + i) / 12 = k by omega, show (k * 12 + i) % 12 = i by omega]

set_option maxRecDepth 100000 in
set_option maxHeartbeats 8000000 in
theorem markAnsR (b n cap N s : Nat) (g : Nat → Value) (w : World) (hA : w.rowIs b 50 N g) (hN : n * 12 ≤ N) (hn : n ≤ 4194304) (hs : s ≤ 100000000) :
    Calls Tryz.prog 22 #[.slice (some ⟨b, 0, none⟩) n cap, .int .i64 (s : Int)] w fun e w' => (e = .returned (.int .i64 ((s : Int) + 12 * (n : Int))) ∧ ∃ g', w'.rowIs b 50 N g' ∧ ∀ j, j < n * 12 → g' j = mcAns s j) ∧ Bu b w w' := by
  have HA := hide hA
  clear hA
  go_enter Tryz.func22, Tryz.ntmps22
  go_wp2
  go_loopw [1, 5] (fun q i wr => ∃ (k : Nat) (g : Nat → Value), k ≤ n ∧ i = .int .i64 (k : Int) ∧ q = .int .i64 ((s : Int) + 12 * (k : Int)) ∧ Bu b w wr ∧ wr.rowIs b 50 N g ∧ ∀ j, j < k * 12 → g j = mcAns s j) (fun _ i _ => n - (intOf i).toNat)
  case atStart => exact ⟨0, g, by omega, rfl, by simp, Bu.refl _ _, unhide HA, fun j hj => by omega⟩
  case round =>
    obtain ⟨k, g, hk, rfl, rfl, hb, hr, hg⟩ := hrel
    by_cases hkn : k < n
    · have hl0 := hr.lt
      have hm5 : ∀ w : World, _ := fun w => markText_any (s + 12 * k + 5) (by omega) w
      rw [show ((s + 12 * k + 5 : Nat) : Int) = (s : Int) + 12 * (k : Int) + 1 + 1 + 1 + 1 + 1 by omega] at hm5
      have H5 := hide hm5
      have hm10 : ∀ w : World, _ := fun w => markText_any (s + 12 * k + 10) (by omega) w
      rw [show ((s + 12 * k + 10 : Nat) : Int) = (s : Int) + 12 * (k : Int) + 1 + 1 + 1 + 1 + 1 + 1 + 1 + 1 + 1 + 1 by omega] at hm10
      have H10 := hide hm10
      have HB0 := hide hb
      have HR0 := hide hr
      have HG := hide hg
      clear hb hg hm5 hm10
      have d0 := hr.cell (i := k * 12) (by omega)
      have e0 := hr.frozen (k * 12)
      have d1 := hr.cell (i := k * 12 + 1) (by omega)
      have e1 := hr.frozen (k * 12 + 1)
      have d2 := hr.cell (i := k * 12 + 2) (by omega)
      have e2 := hr.frozen (k * 12 + 2)
      have d3 := hr.cell (i := k * 12 + 3) (by omega)
      have e3 := hr.frozen (k * 12 + 3)
      have d4 := hr.cell (i := k * 12 + 4) (by omega)
      have e4 := hr.frozen (k * 12 + 4)
      have d5 := hr.cell (i := k * 12 + 5) (by omega)
      have e5 := hr.frozen (k * 12 + 5)
      have d6 := hr.cell (i := k * 12 + 6) (by omega)
      have e6 := hr.frozen (k * 12 + 6)
      have d7 := hr.cell (i := k * 12 + 7) (by omega)
      have e7 := hr.frozen (k * 12 + 7)
      have d8 := hr.cell (i := k * 12 + 8) (by omega)
      have e8 := hr.frozen (k * 12 + 8)
      have d9 := hr.cell (i := k * 12 + 9) (by omega)
      have e9 := hr.frozen (k * 12 + 9)
      have d10 := hr.cell (i := k * 12 + 10) (by omega)
      have e10 := hr.frozen (k * 12 + 10)
      have d11 := hr.cell (i := k * 12 + 11) (by omega)
      have e11 := hr.frozen (k * 12 + 11)
      clear hr
      go_wp2_with fail
      refine (unhide H5 _).mono ?_
      rintro e w1 ⟨rfl, hb1⟩
      have hr1 := ((((((unhide HR0).set (k * 12) (.int .i64 ((s : Int) + 12 * (k : Int)))).set (k * 12 + 1) (.int .i64 ((s : Int) + 12 * (k : Int) + 1))).set (k * 12 + 2) (.int .i64 ((s : Int) + 12 * (k : Int) + 1 + 1))).set (k * 12 + 3) (.int .i64 ((s : Int) + 12 * (k : Int) + 1 + 1 + 1))).set (k * 12 + 4) (.float .f64 (floatOfInt .f64 ((s : Int) + 12 * (k : Int) + 1 + 1 + 1 + 1)))).of_block (hb1.block b (by simpa using hl0))
      have hl1 := hr1.lt
      have HB1 := hide (((((((unhide HB0).trans (Bu.set b (k * 12) _ (.int .i64 ((s : Int) + 12 * (k : Int))))).trans (Bu.set b (k * 12 + 1) _ (.int .i64 ((s : Int) + 12 * (k : Int) + 1)))).trans (Bu.set b (k * 12 + 2) _ (.int .i64 ((s : Int) + 12 * (k : Int) + 1 + 1)))).trans (Bu.set b (k * 12 + 3) _ (.int .i64 ((s : Int) + 12 * (k : Int) + 1 + 1 + 1)))).trans (Bu.set b (k * 12 + 4) _ (.float .f64 (floatOfInt .f64 ((s : Int) + 12 * (k : Int) + 1 + 1 + 1 + 1))))).trans (Bu.of hb1))
      have HR1 := hide hr1
      clear hb1 d0 e0 d1 e1 d2 e2 d3 e3 d4 e4 d5 e5 d6 e6 d7 e7 d8 e8 d9 e9 d10 e10 d11 e11
      have d5 := hr1.cell (i := k * 12 + 5) (by omega)
      have e5 := hr1.frozen (k * 12 + 5)
      have d6 := hr1.cell (i := k * 12 + 6) (by omega)
      have e6 := hr1.frozen (k * 12 + 6)
      have d7 := hr1.cell (i := k * 12 + 7) (by omega)
      have e7 := hr1.frozen (k * 12 + 7)
      have d8 := hr1.cell (i := k * 12 + 8) (by omega)
      have e8 := hr1.frozen (k * 12 + 8)
      have d9 := hr1.cell (i := k * 12 + 9) (by omega)
      have e9 := hr1.frozen (k * 12 + 9)
      have d10 := hr1.cell (i := k * 12 + 10) (by omega)
      have e10 := hr1.frozen (k * 12 + 10)
      have d11 := hr1.cell (i := k * 12 + 11) (by omega)
      have e11 := hr1.frozen (k * 12 + 11)
      clear hr1
      go_wp2_with fail
      refine (unhide H10 _).mono ?_
      rintro e w2 ⟨rfl, hb2⟩
      have hr2 := ((((((unhide HR1).set (k * 12 + 5) (.string (mark (s + 12 * k + 5)))).set (k * 12 + 6) (.int .i64 ((s : Int) + 12 * (k : Int) + 1 + 1 + 1 + 1 + 1 + 1))).set (k * 12 + 7) (.int .i64 ((s : Int) + 12 * (k : Int) + 1 + 1 + 1 + 1 + 1 + 1 + 1))).set (k * 12 + 8) (.int .i64 ((s : Int) + 12 * (k : Int) + 1 + 1 + 1 + 1 + 1 + 1 + 1 + 1))).set (k * 12 + 9) (.float .f64 (floatOfInt .f64 ((s : Int) + 12 * (k : Int) + 1 + 1 + 1 + 1 + 1 + 1 + 1 + 1 + 1)))).of_block (hb2.block b (by simpa using hl1))
      have hl2 := hr2.lt
      have HB2 := hide (((((((unhide HB1).trans (Bu.set b (k * 12 + 5) _ (.string (mark (s + 12 * k + 5))))).trans (Bu.set b (k * 12 + 6) _ (.int .i64 ((s : Int) + 12 * (k : Int) + 1 + 1 + 1 + 1 + 1 + 1)))).trans (Bu.set b (k * 12 + 7) _ (.int .i64 ((s : Int) + 12 * (k : Int) + 1 + 1 + 1 + 1 + 1 + 1 + 1)))).trans (Bu.set b (k * 12 + 8) _ (.int .i64 ((s : Int) + 12 * (k : Int) + 1 + 1 + 1 + 1 + 1 + 1 + 1 + 1)))).trans (Bu.set b (k * 12 + 9) _ (.float .f64 (floatOfInt .f64 ((s : Int) + 12 * (k : Int) + 1 + 1 + 1 + 1 + 1 + 1 + 1 + 1 + 1))))).trans (Bu.of hb2))
      have HR2 := hide hr2
      clear hb2 d5 e5 d6 e6 d7 e7 d8 e8 d9 e9 d10 e10 d11 e11
      have d10 := hr2.cell (i := k * 12 + 10) (by omega)
      have e10 := hr2.frozen (k * 12 + 10)
      have d11 := hr2.cell (i := k * 12 + 11) (by omega)
      have e11 := hr2.frozen (k * 12 + 11)
      clear hr2
      go_wp2
      go_roundw
      case rel =>
        refine ⟨k + 1, _, by omega, by go_num, by go_num, (((unhide HB2).trans (Bu.set b (k * 12 + 10) _ (.string (mark (s + 12 * k + 10))))).trans (Bu.set b (k * 12 + 11) _ (.int .i64 ((s : Int) + 12 * (k : Int) + 1 + 1 + 1 + 1 + 1 + 1 + 1 + 1 + 1 + 1 + 1)))), (((unhide HR2).set (k * 12 + 10) (.string (mark (s + 12 * k + 10)))).set (k * 12 + 11) (.int .i64 ((s : Int) + 12 * (k : Int) + 1 + 1 + 1 + 1 + 1 + 1 + 1 + 1 + 1 + 1 + 1))), fun j hj => ?_⟩
        by_cases hj' : j < k * 12
        · have hne : ∀ i, i < 12 → j ≠ k * 12 + i := fun i _ => by omega
          simp only [show j ≠ k * 12 by omega, hne 1 (by omega), hne 2 (by omega), hne 3 (by omega), hne 4 (by omega), hne 5 (by omega), hne 6 (by omega), hne 7 (by omega), hne 8 (by omega), hne 9 (by omega), hne 10 (by omega), hne 11 (by omega), if_false]
          exact unhide HG j hj'
        · obtain ⟨i, hi, rfl⟩ : ∃ i, i < 12 ∧ j = k * 12 + i := ⟨j - k * 12, by omega, by omega⟩
          rw [mcAns_at _ k i hi]
          rcases (by omega : i = 0 ∨ i = 1 ∨ i = 2 ∨ i = 3 ∨ i = 4 ∨ i = 5 ∨ i = 6 ∨ i = 7 ∨ i = 8 ∨ i = 9 ∨ i = 10 ∨ i = 11) with rfl | rfl | rfl | rfl | rfl | rfl | rfl | rfl | rfl | rfl | rfl | rfl <;> simp [mkAns]
      case measure => simp [intOf]; omega
    · have hkn' : k = n := by omega
      subst hkn'
      have HB := hide hb
      have HR := hide (And.intro hr hg)
      clear hb hr hg
      go_wp2
      go_ret
      exact ⟨⟨rfl, _, (unhide HR).1, (unhide HR).2⟩, unhide HB⟩

set_option maxRecDepth 100000 in
set_option maxHeartbeats 8000000 in
theorem heldAnsR (b n cap s : Nat) (w : World) (hl : b < w.heap.size) (hA : ∀ i, i < n → ∀ j u, (mkAns s i)[j]? = some u → w.cell? ⟨b, i * 12 + j, none⟩ = some u) (hn : n ≤ 4194304) (hs : s ≤ 100000000) :
    Calls Tryz.prog 24 #[.slice (some ⟨b, 0, none⟩) n cap, .int .i64 (s : Int)] w fun e w' => e = .returned (.int .i64 ((s : Int) + 12 * (n : Int))) ∧ Below w.heap.size w w' := by
  have HA := hide hA
  clear hA
  go_enter Tryz.func24, Tryz.ntmps24
  go_wp2
  go_loopw [1, 5] (fun q i wr => ∃ (k : Nat), k ≤ n ∧ i = .int .i64 k ∧ q = .int .i64 ((s : Int) + 12 * (k : Int)) ∧ Below w.heap.size w wr) (fun _ i _ => n - (intOf i).toNat)
  case atStart => exact ⟨0, by omega, rfl, by simp, Below.refl _ _⟩
  case round =>
    obtain ⟨k, hk, rfl, rfl, hb⟩ := hrel
    have hx0 : b < wr.heap.size := Nat.lt_of_lt_of_le hl hb.size
    by_cases hlt : k < n
    · have hc : ∀ j u, (mkAns s k)[j]? = some u → wr.cell? ⟨b, k * 12 + j, none⟩ = some u := fun j u hu => (hb.cell (p := ⟨b, k * 12 + j, none⟩) hl).trans (unhide HA k hlt j u hu)
      have d0 : wr.cell? ⟨b, k * 12, none⟩ = some (.int .i64 ((s : Int) + 12 * (k : Int))) := hc 0 _ rfl
      have d1 : wr.cell? ⟨b, k * 12 + 1, none⟩ = some (.int .i64 ((s : Int) + 12 * (k : Int) + 1)) := hc 1 _ rfl
      have d2 : wr.cell? ⟨b, k * 12 + 2, none⟩ = some (.int .i64 ((s : Int) + 12 * (k : Int) + 1 + 1)) := hc 2 _ rfl
      have d3 : wr.cell? ⟨b, k * 12 + 3, none⟩ = some (.int .i64 ((s : Int) + 12 * (k : Int) + 1 + 1 + 1)) := hc 3 _ rfl
      have d4 : wr.cell? ⟨b, k * 12 + 4, none⟩ = some (.float .f64 (floatOfInt .f64 ((s : Int) + 12 * (k : Int) + 1 + 1 + 1 + 1))) := hc 4 _ rfl
      have d5 : wr.cell? ⟨b, k * 12 + 5, none⟩ = some (.string (mark (s + 12 * k + 5))) := hc 5 _ rfl
      have d6 : wr.cell? ⟨b, k * 12 + 6, none⟩ = some (.int .i64 ((s : Int) + 12 * (k : Int) + 1 + 1 + 1 + 1 + 1 + 1)) := hc 6 _ rfl
      have d7 : wr.cell? ⟨b, k * 12 + 7, none⟩ = some (.int .i64 ((s : Int) + 12 * (k : Int) + 1 + 1 + 1 + 1 + 1 + 1 + 1)) := hc 7 _ rfl
      have d8 : wr.cell? ⟨b, k * 12 + 8, none⟩ = some (.int .i64 ((s : Int) + 12 * (k : Int) + 1 + 1 + 1 + 1 + 1 + 1 + 1 + 1)) := hc 8 _ rfl
      have d9 : wr.cell? ⟨b, k * 12 + 9, none⟩ = some (.float .f64 (floatOfInt .f64 ((s : Int) + 12 * (k : Int) + 1 + 1 + 1 + 1 + 1 + 1 + 1 + 1 + 1))) := hc 9 _ rfl
      have d10 : wr.cell? ⟨b, k * 12 + 10, none⟩ = some (.string (mark (s + 12 * k + 10))) := hc 10 _ rfl
      have d11 : wr.cell? ⟨b, k * 12 + 11, none⟩ = some (.int .i64 ((s : Int) + 12 * (k : Int) + 1 + 1 + 1 + 1 + 1 + 1 + 1 + 1 + 1 + 1 + 1)) := hc 11 _ rfl
      have g4 := fselfR ((s : Int) + 12 * (k : Int) + 1 + 1 + 1 + 1) (by omega) (by omega)
      have g9 := fselfR ((s : Int) + 12 * (k : Int) + 1 + 1 + 1 + 1 + 1 + 1 + 1 + 1 + 1) (by omega) (by omega)
      have hm5 : ∀ w : World, _ := fun w => markText_any (s + 12 * k + 5) (by omega) w
      rw [show ((s + 12 * k + 5 : Nat) : Int) = (s : Int) + 12 * (k : Int) + 1 + 1 + 1 + 1 + 1 by omega] at hm5
      have H5 := hide hm5
      have hm10 : ∀ w : World, _ := fun w => markText_any (s + 12 * k + 10) (by omega) w
      rw [show ((s + 12 * k + 10 : Nat) : Int) = (s : Int) + 12 * (k : Int) + 1 + 1 + 1 + 1 + 1 + 1 + 1 + 1 + 1 + 1 by omega] at hm10
      have H10 := hide hm10
      have HB0 := hide hb
      clear hb hc hm5 hm10
      go_wp2
      refine wp_region_quiet (C := fun w' => Below wr.heap.size wr w') (by kernel_rfl) (by kernel_rfl) ((Below.refl _ _).drew) ?_
      show wpQuiet _ _ _ _ [_, _, _, _, _, _, _, _, _] _
      refine wpQuiet_step (fun K hK => ?_)
      go_simp
      refine ⟨_, fun w' hw' => rfl, hK _ ?_⟩
      clear hK K
      refine wpQuiet_step (fun K hK => ?_)
      go_simp
      refine ⟨_, fun w' hw' => rfl, hK _ ?_⟩
      clear hK K
      refine wpQuiet_step (fun K hK => ?_)
      go_simp
      refine ⟨_, fun w' hw' => rfl, hK _ ?_⟩
      clear hK K
      refine wpQuiet_step (fun K hK => ?_)
      go_simp
      refine ⟨_, fun w' hw' => rfl, hK _ ?_⟩
      clear hK K
      refine wpQuiet_step (fun K hK => ?_)
      go_simp
      refine ⟨_, fun w' hw' => rfl, hK _ ?_⟩
      clear hK K
      refine wpQuiet_step (fun K hK => ?_)
      go_simp
      apply Exists.intro
      refine And.intro (fun w' hw' => ?_) (hK _ ?_)
      · obtain ⟨hc', hf'⟩ := bcell hw'
        go_simp
        first | rfl | exact ⟨rfl, rfl⟩ | exact ⟨rfl⟩
      clear hK K
      refine wpQuiet_step (fun K hK => ?_)
      go_simp
      refine ⟨_, fun w' hw' => rfl, hK _ ?_⟩
      clear hK K
      refine wpQuiet_step (fun K hK => ?_)
      go_simp
      apply Exists.intro
      refine And.intro (fun w' hw' => ?_) (hK _ ?_)
      · refine ((unhide H5) _).mono ?_
        rintro e w'' ⟨rfl, hb⟩
        exact ⟨rfl, hw'.trans (hb.mono hw'.size)⟩
      clear hK K
      refine wpQuiet_step (fun K hK => ?_)
      go_simp
      refine ⟨_, fun w' hw' => rfl, hK _ ?_⟩
      clear hK K
      refine wpQuiet_nil ?_
      intro w1 hw1
      have HB1 := hide ((unhide HB0).trans (hw1.mono (unhide HB0).size))
      have hx1 : b < w1.heap.size := Nat.lt_of_lt_of_le hx0 hw1.size
      replace d5 := (hw1.cell (p := ⟨b, k * 12 + 5, none⟩) hx0).trans d5
      replace d6 := (hw1.cell (p := ⟨b, k * 12 + 6, none⟩) hx0).trans d6
      replace d7 := (hw1.cell (p := ⟨b, k * 12 + 7, none⟩) hx0).trans d7
      replace d8 := (hw1.cell (p := ⟨b, k * 12 + 8, none⟩) hx0).trans d8
      replace d9 := (hw1.cell (p := ⟨b, k * 12 + 9, none⟩) hx0).trans d9
      replace d10 := (hw1.cell (p := ⟨b, k * 12 + 10, none⟩) hx0).trans d10
      replace d11 := (hw1.cell (p := ⟨b, k * 12 + 11, none⟩) hx0).trans d11
      clear hw1 HB0 d0 d1 d2 d3 d4
      go_wp2
      refine wp_region_quiet (C := fun w' => Below w1.heap.size w1 w') (by kernel_rfl) (by kernel_rfl) ((Below.refl _ _).drew) ?_
      show wpQuiet _ _ _ _ [_, _, _, _, _, _, _, _, _] _
      refine wpQuiet_step (fun K hK => ?_)
      go_simp
      refine ⟨_, fun w' hw' => rfl, hK _ ?_⟩
      clear hK K
      refine wpQuiet_step (fun K hK => ?_)
      go_simp
      refine ⟨_, fun w' hw' => rfl, hK _ ?_⟩
      clear hK K
      refine wpQuiet_step (fun K hK => ?_)
      go_simp
      refine ⟨_, fun w' hw' => rfl, hK _ ?_⟩
      clear hK K
      refine wpQuiet_step (fun K hK => ?_)
      go_simp
      refine ⟨_, fun w' hw' => rfl, hK _ ?_⟩
      clear hK K
      refine wpQuiet_step (fun K hK => ?_)
      go_simp
      refine ⟨_, fun w' hw' => rfl, hK _ ?_⟩
      clear hK K
      refine wpQuiet_step (fun K hK => ?_)
      go_simp
      apply Exists.intro
      refine And.intro (fun w' hw' => ?_) (hK _ ?_)
      · obtain ⟨hc', hf'⟩ := bcell hw'
        go_simp
        first | rfl | exact ⟨rfl, rfl⟩ | exact ⟨rfl⟩
      clear hK K
      refine wpQuiet_step (fun K hK => ?_)
      go_simp
      refine ⟨_, fun w' hw' => rfl, hK _ ?_⟩
      clear hK K
      refine wpQuiet_step (fun K hK => ?_)
      go_simp
      apply Exists.intro
      refine And.intro (fun w' hw' => ?_) (hK _ ?_)
      · refine ((unhide H10) _).mono ?_
        rintro e w'' ⟨rfl, hb⟩
        exact ⟨rfl, hw'.trans (hb.mono hw'.size)⟩
      clear hK K
      refine wpQuiet_step (fun K hK => ?_)
      go_simp
      refine ⟨_, fun w' hw' => rfl, hK _ ?_⟩
      clear hK K
      refine wpQuiet_nil ?_
      intro w2 hw2
      have HB2 := hide ((unhide HB1).trans (hw2.mono (unhide HB1).size))
      have hx2 : b < w2.heap.size := Nat.lt_of_lt_of_le hx1 hw2.size
      replace d10 := (hw2.cell (p := ⟨b, k * 12 + 10, none⟩) hx1).trans d10
      replace d11 := (hw2.cell (p := ⟨b, k * 12 + 11, none⟩) hx1).trans d11
      clear hw2 HB1 d5 d6 d7 d8 d9
      go_wp2
      go_roundw
      case rel => exact ⟨k + 1, by omega, by go_num, by go_num, unhide HB2⟩
      case measure => simp [intOf]; omega
    · have hkn' : k = n := by omega
      subst hkn'
      have HB := hide hb
      clear hb
      go_wp2
      go_ret
      exact ⟨rfl, unhide HB⟩

end Go.Proofs.YtnjgebncghdajaaGreatDoor
