/-
  The law of forests: the walk.
-/
import Derived.Test.YtgiegkigfokdmaaDrE
import Derived.Test.YtgiegkigfokdmaaDrC
namespace Go.Proofs.Ytgiegkigfokdmaa
open Go.RowKit
set_option linter.unusedVariables false

/-- The law's own variables. -/
structure Bx (w : World) (F G S : Nat) (sf sg ss : Value) (r : Int) : Prop where
  f : w.cell? ⟨F, 0, none⟩ = some sf
  g0 : w.cell? ⟨G, 0, none⟩ = some sg
  g1 : w.cell? ⟨G, 1, none⟩ = some (.int .i64 r)
  s0 : w.cell? ⟨S, 0, none⟩ = some ss
  s1 : w.cell? ⟨S, 1, none⟩ = some (.int .i64 r)

theorem Bx.below {w w' : World} {F G S B : Nat} {sf sg ss : Value} {r : Int} (h : Bx w F G S sf sg ss r) (hb : Below B w w') (hF : F < B) (hG : G < B) (hS : S < B) : Bx w' F G S sf sg ss r :=
  ⟨(hb.cell (by exact hF)).trans h.f, (hb.cell (by exact hG)).trans h.g0, (hb.cell (by exact hG)).trans h.g1, (hb.cell (by exact hS)).trans h.s0, (hb.cell (by exact hS)).trans h.s1⟩

theorem field_shape (a : Option Addr) (n cp : Nat) (r : Int) (w : World) : (Instr.field 29 (GrV (.slice a n cp) r) 1).run Try.prog w = .ok (.int .i64 r) w := by kernel_rfl

theorem implFields_good {b n cap k : Nat} {f : Nat → Shp} {w : World} (hA : ShRow w b n f) (hn : n ≤ 1048576) (hg : Good n f k) :
    Calls Try.prog 11 #[.agg #[.slice (some ⟨b, 0, none⟩) n cap], .int .i64 (k : Int)] w fun e w' => (∃ m, e = .returned (.slice (some ⟨m, 0, none⟩) (nf f k) (nf f k)) ∧ StRow w' m (nf f k) (fld f k)) ∧ Below w.heap.size w w' := by
  refine (implFields_any b n cap k f w hA hn).mono fun e w' h => ?_
  obtain ⟨h, hb⟩ := h
  rcases h with ⟨_, h⟩ | ⟨m, _, he, _, hr⟩
  · exact absurd hg h
  · exact ⟨⟨m, he, hr⟩, hb⟩

theorem implFieldAt_good {b n cap k : Nat} {key : ByteArray} {f : Nat → Shp} {w : World} (hA : ShRow w b n f) (hn : n ≤ 1048576) (hg : Good n f k) :
    Calls Try.prog 12 #[.agg #[.slice (some ⟨b, 0, none⟩) n cap], .int .i64 (k : Int), .string key] w fun e w' => e = .returned (.int .i64 (plcI f k key)) ∧ Below w.heap.size w w' := by
  refine (implFieldAt_any b n cap k key f w hA hn).mono fun e w' h => ?_
  obtain ⟨h, hb⟩ := h
  rcases h with ⟨_, h⟩ | ⟨_, he⟩
  · exact absurd hg h
  · exact ⟨he, hb⟩

set_option maxRecDepth 100000 in
set_option maxHeartbeats 4000000 in
theorem law_forest (a : Option Addr) (len cap : Nat) (w : World) (hcode : CodeAt w w.heap.size a len) (hle : (len : Int) ≤ 1048576) :
    Calls Try.prog 3 #[.slice a len cap] w fun e w' => e = .returned (.bool true) ∧ Below w.heap.size w w' := by
  have HCode := hide hcode
  clear hcode
  go_enter Try.func3, Try.ntmps3
  go_wp2_with fail
  refine (drawGrow_any a len cap _ (unhide HCode)).mono ?_
  rintro e w1 ⟨⟨v, s, key, rfl, hD, hs0, hs1, hks⟩, hb1⟩
  have HB1 := hide hb1
  have hz1 := hb1.size
  clear hb1
  rcases hD with rfl | ⟨g, cp, n, f, rfl, hn1, hn2, hgb, hrow⟩
  · go_wp2_with fail
    obtain ⟨W1, hW1⟩ : ∃ W1, W1 = w1.alloc (.cells #[.slice none 0 0] 25) := ⟨_, rfl⟩
    rw [← hW1]
    have hbW1 : Below w1.heap.size w1 W1 := by rw [hW1]; exact (Below.refl _ _).alloc (Nat.le_refl _) _
    have zW1 : W1.heap.size = w1.heap.size + 1 := by rw [hW1]; simp
    have f1 : W1.cell? ⟨w1.heap.size, 0, none⟩ = some (.slice none 0 0) := by rw [hW1]; simp [go_sem]
    have HBW1 := hide ((unhide HB1).trans (hbW1.mono hz1))
    clear hW1 hbW1 HB1
    refine (implGrow_nil s key _).mono ?_
    rintro e w2 ⟨rfl, hb2⟩
    have z2 : W1.heap.size ≤ w2.heap.size := hb2.size
    have hF2 : w1.heap.size < w2.heap.size := by omega
    have f2 := (hb2.cell (p := ⟨w1.heap.size, 0, none⟩) (by show w1.heap.size < W1.heap.size; omega)).trans f1
    have HB2 := hide ((unhide HBW1).trans (hb2.mono (unhide HBW1).size))
    clear hb2 f1 HBW1
    go_wp2_with fail
    obtain ⟨W2, hW2⟩ : ∃ W2, W2 = w2.alloc (.cells #[.slice none 0 0, .int .i64 (-1)] 29) := ⟨_, rfl⟩
    rw [← hW2]
    have hbW2 : Below w2.heap.size w2 W2 := by rw [hW2]; exact (Below.refl _ _).alloc (Nat.le_refl _) _
    have zW2 : W2.heap.size = w2.heap.size + 1 := by rw [hW2]; simp
    have g0 : W2.cell? ⟨w2.heap.size, 0, none⟩ = some (.slice none 0 0) := by rw [hW2]; simp [go_sem]
    have g1 : W2.cell? ⟨w2.heap.size, 1, none⟩ = some (.int .i64 (-1)) := by rw [hW2]; simp [go_sem]
    have f2' := (hbW2.cell (p := ⟨w1.heap.size, 0, none⟩) (by exact hF2)).trans f2
    have HBW2 := hide ((unhide HB2).trans (hbW2.mono (unhide HB2).size))
    clear hW2 hbW2 f2 HB2
    refine (specGrow_nil s key _).mono ?_
    rintro e w3 ⟨rfl, hb3⟩
    have z3 : W2.heap.size ≤ w3.heap.size := hb3.size
    have hG3 : w2.heap.size < w3.heap.size := by omega
    have hF3 : w1.heap.size < w3.heap.size := by omega
    have f3' := (hb3.cell (p := ⟨w1.heap.size, 0, none⟩) (by show w1.heap.size < W2.heap.size; omega)).trans f2'
    have g30 := (hb3.cell (p := ⟨w2.heap.size, 0, none⟩) (by show w2.heap.size < W2.heap.size; omega)).trans g0
    have g31 := (hb3.cell (p := ⟨w2.heap.size, 1, none⟩) (by show w2.heap.size < W2.heap.size; omega)).trans g1
    have HB3 := hide ((unhide HBW2).trans (hb3.mono (unhide HBW2).size))
    clear hb3 g0 g1 f2' HBW2
    go_wp2
    obtain ⟨W3, hW3⟩ : ∃ W3, W3 = w3.alloc (.cells #[.slice none 0 0, .int .i64 (-1)] 29) := ⟨_, rfl⟩
    rw [← hW3]
    have hbW3 : Below w3.heap.size w3 W3 := by rw [hW3]; exact (Below.refl _ _).alloc (Nat.le_refl _) _
    have zW3 : W3.heap.size = w3.heap.size + 1 := by rw [hW3]; simp
    have hbx : Bx W3 w1.heap.size w2.heap.size w3.heap.size (.slice none 0 0) (.slice none 0 0) (.slice none 0 0) (-1) :=
      ⟨(hbW3.cell (by exact hF3)).trans f3', (hbW3.cell (by exact hG3)).trans g30, (hbW3.cell (by exact hG3)).trans g31, by rw [hW3]; simp [go_sem], by rw [hW3]; simp [go_sem]⟩
    have HBW3 := hide ((unhide HB3).trans (hbW3.mono (unhide HB3).size))
    have hS : w3.heap.size < W3.heap.size := by omega
    have hG : w2.heap.size < W3.heap.size := by omega
    have hF : w1.heap.size < W3.heap.size := by omega
    have HBX := hide hbx
    obtain ⟨xf, xg0, xg1, xs0, xs1⟩ := hbx
    clear hW3 hbW3 f3' g30 g31 HB3 zW3
    refine wp_region_quiet (C := fun w' => Below W3.heap.size W3 w') (by kernel_rfl) (by kernel_rfl) ((Below.refl _ _).drew) ?_
    show wpQuiet _ _ _ _ [_, _, _, _, _, _, _, _, _, _, _, _, _, _, _, _, _, _, _, _] _
    refine wpQuiet_step (fun K hK => ?_)
    go_simp
    apply Exists.intro
    refine And.intro (fun w' hw' => ?_) (hK _ ?_)
    · obtain ⟨hc', hf'⟩ := bcell hw'
      go_simp
      first | rfl | exact ⟨rfl, rfl⟩ | exact ⟨rfl⟩
    clear hK K
    refine wpQuiet_step (fun K hK => ?_)
    go_simp
    apply Exists.intro
    refine And.intro (fun w' hw' => ?_) (hK _ ?_)
    · refine (implForestOk_nil _).mono ?_
      rintro e w'' ⟨rfl, hb⟩
      exact ⟨rfl, hw'.trans (hb.mono hw'.size)⟩
    clear hK K
    refine wpQuiet_step (fun K hK => ?_)
    go_simp
    apply Exists.intro
    refine And.intro (fun w' hw' => ?_) (hK _ ?_)
    · obtain ⟨hc', hf'⟩ := bcell hw'
      go_simp
      first | rfl | exact ⟨rfl, rfl⟩ | exact ⟨rfl⟩
    clear hK K
    refine wpQuiet_step (fun K hK => ?_)
    go_simp
    apply Exists.intro
    refine And.intro (fun w' hw' => ?_) (hK _ ?_)
    · refine (specForestOk_nil _).mono ?_
      rintro e w'' ⟨rfl, hb⟩
      exact ⟨rfl, hw'.trans (hb.mono hw'.size)⟩
    clear hK K
    refine wpQuiet_step (fun K hK => ?_)
    go_simp
    refine ⟨_, fun w' hw' => rfl, hK _ ?_⟩
    clear hK K
    refine wpQuiet_step (fun K hK => ?_)
    go_simp
    refine ⟨_, fun w' hw' => rfl, hK _ ?_⟩
    clear hK K
    refine wpQuiet_step (fun K hK => ?_)
    go_simp
    refine ⟨_, fun w' hw' => rfl, hK _ ?_⟩
    clear hK K
    refine wpQuiet_step (fun K hK => ?_)
    go_simp
    apply Exists.intro
    refine And.intro (fun w' hw' => ?_) (hK _ ?_)
    · obtain ⟨hc', hf'⟩ := bcell hw'
      go_simp
      first | rfl | exact ⟨rfl, rfl⟩ | exact ⟨rfl⟩
    clear hK K
    refine wpQuiet_step (fun K hK => ?_)
    go_simp
    refine ⟨_, fun w' hw' => rfl, hK _ ?_⟩
    clear hK K
    refine wpQuiet_step (fun K hK => ?_)
    go_simp
    apply Exists.intro
    refine And.intro (fun w' hw' => ?_) (hK _ ?_)
    · obtain ⟨hc', hf'⟩ := bcell hw'
      go_simp
      first | rfl | exact ⟨rfl, rfl⟩ | exact ⟨rfl⟩
    clear hK K
    refine wpQuiet_step (fun K hK => ?_)
    go_simp
    refine ⟨_, fun w' hw' => rfl, hK _ ?_⟩
    clear hK K
    refine wpQuiet_step (fun K hK => ?_)
    go_simp
    refine ⟨_, fun w' hw' => rfl, hK _ ?_⟩
    clear hK K
    refine wpQuiet_step (fun K hK => ?_)
    go_simp
    refine ⟨_, fun w' hw' => rfl, hK _ ?_⟩
    clear hK K
    refine wpQuiet_step (fun K hK => ?_)
    go_simp
    refine ⟨_, fun w' hw' => rfl, hK _ ?_⟩
    clear hK K
    refine wpQuiet_step (fun K hK => ?_)
    go_simp
    apply Exists.intro
    refine And.intro (fun w' hw' => ?_) (hK _ ?_)
    · obtain ⟨hc', hf'⟩ := bcell hw'
      go_simp
      first | rfl | exact ⟨rfl, rfl⟩ | exact ⟨rfl⟩
    clear hK K
    refine wpQuiet_step (fun K hK => ?_)
    go_simp
    refine ⟨_, fun w' hw' => rfl, hK _ ?_⟩
    clear hK K
    refine wpQuiet_step (fun K hK => ?_)
    go_simp
    apply Exists.intro
    refine And.intro (fun w' hw' => ?_) (hK _ ?_)
    · obtain ⟨hc', hf'⟩ := bcell hw'
      go_simp
      first | rfl | exact ⟨rfl, rfl⟩ | exact ⟨rfl⟩
    clear hK K
    refine wpQuiet_step (fun K hK => ?_)
    go_simp
    apply Exists.intro
    refine And.intro (fun w' hw' => ?_) (hK _ ?_)
    · refine (wForest_nil _).mono ?_
      rintro e w'' ⟨rfl, hb⟩
      exact ⟨rfl, hw'.trans (hb.mono hw'.size)⟩
    clear hK K
    refine wpQuiet_step (fun K hK => ?_)
    go_simp
    refine ⟨_, fun w' hw' => rfl, hK _ ?_⟩
    clear hK K
    refine wpQuiet_step (fun K hK => ?_)
    go_simp
    refine ⟨_, fun w' hw' => rfl, hK _ ?_⟩
    clear hK K
    refine wpQuiet_nil ?_
    intro w4 hw4
    have hbx4 := (unhide HBX).below hw4 hF hG hS
    have HB4 := hide ((unhide HBW3).trans (hw4.mono (unhide HBW3).size))
    clear hw4 xf xg0 xg1 xs0 xs1 HBX HBW3
    obtain ⟨xf, xg0, xg1, xs0, xs1⟩ := hbx4
    go_wp2
    go_ret
    exact ⟨rfl, unhide HB4⟩
  have hgl := hrow.lt
  have HR1 := hide hrow
  have hn' : n ≤ 1048576 := by omega
  clear hrow
  go_wp2_with fail
  obtain ⟨W1, hW1⟩ : ∃ W1, W1 = w1.alloc (.cells #[.slice (some ⟨g, 0, none⟩) n cp] 25) := ⟨_, rfl⟩
  rw [← hW1]
  have hbW1 : Below w1.heap.size w1 W1 := by rw [hW1]; exact (Below.refl _ _).alloc (Nat.le_refl _) _
  have zW1 : W1.heap.size = w1.heap.size + 1 := by rw [hW1]; simp
  have f1 : W1.cell? ⟨w1.heap.size, 0, none⟩ = some (.slice (some ⟨g, 0, none⟩) n cp) := by rw [hW1]; simp [go_sem]
  have HRW1 := hide ((unhide HR1).below hbW1 hgl)
  have HBW1 := hide ((unhide HB1).trans (hbW1.mono hz1))
  clear hW1 hbW1 HR1 HB1
  refine (implGrow_any g n cp s key f _ (unhide HRW1) hn' (by omega)).mono ?_
  rintro e w2 ⟨⟨v2, r, n', f', rfl, hgr, hv2⟩, hb2⟩
  obtain ⟨a2, cp2, rfl⟩ := hv2.form
  have z2 : W1.heap.size ≤ w2.heap.size := hb2.size
  have hF2 : w1.heap.size < w2.heap.size := by omega
  have hn3 : n' ≤ 1048576 := by have := hgr.bound; omega
  have f2 := (hb2.cell (p := ⟨w1.heap.size, 0, none⟩) (by show w1.heap.size < W1.heap.size; omega)).trans f1
  have HR2 := hide ((unhide HRW1).below hb2 (by omega))
  have HB2 := hide ((unhide HBW1).trans (hb2.mono (unhide HBW1).size))
  have HV2 := hide hv2
  have HGR := hide hgr
  clear hb2 hv2 hgr f1 HRW1 HBW1
  go_wp2_with fail
  obtain ⟨W2, hW2⟩ : ∃ W2, W2 = w2.alloc (.cells #[.slice a2 n' cp2, .int .i64 r] 29) := ⟨_, rfl⟩
  rw [← hW2]
  have hbW2 : Below w2.heap.size w2 W2 := by rw [hW2]; exact (Below.refl _ _).alloc (Nat.le_refl _) _
  have zW2 : W2.heap.size = w2.heap.size + 1 := by rw [hW2]; simp
  have g0 : W2.cell? ⟨w2.heap.size, 0, none⟩ = some (.slice a2 n' cp2) := by rw [hW2]; simp [go_sem]
  have g1 : W2.cell? ⟨w2.heap.size, 1, none⟩ = some (.int .i64 r) := by rw [hW2]; simp [go_sem]
  have f2' := (hbW2.cell (p := ⟨w1.heap.size, 0, none⟩) (by exact hF2)).trans f2
  have HRW2 := hide ((unhide HR2).below hbW2 (by omega))
  have HBW2 := hide ((unhide HB2).trans (hbW2.mono (unhide HB2).size))
  have HVW2 := hide ((unhide HV2).below hbW2 (Nat.le_refl _))
  clear hW2 hbW2 f2 HR2 HB2 HV2
  refine (specGrow_any g n cp s key f _ (unhide HRW2) hn' (by omega)).mono ?_
  rintro e w3 ⟨⟨v3, r3, n3, f3, rfl, hgr3, hv3⟩, hb3⟩
  obtain ⟨rfl, rfl, rfl⟩ := (unhide HGR).unique hgr3
  obtain ⟨a3, cp3, rfl⟩ := hv3.form
  have z3 : W2.heap.size ≤ w3.heap.size := hb3.size
  have hG3 : w2.heap.size < w3.heap.size := by omega
  have hF3 : w1.heap.size < w3.heap.size := by omega
  have f3' := (hb3.cell (p := ⟨w1.heap.size, 0, none⟩) (by show w1.heap.size < W2.heap.size; omega)).trans f2'
  have g30 := (hb3.cell (p := ⟨w2.heap.size, 0, none⟩) (by show w2.heap.size < W2.heap.size; omega)).trans g0
  have g31 := (hb3.cell (p := ⟨w2.heap.size, 1, none⟩) (by show w2.heap.size < W2.heap.size; omega)).trans g1
  have HR3 := hide ((unhide HRW2).below hb3 (by omega))
  have HB3 := hide ((unhide HBW2).trans (hb3.mono (unhide HBW2).size))
  have HV23 := hide ((unhide HVW2).below hb3 (by omega))
  have HV3 := hide hv3
  clear hb3 hv3 hgr3 g0 g1 f2' HRW2 HBW2 HVW2
  go_wp2
  obtain ⟨W3, hW3⟩ : ∃ W3, W3 = w3.alloc (.cells #[.slice a3 n' cp3, .int .i64 r] 29) := ⟨_, rfl⟩
  rw [← hW3]
  have hbW3 : Below w3.heap.size w3 W3 := by rw [hW3]; exact (Below.refl _ _).alloc (Nat.le_refl _) _
  have zW3 : W3.heap.size = w3.heap.size + 1 := by rw [hW3]; simp
  have hbx : Bx W3 w1.heap.size w2.heap.size w3.heap.size (.slice (some ⟨g, 0, none⟩) n cp) (.slice a2 n' cp2) (.slice a3 n' cp3) r :=
    ⟨(hbW3.cell (by exact hF3)).trans f3', (hbW3.cell (by exact hG3)).trans g30, (hbW3.cell (by exact hG3)).trans g31, by rw [hW3]; simp [go_sem], by rw [hW3]; simp [go_sem]⟩
  have HRW3 := hide ((unhide HR3).below hbW3 (by omega))
  have HBW3 := hide ((unhide HB3).trans (hbW3.mono (unhide HB3).size))
  have HV2W := hide ((unhide HV23).below hbW3 (by omega))
  have HV3W := hide ((unhide HV3).below hbW3 (Nat.le_refl _))
  have hS : w3.heap.size < W3.heap.size := by omega
  have hG : w2.heap.size < W3.heap.size := by omega
  have hF : w1.heap.size < W3.heap.size := by omega
  have hgW : g < W3.heap.size := by omega
  have HBX := hide hbx
  obtain ⟨xf, xg0, xg1, xs0, xs1⟩ := hbx
  have HZ := hide zW3
  clear hW3 hbW3 f3' g30 g31 HR3 HB3 HV23 HV3 zW3
  obtain ⟨ok, hok⟩ : ∃ ok, forestOk n f = ok := ⟨_, rfl⟩
  have HOKc := hide hok
  have HO1 : Hid (∀ w', Below W3.heap.size W3 w' → Calls Try.prog 8 #[.agg #[.slice (some ⟨g, 0, none⟩) n cp]] w' fun e w'' => e = .returned (.int .i64 ok) ∧ Below w'.heap.size w' w'') := hide (fun w' hb => by rw [← hok]; exact implForestOk g n cp f w' ((unhide HRW3).below hb hgW) hn')
  have HO2 : Hid (∀ w', Below W3.heap.size W3 w' → Calls Try.prog 9 #[.agg #[.slice (some ⟨g, 0, none⟩) n cp]] w' fun e w'' => e = .returned (.int .i64 ok) ∧ Below w'.heap.size w' w'') := hide (fun w' hb => by rw [← hok]; exact specForestOk g n cp f w' ((unhide HRW3).below hb hgW) hn')
  have HO3 : Hid (∀ w', Below W3.heap.size W3 w' → Calls Try.prog 10 #[.agg #[.slice a2 n' cp2], .agg #[.slice a3 n' cp3]] w' fun e w'' => e = .returned (.bool true) ∧ Below w'.heap.size w' w'') := hide (fun w' hb => by
    rcases (unhide HV2W).below hb (by omega) with ⟨h0, h1⟩ | ⟨h0, b2, c2, h1, _, _, h2⟩
    · rcases (unhide HV3W).below hb (by omega) with ⟨_, h3⟩ | ⟨h3, _⟩
      · rw [h1, h3]; exact wForest_nil w'
      · omega
    · rcases (unhide HV3W).below hb (by omega) with ⟨h3, _⟩ | ⟨_, b3, c3, h4, _, _, h5⟩
      · omega
      · rw [h1, h4]; exact wForest_in b2 b3 n' c2 c3 f' w' h2 h5 hn3)
  clear hok
  refine wp_region_quiet (C := fun w' => Below W3.heap.size W3 w') (by kernel_rfl) (by kernel_rfl) ((Below.refl _ _).drew) ?_
  show wpQuiet _ _ _ _ [_, _, _, _, _, _, _, _, _, _, _, _, _, _, _, _, _, _, _, _] _
  refine wpQuiet_step (fun K hK => ?_)
  go_simp
  apply Exists.intro
  refine And.intro (fun w' hw' => ?_) (hK _ ?_)
  · obtain ⟨hc', hf'⟩ := bcell hw'
    go_simp
    first | rfl | exact ⟨rfl, rfl⟩ | exact ⟨rfl⟩
  clear hK K
  refine wpQuiet_step (fun K hK => ?_)
  go_simp
  apply Exists.intro
  refine And.intro (fun w' hw' => ?_) (hK _ ?_)
  · refine ((unhide HO1) _ hw').mono ?_
    rintro e w'' ⟨rfl, hb⟩
    exact ⟨rfl, hw'.trans (hb.mono hw'.size)⟩
  clear hK K
  refine wpQuiet_step (fun K hK => ?_)
  go_simp
  apply Exists.intro
  refine And.intro (fun w' hw' => ?_) (hK _ ?_)
  · obtain ⟨hc', hf'⟩ := bcell hw'
    go_simp
    first | rfl | exact ⟨rfl, rfl⟩ | exact ⟨rfl⟩
  clear hK K
  refine wpQuiet_step (fun K hK => ?_)
  go_simp
  apply Exists.intro
  refine And.intro (fun w' hw' => ?_) (hK _ ?_)
  · refine ((unhide HO2) _ hw').mono ?_
    rintro e w'' ⟨rfl, hb⟩
    exact ⟨rfl, hw'.trans (hb.mono hw'.size)⟩
  clear hK K
  refine wpQuiet_step (fun K hK => ?_)
  go_simp
  refine ⟨_, fun w' hw' => rfl, hK _ ?_⟩
  clear hK K
  refine wpQuiet_step (fun K hK => ?_)
  go_simp
  refine ⟨_, fun w' hw' => rfl, hK _ ?_⟩
  clear hK K
  refine wpQuiet_step (fun K hK => ?_)
  go_simp
  refine ⟨_, fun w' hw' => rfl, hK _ ?_⟩
  clear hK K
  refine wpQuiet_step (fun K hK => ?_)
  go_simp
  apply Exists.intro
  refine And.intro (fun w' hw' => ?_) (hK _ ?_)
  · obtain ⟨hc', hf'⟩ := bcell hw'
    go_simp
    first | rfl | exact ⟨rfl, rfl⟩ | exact ⟨rfl⟩
  clear hK K
  refine wpQuiet_step (fun K hK => ?_)
  go_simp
  refine ⟨_, fun w' hw' => rfl, hK _ ?_⟩
  clear hK K
  refine wpQuiet_step (fun K hK => ?_)
  go_simp
  apply Exists.intro
  refine And.intro (fun w' hw' => ?_) (hK _ ?_)
  · obtain ⟨hc', hf'⟩ := bcell hw'
    go_simp
    first | rfl | exact ⟨rfl, rfl⟩ | exact ⟨rfl⟩
  clear hK K
  refine wpQuiet_step (fun K hK => ?_)
  go_simp
  refine ⟨_, fun w' hw' => rfl, hK _ ?_⟩
  clear hK K
  refine wpQuiet_step (fun K hK => ?_)
  go_simp
  refine ⟨_, fun w' hw' => rfl, hK _ ?_⟩
  clear hK K
  refine wpQuiet_step (fun K hK => ?_)
  go_simp
  refine ⟨_, fun w' hw' => rfl, hK _ ?_⟩
  clear hK K
  refine wpQuiet_step (fun K hK => ?_)
  go_simp
  refine ⟨_, fun w' hw' => rfl, hK _ ?_⟩
  clear hK K
  refine wpQuiet_step (fun K hK => ?_)
  go_simp
  apply Exists.intro
  refine And.intro (fun w' hw' => ?_) (hK _ ?_)
  · obtain ⟨hc', hf'⟩ := bcell hw'
    go_simp
    first | rfl | exact ⟨rfl, rfl⟩ | exact ⟨rfl⟩
  clear hK K
  refine wpQuiet_step (fun K hK => ?_)
  go_simp
  refine ⟨_, fun w' hw' => rfl, hK _ ?_⟩
  clear hK K
  refine wpQuiet_step (fun K hK => ?_)
  go_simp
  apply Exists.intro
  refine And.intro (fun w' hw' => ?_) (hK _ ?_)
  · obtain ⟨hc', hf'⟩ := bcell hw'
    go_simp
    first | rfl | exact ⟨rfl, rfl⟩ | exact ⟨rfl⟩
  clear hK K
  refine wpQuiet_step (fun K hK => ?_)
  go_simp
  apply Exists.intro
  refine And.intro (fun w' hw' => ?_) (hK _ ?_)
  · refine ((unhide HO3) _ hw').mono ?_
    rintro e w'' ⟨rfl, hb⟩
    exact ⟨rfl, hw'.trans (hb.mono hw'.size)⟩
  clear hK K
  refine wpQuiet_step (fun K hK => ?_)
  go_simp
  refine ⟨_, fun w' hw' => rfl, hK _ ?_⟩
  clear hK K
  refine wpQuiet_step (fun K hK => ?_)
  go_simp
  refine ⟨_, fun w' hw' => rfl, hK _ ?_⟩
  clear hK K
  refine wpQuiet_nil ?_
  intro w4 hw4
  have z34 : W3.heap.size ≤ w4.heap.size := hw4.size
  have hbx4 := (unhide HBX).below hw4 hF hG hS
  have HR4 := hide ((unhide HRW3).below hw4 hgW)
  have HB4 := hide ((unhide HBW3).trans (hw4.mono (unhide HBW3).size))
  have HV4 := hide ((unhide HV2W).below hw4 (by have := unhide HZ; omega))
  have HBX4 := hide hbx4
  clear hw4 xf xg0 xg1 xs0 xs1 HO1 HO2 HO3 HOKc HBX HRW3 HBW3 HV2W HV3W
  obtain ⟨xf, xg0, xg1, xs0, xs1⟩ := hbx4
  by_cases hr : r < 0
  · go_wp2
    go_ret
    exact ⟨rfl, unhide HB4⟩
  obtain ⟨k, q, hsk, hrq, hk, hq, hok1, hok2, hks4, hnf, hlast, hfld, hgr'⟩ := grown_facts (unhide HGR) (by omega)
  subst hsk
  subst hrq
  have hgood1 : Good n f k := ⟨hok1, by omega, by omega⟩
  have hgood2 : Good n' f' q := ⟨hok2, by omega, by omega⟩
  obtain ⟨_, r2, r3, _, r5⟩ := forestOk_zero hok2
  have hat : plcI f' q key = nf f k := plc_at r2 r3 r5 hq key (by omega) hlast
  have hats : ∀ j, j < nf f k → plcI f' q (fld f k j) = j := fun j hj => plc_at r2 r3 r5 hq _ (by omega) (by rw [hfld j hj])
  have hnf12 : nf f k ≤ 12 := by
    obtain ⟨_, p2, p3, _⟩ := forestOk_zero hok1
    have := (count_bound (k := n) p2 (fun j a b => p3 j a b) k hk).2
    unfold nf; omega
  obtain ⟨b2, c2, hab, hb2, hrow2⟩ : ∃ b2 c2, a2 = some ⟨b2, 0, none⟩ ∧ b2 < w4.heap.size ∧ ShRow w4 b2 n' f' := by
    rcases unhide HV4 with ⟨h, _⟩ | ⟨_, b2, c2, h, _, _, h5⟩
    · omega
    · simp only [Value.slice.injEq] at h
      exact ⟨b2, c2, h.1, h5.lt, h5⟩
  subst hab
  have hG4 : w2.heap.size < w4.heap.size := by omega
  have hF4 : w1.heap.size < w4.heap.size := by omega
  have hS4 : w3.heap.size < w4.heap.size := by omega
  have HG1 := hide hgood1
  have HG2 := hide hgood2
  have HAT := hide hat
  have HATS := hide hats
  have HNF := hide hnf
  have HLAST := hide hlast
  have HFLD := hide hfld
  have HGR2 := hide hgr'
  have HOK2 := hide hok2
  have HRW := hide hrow2
  obtain ⟨m, hm⟩ : ∃ m, nf f k = m := ⟨_, rfl⟩
  rw [hm] at hnf12
  have HM := hide hm
  clear hgood1 hgood2 hat hats hnf hlast hfld hgr' hok1 hok2 hrow2 r2 r3 r5 hm HV4 HGR hr
  go_wp2_with fail
  refine (implFields_good (unhide HR4) hn' (unhide HG1)).mono ?_
  rintro e w5 ⟨⟨m5, rfl, hr5⟩, hb5⟩
  rw [unhide HM] at hr5 ⊢
  have z45 : w4.heap.size ≤ w5.heap.size := hb5.size
  have hbx5 := (unhide HBX4).below hb5 hF4 hG4 hS4
  have HRW5 := hide ((unhide HRW).below hb5 hb2)
  have HB5 := hide ((unhide HB4).trans (hb5.mono (unhide HB4).size))
  have HBX5 := hide hbx5
  have HA5 := hide hr5
  have hm5 := World.rowIs.lt hr5
  clear hb5 hr5 HR4 HRW HB4 HBX4 xf xg0 xg1 xs0 xs1
  obtain ⟨xf, xg0, xg1, xs0, xs1⟩ := hbx5
  go_wp2_with fail
  refine (implFields_good (unhide HRW5) hn3 (unhide HG2)).mono ?_
  rintro e w6 ⟨⟨m6, rfl, hr6⟩, hb6⟩
  rw [unhide HNF, unhide HM] at hr6 ⊢
  have z56 : w5.heap.size ≤ w6.heap.size := hb6.size
  have hbx6 := (unhide HBX5).below hb6 (by omega) (by omega) (by omega)
  have HRW6 := hide ((unhide HRW5).below hb6 (by omega))
  have HB6 := hide ((unhide HB5).trans (hb6.mono (unhide HB5).size))
  have HBX6 := hide hbx6
  have HA6 : Hid (StRow w6 m5 m (fld f k)) := hide (World.rowIs.of_block (unhide HA5) (hb6.block m5 hm5))
  have hm6 := World.rowIs.lt hr6
  have hm56 : m5 < w6.heap.size := by omega
  have d6 : w6.cell? ⟨m6, m, none⟩ = some (.string (fld f' q m)) := World.rowIs.cell hr6 (by omega)
  have hl : ((fld f' q m).toList == key.toList) = true := by
    have := unhide HLAST
    rw [unhide HM] at this
    simp [this]
  have HC6 := hide hr6
  clear hb6 hr6 HRW5 HB5 HBX5 HA5 xf xg0 xg1 xs0 xs1
  obtain ⟨xf, xg0, xg1, xs0, xs1⟩ := hbx6
  go_wp2_with fail
  refine (implFieldAt_good (unhide HRW6) hn3 (unhide HG2)).mono ?_
  rintro e w7 ⟨rfl, hb7⟩
  rw [unhide HAT, unhide HM]
  have z67 : w6.heap.size ≤ w7.heap.size := hb7.size
  have hbx7 := (unhide HBX6).below hb7 (by omega) (by omega) (by omega)
  have HRW7 := hide ((unhide HRW6).below hb7 (by omega))
  have HB7 := hide ((unhide HB6).trans (hb7.mono (unhide HB6).size))
  have HBX7 := hide hbx7
  have HA7 : Hid (StRow w7 m5 m (fld f k)) := hide (World.rowIs.of_block (unhide HA6) (hb7.block m5 hm56))
  have HC7 : Hid (StRow w7 m6 (m + 1) (fld f' q)) := hide (World.rowIs.of_block (unhide HC6) (hb7.block m6 hm6))
  have hm57 : m5 < w7.heap.size := by omega
  have hm67 : m6 < w7.heap.size := by omega
  clear hb7 HRW6 HB6 HBX6 HA6 HC6 xf xg0 xg1 xs0 xs1 d6 hl
  obtain ⟨xf, xg0, xg1, xs0, xs1⟩ := hbx7
  go_wp2_with fail
  refine (implForestOk b2 n' cp2 f' _ (unhide HRW7) hn3).mono ?_
  rintro e w8 ⟨rfl, hb8⟩
  rw [unhide HOK2]
  have z78 : w7.heap.size ≤ w8.heap.size := hb8.size
  have hbx8 := (unhide HBX7).below hb8 (by omega) (by omega) (by omega)
  have HRW8 := hide ((unhide HRW7).below hb8 (by omega))
  have HB8 := hide ((unhide HB7).trans (hb8.mono (unhide HB7).size))
  have HBX8 := hide hbx8
  have HA8 : Hid (StRow w8 m5 m (fld f k)) := hide (World.rowIs.of_block (unhide HA7) (hb8.block m5 hm57))
  have HC8 : Hid (StRow w8 m6 (m + 1) (fld f' q)) := hide (World.rowIs.of_block (unhide HC7) (hb8.block m6 hm67))
  have hb28 : b2 < w8.heap.size := by omega
  have hm58 : m5 < w8.heap.size := by omega
  have hm68 : m6 < w8.heap.size := by omega
  have hF8 : w1.heap.size < w8.heap.size := by omega
  have hG8 : w2.heap.size < w8.heap.size := by omega
  have hS8 : w3.heap.size < w8.heap.size := by omega
  clear hb8 hbx8 HRW7 HB7 HBX7 HA7 HC7 xf xg0 xg1 xs0 xs1
  go_wp2
  go_loopw [93] (fun v wr => ∃ j : Nat, j ≤ m ∧ v = .int .i64 j ∧ Below w8.heap.size w8 wr) (fun v _ => m - (intOf v).toNat)
  case atStart => exact ⟨0, by omega, rfl, Below.refl _ _⟩
  case round =>
    obtain ⟨j, hj, rfl, hbj⟩ := hrel
    have zr : w8.heap.size ≤ wr.heap.size := hbj.size
    have hbxj := (unhide HBX8).below hbj hF8 hG8 hS8
    have HRWj := hide ((unhide HRW8).below hbj hb28)
    have HAj : Hid (StRow wr m5 m (fld f k)) := hide (World.rowIs.of_block (unhide HA8) (hbj.block m5 hm58))
    have HCj : Hid (StRow wr m6 (m + 1) (fld f' q)) := hide (World.rowIs.of_block (unhide HC8) (hbj.block m6 hm68))
    have hGj : w2.heap.size < wr.heap.size := by omega
    have hb2j : b2 < wr.heap.size := by omega
    have hm5j : m5 < wr.heap.size := by omega
    have hm6j : m6 < wr.heap.size := by omega
    obtain ⟨xf, xg0, xg1, xs0, xs1⟩ := hbxj
    have HBJ := hide hbj
    clear hbj
    by_cases hjm : j < m
    · have c0 : wr.cell? ⟨m5, j, none⟩ = some (.string (fld f k j)) := World.rowIs.cell (unhide HAj) hjm
      have c1 : wr.cell? ⟨m6, j, none⟩ = some (.string (fld f k j)) := by
        have := World.rowIs.cell (unhide HCj) (show j < m + 1 by omega)
        rw [this, unhide HFLD j (by rw [unhide HM]; exact hjm)]
      have hpj : plcI f' q (fld f k j) = j := unhide HATS j (by rw [unhide HM]; exact hjm)
      have HFA : Hid (∀ w', Below wr.heap.size wr w' → Calls Try.prog 12 #[.agg #[.slice (some ⟨b2, 0, none⟩) n' cp2], .int .i64 (q : Int), .string (fld f k j)] w' fun e w'' => e = .returned (.int .i64 (j : Int)) ∧ Below w'.heap.size w' w'') := hide (fun w' hb => by rw [← hpj]; exact implFieldAt_good ((unhide HRWj).below hb hb2j) hn3 (unhide HG2))
      have hj1 : (j : Int) < (m : Int) + 1 := by omega
      clear hpj
      go_wp2
      refine wp_region_quiet (C := fun w' => Below wr.heap.size wr w') (by kernel_rfl) (by kernel_rfl) ((Below.refl _ _).drew) ?_
      show wpQuiet _ _ _ _ [_, _, _, _, _, _, _, _, _, _, _, _, _, _, _, _, _, _, _, _, _, _] _
      refine wpQuiet_step (fun K hK => ?_)
      go_simp
      refine ⟨_, fun w' hw' => rfl, hK _ ?_⟩
      clear hK K
      refine wpQuiet_step (fun K hK => ?_)
      go_simp
      refine ⟨_, fun w' hw' => rfl, hK _ ?_⟩
      clear hK K
      refine wpQuiet_step (fun K hK => ?_)
      go_simp
      refine ⟨_, fun w' hw' => rfl, hK _ ?_⟩
      clear hK K
      refine wpQuiet_step (fun K hK => ?_)
      go_simp
      apply Exists.intro
      refine And.intro (fun w' hw' => ?_) (hK _ ?_)
      · obtain ⟨hc', hf'⟩ := bcell hw'
        go_simp
        first | rfl | exact ⟨rfl, rfl⟩ | exact ⟨rfl⟩
      clear hK K
      refine wpQuiet_step (fun K hK => ?_)
      go_simp
      refine ⟨_, fun w' hw' => rfl, hK _ ?_⟩
      clear hK K
      refine wpQuiet_step (fun K hK => ?_)
      go_simp
      refine ⟨_, fun w' hw' => rfl, hK _ ?_⟩
      clear hK K
      refine wpQuiet_step (fun K hK => ?_)
      go_simp
      refine ⟨_, fun w' hw' => rfl, hK _ ?_⟩
      clear hK K
      refine wpQuiet_step (fun K hK => ?_)
      go_simp
      apply Exists.intro
      refine And.intro (fun w' hw' => ?_) (hK _ ?_)
      · obtain ⟨hc', hf'⟩ := bcell hw'
        go_simp
        first | rfl | exact ⟨rfl, rfl⟩ | exact ⟨rfl⟩
      clear hK K
      refine wpQuiet_step (fun K hK => ?_)
      go_simp
      refine ⟨_, fun w' hw' => rfl, hK _ ?_⟩
      clear hK K
      refine wpQuiet_step (fun K hK => ?_)
      go_simp
      refine ⟨_, fun w' hw' => rfl, hK _ ?_⟩
      clear hK K
      refine wpQuiet_step (fun K hK => ?_)
      go_simp
      refine ⟨_, fun w' hw' => rfl, hK _ ?_⟩
      clear hK K
      refine wpQuiet_step (fun K hK => ?_)
      go_simp
      apply Exists.intro
      refine And.intro (fun w' hw' => ?_) (hK _ ?_)
      · obtain ⟨hc', hf'⟩ := bcell hw'
        go_simp
        first | rfl | exact ⟨rfl, rfl⟩ | exact ⟨rfl⟩
      clear hK K
      refine wpQuiet_step (fun K hK => ?_)
      go_simp
      refine ⟨_, fun w' hw' => rfl, hK _ ?_⟩
      clear hK K
      refine wpQuiet_step (fun K hK => ?_)
      go_simp
      apply Exists.intro
      refine And.intro (fun w' hw' => ?_) (hK _ ?_)
      · obtain ⟨hc', hf'⟩ := bcell hw'
        go_simp
        first | rfl | exact ⟨rfl, rfl⟩ | exact ⟨rfl⟩
      clear hK K
      refine wpQuiet_step (fun K hK => ?_)
      go_simp
      refine ⟨_, fun w' hw' => rfl, hK _ ?_⟩
      clear hK K
      refine wpQuiet_step (fun K hK => ?_)
      go_simp
      refine ⟨_, fun w' hw' => rfl, hK _ ?_⟩
      clear hK K
      refine wpQuiet_step (fun K hK => ?_)
      go_simp
      refine ⟨_, fun w' hw' => rfl, hK _ ?_⟩
      clear hK K
      refine wpQuiet_step (fun K hK => ?_)
      go_simp
      apply Exists.intro
      refine And.intro (fun w' hw' => ?_) (hK _ ?_)
      · obtain ⟨hc', hf'⟩ := bcell hw'
        go_simp
        first | rfl | exact ⟨rfl, rfl⟩ | exact ⟨rfl⟩
      clear hK K
      refine wpQuiet_step (fun K hK => ?_)
      go_simp
      apply Exists.intro
      refine And.intro (fun w' hw' => ?_) (hK _ ?_)
      · refine ((unhide HFA) _ hw').mono ?_
        rintro e w'' ⟨rfl, hb⟩
        exact ⟨rfl, hw'.trans (hb.mono hw'.size)⟩
      clear hK K
      refine wpQuiet_step (fun K hK => ?_)
      go_simp
      refine ⟨_, fun w' hw' => rfl, hK _ ?_⟩
      clear hK K
      refine wpQuiet_step (fun K hK => ?_)
      go_simp
      refine ⟨_, fun w' hw' => rfl, hK _ ?_⟩
      clear hK K
      refine wpQuiet_step (fun K hK => ?_)
      go_simp
      refine ⟨_, fun w' hw' => rfl, hK _ ?_⟩
      clear hK K
      refine wpQuiet_nil ?_
      intro w9 hw9
      have HB9 := hide ((unhide HBJ).trans (hw9.mono (unhide HBJ).size))
      clear hw9 c0 c1 xf xg0 xg1 xs0 xs1 HFA
      go_wp2
      go_roundw
      case rel => exact ⟨j + 1, by omega, by go_num, unhide HB9⟩
      case measure => simp [intOf]; omega
    · have HRd : Hid (ShRow wr.drew b2 n' f') := hide (unhide HRWj)
      have HBd : Hid (Below w.heap.size w wr.drew) := hide ((unhide HB8).trans ((unhide HBJ).mono (unhide HB8).size)).drew
      have hfd := field_shape
      have xgd : wr.drew.cell? ⟨w2.heap.size, 1, none⟩ = some (.int .i64 (q : Int)) := xg1
      go_wp2
      go_region_law (first
        | (go_simp; go_at_call 6; refine (implGrow_any b2 n' cp2 (k : Int) key f' _ (unhide HRd) hn3 (by omega)).mono ?_; rintro e w9 ⟨⟨v9, r9, n9, f9, rfl, hgr9, hv9⟩, hb9⟩; have hr9 : r9 = (q : Int) := ((unhide HGR2).unique hgr9).2.2.symm; subst hr9; obtain ⟨a9, cp9, rfl⟩ := hv9.form; have xg9 := (hb9.cell (p := ⟨w2.heap.size, 1, none⟩) hGj).trans xgd; have HB9 := hide ((unhide HBd).trans (hb9.mono (unhide HBd).size)); clear hb9 hv9 hgr9))
      all_goals
        go_wp2
        go_ret
        exact ⟨rfl, unhide HB9⟩
end Go.Proofs.Ytgiegkigfokdmaa
