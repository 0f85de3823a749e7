/-
  Shapes in the first cells of a greater block: compared, marked, held.
-/
import Derived.Test.YtgiegkigfokdmabFoE
import Derived.Test.YtgiegkigfokdmabFoI
namespace Go.Proofs.Ytgiegkigfokdmab
open Go.RowKit
set_option linter.unusedVariables false

abbrev ShIn (w : World) (b n : Nat) (f : Nat → Shp) : Prop := ShRow w b n f
theorem ShIn.lt {w : World} {b n : Nat} {f : Nat → Shp} (h : ShIn w b n f) : b < w.heap.size := ShRow.lt h
theorem ShIn.cells {w : World} {b n : Nat} {f : Nat → Shp} (h : ShIn w b n f) {i : Nat} (hi : i < n) :
    w.cell? ⟨b, i * 3, none⟩ = some (.int .i64 (f i).parent) ∧ w.cell? ⟨b, i * 3 + 1, none⟩ = some (.string (f i).key) ∧ w.cell? ⟨b, i * 3 + 2, none⟩ = some (.int .i64 (f i).count) := ShRow.cells h hi
theorem ShIn.of_block {w w' : World} {b n : Nat} {f : Nat → Shp} (h : ShIn w b n f) (e : w'.heap[b]? = w.heap[b]?) : ShIn w' b n f := ShRow.of_block h e
theorem ShIn.below {w w' : World} {B b n : Nat} {f : Nat → Shp} (h : ShIn w b n f) (hb : Below B w w') (hB : b < B) : ShIn w' b n f := ShRow.below h hb hB

theorem ShOwn.in {w : World} {base b n cp : Nat} {f : Nat → Shp} (h : ShOwn w base (.slice (some ⟨b, 0, none⟩) n cp) n f) : base ≤ b ∧ ShIn w b n f := by
  obtain ⟨hl, ⟨hv, _⟩ | ⟨g', cap, cur, hv, hb, hblk, h1, h2, h3, h4⟩⟩ := h
  · cases hv
  · cases hv
    refine ⟨hb, cp * 3, fun j => (cur[j]?).getD undef, by omega, ⟨cur, hblk, h3, fun i hi => by simp [Array.getElem?_eq_getElem (show i < cur.size by omega)]⟩, fun j hj => ?_⟩
    have h5 := shL_get (f := f) hj
    rw [← h4, List.getElem?_take, if_pos hj] at h5
    show (cur[j]?).getD undef = _
    rw [← Array.getElem?_toList, h5]
    rfl

set_option maxHeartbeats 1000000 in
theorem eqShapeS_in (b b' n cap cap' : Nat) (f g : Nat → Shp) (w : World) (hA : ShIn w b n f) (hB : ShIn w b' n g) (hn : n ≤ 1048576) (hs : same3 n f g) :
    Calls Try.prog 34 #[.slice (some ⟨b, 0, none⟩) n cap, .slice (some ⟨b', 0, none⟩) n cap'] w fun e w' => e = .returned (.bool true) ∧ Below w.heap.size w w' := by
  have hl := hA.lt
  have hl' := hB.lt
  have HA := hide hA
  have HB := hide hB
  have HS := hide hs
  clear hA hB hs
  go_enter Try.func34, Try.ntmps34
  go_wp2
  go_loopw [5] (fun i wr => ∃ (k : Nat), k ≤ n ∧ i = .int .i64 k ∧ Below w.heap.size w wr) (fun i _ => n - (intOf i).toNat)
  case atStart => exact ⟨0, by omega, rfl, Below.refl _ _⟩
  case round =>
    obtain ⟨k, hk, rfl, hb⟩ := hrel
    go_wp2
    · have hlt : k < n := by assumption
      obtain ⟨c0, c1, c2⟩ := ((unhide HA).below hb hl).cells hlt
      obtain ⟨d0, d1, d2⟩ := ((unhide HB).below hb hl').cells hlt
      have hx : b < wr.heap.size := Nat.lt_of_lt_of_le hl hb.size
      have hx' : b' < wr.heap.size := Nat.lt_of_lt_of_le hl' hb.size
      have HBW := hide hb
      clear hb
      refine wp_region_quiet (C := fun w' => Below wr.heap.size wr w') (by kernel_rfl) (by kernel_rfl) ((Below.refl _ _).drew) ?_
      show wpQuiet _ _ _ _ [_, _, _, _, _, _, _, _, _, _] _
      refine wpQuiet_step (fun K hK => ?_)
      go_simp
      refine ⟨_, fun w' hw' => rfl, hK _ ?_⟩
      clear hK K
      refine wpQuiet_step (fun K hK => ?_)
      go_simp
      refine ⟨_, fun w' hw' => rfl, hK _ ?_⟩
      clear hK K
      refine wpQuiet_step (fun K hK => ?_)
      go_simp
      refine ⟨_, fun w' hw' => rfl, hK _ ?_⟩
      clear hK K
      refine wpQuiet_step (fun K hK => ?_)
      go_simp
      apply Exists.intro
      refine And.intro (fun w' hw' => ?_) (hK _ ?_)
      · obtain ⟨hc', hf'⟩ := bcell hw'
        go_simp
        first | rfl | exact ⟨rfl, rfl⟩ | exact ⟨rfl⟩
      clear hK K
      refine wpQuiet_step (fun K hK => ?_)
      go_simp
      refine ⟨_, fun w' hw' => rfl, hK _ ?_⟩
      clear hK K
      refine wpQuiet_step (fun K hK => ?_)
      go_simp
      refine ⟨_, fun w' hw' => rfl, hK _ ?_⟩
      clear hK K
      refine wpQuiet_step (fun K hK => ?_)
      go_simp
      refine ⟨_, fun w' hw' => rfl, hK _ ?_⟩
      clear hK K
      refine wpQuiet_step (fun K hK => ?_)
      go_simp
      apply Exists.intro
      refine And.intro (fun w' hw' => ?_) (hK _ ?_)
      · obtain ⟨hc', hf'⟩ := bcell hw'
        go_simp
        first | rfl | exact ⟨rfl, rfl⟩ | exact ⟨rfl⟩
      clear hK K
      refine wpQuiet_step (fun K hK => ?_)
      go_simp
      apply Exists.intro
      refine And.intro (fun w' hw' => ?_) (hK _ ?_)
      · refine (eqShape_any (f k).parent (g k).parent (f k).key (g k).key (f k).count (g k).count _).mono ?_
        rintro e w'' ⟨rfl, hb⟩
        exact ⟨rfl, hw'.trans (hb.mono hw'.size)⟩
      clear hK K
      refine wpQuiet_step (fun K hK => ?_)
      go_simp
      refine ⟨_, fun w' hw' => rfl, hK _ ?_⟩
      clear hK K
      refine wpQuiet_nil ?_
      intro w2 hw2
      have hb2 : Below w.heap.size w w2 := (unhide HBW).trans (hw2.mono (unhide HBW).size)
      obtain ⟨s0, s1, s2⟩ := unhide HS k hlt
      have HB2 := hide hb2
      clear hw2 hb2 c0 c1 c2 d0 d1 d2
      rw [s0, s1, s2]
      simp only [beq_self_eq_true, Bool.and_self]
      go_wp2
      go_roundw
      case rel => exact ⟨k + 1, by omega, by go_num, unhide HB2⟩
      case measure => simp [intOf]; omega
    · have : k = n := by omega
      subst this
      go_ret
      exact ⟨rfl, hb⟩

/-- What a marked shape is. -/
def mk (i : Nat) : Shp := ⟨1 + 3 * (i : Int), mark (2 + 3 * i), 3 + 3 * (i : Int)⟩

set_option maxRecDepth 100000 in
set_option maxHeartbeats 1000000 in
theorem markShapeS_in (b n cap : Nat) (f : Nat → Shp) (w : World) (hA : ShIn w b n f) (hn : n ≤ 1048576) :
    Calls Try.prog 39 #[.slice (some ⟨b, 0, none⟩) n cap, .int .i64 1] w fun e w' => e = .returned (.int .i64 (1 + 3 * (n : Int))) ∧ But b w w' ∧ ShIn w' b n mk := by
  obtain ⟨N, g, hN, hA, _⟩ := hA
  have HA := hide hA
  clear hA
  go_enter Try.func39, Try.ntmps39
  go_wp2
  go_loopw [1, 5] (fun q i wr => ∃ (k : Nat) (g : Nat → Value), k ≤ n ∧ i = .int .i64 k ∧ q = .int .i64 ((1 + 3 * k : Nat) : Int) ∧ But b w wr ∧ wr.rowIs b 56 N g ∧ ∀ j, j < k * 3 → g j = cellOf mk j) (fun _ i _ => n - (intOf i).toNat)
  case atStart => exact ⟨0, g, by omega, rfl, rfl, But.refl _ _, unhide HA, fun j hj => by omega⟩
  case round =>
    obtain ⟨k, g, hk, rfl, rfl, hb, hr, hall⟩ := hrel
    have d0 : k < n → wr.cell? ⟨b, k * 3, none⟩ = some (g (k * 3)) := fun h => hr.cell (by omega)
    have d1 : k < n → wr.cell? ⟨b, k * 3 + 1, none⟩ = some (g (k * 3 + 1)) := fun h => hr.cell (by omega)
    have d2 : k < n → wr.cell? ⟨b, k * 3 + 2, none⟩ = some (g (k * 3 + 2)) := fun h => hr.cell (by omega)
    have e0 := hr.frozen (k * 3)
    have e1 := hr.frozen (k * 3 + 1)
    have e2 := hr.frozen (k * 3 + 2)
    have hlr := hr.lt
    have HB := hide hb
    have HR := hide hr
    have HALL := hide hall
    clear hb hr hall
    go_wp2_with fail
    · have hlt : k < n := by assumption
      have hmt := markText_any (2 + 3 * k) (by omega) (wr.setCell ⟨b, k * 3, none⟩ (.int .i64 (1 + 3 * (k : Int))))
      rw [show ((2 + 3 * k : Nat) : Int) = 1 + 3 * (k : Int) + 1 by omega] at hmt
      refine hmt.mono ?_
      rintro e w1 ⟨rfl, hb1⟩
      have hr1 := ((unhide HR).set (k * 3) (.int .i64 (1 + 3 * (k : Int)))).of_block (hb1.block b (by simpa using hlr))
      have f1 := hr1.cell (i := k * 3 + 1) (by omega)
      have f2 := hr1.cell (i := k * 3 + 2) (by omega)
      have f3 := hr1.frozen (k * 3 + 1)
      have f4 := hr1.frozen (k * 3 + 2)
      have HB1 := hide ((unhide HB).trans ((But.set b (k * 3) wr (.int .i64 (1 + 3 * (k : Int)))).trans (But.of hb1)))
      have HR1 := hide hr1
      clear hmt hb1 hr1 d0 d1 d2 e0 e1 e2
      go_wp2
      go_roundw
      case rel =>
        refine ⟨k + 1, _, by omega, by go_num, by go_num, ((unhide HB1).trans (But.set b _ _ _)).trans (But.set b _ _ _), ((unhide HR1).set _ _).set _ _, fun j hj => ?_⟩
        by_cases j2 : j = k * 3 + 2
        · subst j2
          rw [cellOf2]
          simp [mk]
          omega
        · by_cases j1 : j = k * 3 + 1
          · subst j1
            rw [cellOf1]
            simp [mk]
          · by_cases j0 : j = k * 3
            · subst j0
              rw [cellOf0]
              simp [mk]
            · simp only [j0, j1, j2, if_false]
              exact unhide HALL j (by omega)
      case measure => simp [intOf]; omega
    · have : k = n := by omega
      subst this
      go_ret
      exact ⟨by show Ending.returned (Value.int .i64 ((1 + 3 * k : Nat) : Int)) = _; congr 2, unhide HB, N, g, hN, unhide HR, unhide HALL⟩

set_option maxRecDepth 100000 in
set_option maxHeartbeats 1000000 in
theorem heldShapeS_in (b n cap : Nat) (w : World) (hA : ShIn w b n mk) (hn : n ≤ 1048576) :
    Calls Try.prog 63 #[.slice (some ⟨b, 0, none⟩) n cap, .int .i64 1] w fun e w' => e = .returned (.int .i64 (1 + 3 * (n : Int))) ∧ Below w.heap.size w w' := by
  have hl := hA.lt
  have HA := hide hA
  clear hA
  go_enter Try.func63, Try.ntmps63
  go_wp2
  go_loopw [1, 5] (fun q i wr => ∃ (k : Nat), k ≤ n ∧ i = .int .i64 k ∧ q = .int .i64 ((1 + 3 * k : Nat) : Int) ∧ Below w.heap.size w wr) (fun _ i _ => n - (intOf i).toNat)
  case atStart => exact ⟨0, by omega, rfl, rfl, Below.refl _ _⟩
  case round =>
    obtain ⟨k, hk, rfl, rfl, hb⟩ := hrel
    have hx : b < wr.heap.size := Nat.lt_of_lt_of_le hl hb.size
    have HR := hide ((unhide HA).below hb hl)
    have HB := hide hb
    clear hb
    by_cases hlt : k < n
    · obtain ⟨c0, c1, c2⟩ := (unhide HR).cells hlt
      have c0' : wr.cell? ⟨b, k * 3, none⟩ = some (.int .i64 (1 + 3 * (k : Int))) := c0
      have c1' : wr.cell? ⟨b, k * 3 + 1, none⟩ = some (.string (mark (2 + 3 * k))) := c1
      have c2' : wr.cell? ⟨b, k * 3 + 2, none⟩ = some (.int .i64 (3 + 3 * (k : Int))) := c2
      have hmt := fun w => markText_any (2 + 3 * k) (by omega) w
      rw [show ((2 + 3 * k : Nat) : Int) = 1 + 3 * (k : Int) + 1 by omega] at hmt
      have HM := hide hmt
      clear hmt c0 c1 c2
      go_wp2
      refine wp_region_quiet (C := fun w' => Below wr.heap.size wr w') (by kernel_rfl) (by kernel_rfl) ((Below.refl _ _).drew) ?_
      show wpQuiet _ _ _ _ [_, _, _, _, _, _, _, _] _
      refine wpQuiet_step (fun K hK => ?_)
      go_simp
      refine ⟨_, fun w' hw' => rfl, hK _ ?_⟩
      clear hK K
      refine wpQuiet_step (fun K hK => ?_)
      go_simp
      refine ⟨_, fun w' hw' => rfl, hK _ ?_⟩
      clear hK K
      refine wpQuiet_step (fun K hK => ?_)
      go_simp
      refine ⟨_, fun w' hw' => rfl, hK _ ?_⟩
      clear hK K
      refine wpQuiet_step (fun K hK => ?_)
      go_simp
      refine ⟨_, fun w' hw' => rfl, hK _ ?_⟩
      clear hK K
      refine wpQuiet_step (fun K hK => ?_)
      go_simp
      apply Exists.intro
      refine And.intro (fun w' hw' => ?_) (hK _ ?_)
      · obtain ⟨hc', hf'⟩ := bcell hw'
        go_simp
        first | rfl | exact ⟨rfl, rfl⟩ | exact ⟨rfl⟩
      clear hK K
      refine wpQuiet_step (fun K hK => ?_)
      go_simp
      refine ⟨_, fun w' hw' => rfl, hK _ ?_⟩
      clear hK K
      refine wpQuiet_step (fun K hK => ?_)
      go_simp
      apply Exists.intro
      refine And.intro (fun w' hw' => ?_) (hK _ ?_)
      · refine ((unhide HM) _).mono ?_
        rintro e w'' ⟨rfl, hb⟩
        exact ⟨rfl, hw'.trans (hb.mono hw'.size)⟩
      clear hK K
      refine wpQuiet_step (fun K hK => ?_)
      go_simp
      refine ⟨_, fun w' hw' => rfl, hK _ ?_⟩
      clear hK K
      refine wpQuiet_nil ?_
      intro w2 hw2
      have d2 := (hw2.cell (p := ⟨b, k * 3 + 2, none⟩) hx).trans c2'
      have HB2 := hide ((unhide HB).trans (hw2.mono (unhide HB).size))
      clear hw2 c0' c1' c2' HR
      go_wp2
      go_roundw
      case rel => exact ⟨k + 1, by omega, by go_num, by go_num, unhide HB2⟩
      case measure => simp [intOf]; omega
    · have : k = n := by omega
      subst this
      go_wp2
      go_ret
      exact ⟨by show Ending.returned (Value.int .i64 ((1 + 3 * k : Nat) : Int)) = _; congr 2, unhide HB⟩

set_option maxHeartbeats 1000000 in
theorem markShapeS_nil (w : World) :
    Calls Try.prog 39 #[.slice none 0 0, .int .i64 1] w fun e w' => e = .returned (.int .i64 1) ∧ w' = w := by
  go_enter Try.func39, Try.ntmps39
  go_wp2
  go_loopw [1, 5] (fun q i wr => q = .int .i64 1 ∧ i = .int .i64 0 ∧ wr = w) (fun _ _ _ => 0)
  case atStart => exact ⟨rfl, rfl, rfl⟩
  case round =>
    obtain ⟨rfl, rfl, rfl⟩ := hrel
    go_wp2
    go_ret
    exact ⟨rfl, rfl⟩

set_option maxHeartbeats 1000000 in
theorem heldShapeS_nil (w : World) :
    Calls Try.prog 63 #[.slice none 0 0, .int .i64 1] w fun e w' => e = .returned (.int .i64 1) ∧ w' = w := by
  go_enter Try.func63, Try.ntmps63
  go_wp2
  go_loopw [1, 5] (fun q i wr => q = .int .i64 1 ∧ i = .int .i64 0 ∧ wr = w) (fun _ _ _ => 0)
  case atStart => exact ⟨rfl, rfl, rfl⟩
  case round =>
    obtain ⟨rfl, rfl, rfl⟩ := hrel
    go_wp2
    go_ret
    exact ⟨rfl, rfl⟩

set_option maxHeartbeats 1000000 in
theorem eqShapeS_nil (w : World) :
    Calls Try.prog 34 #[.slice none 0 0, .slice none 0 0] w fun e w' => e = .returned (.bool true) ∧ w' = w := by
  go_enter Try.func34, Try.ntmps34
  go_wp2
  go_loopw [5] (fun i wr => i = .int .i64 0 ∧ wr = w) (fun _ _ => 0)
  case atStart => exact ⟨rfl, rfl⟩
  case round =>
    obtain ⟨rfl, rfl⟩ := hrel
    go_wp2
    go_ret
    exact ⟨rfl, rfl⟩

/-- The shapes of an answer: none, or n of them in a block from lo to below hi. -/
def GV (f : Nat → Shp) (n : Nat) (w : World) (v : Value) (lo hi : Nat) : Prop :=
  (n = 0 ∧ v = .slice none 0 0) ∨ (0 < n ∧ ∃ b cp, v = .slice (some ⟨b, 0, none⟩) n cp ∧ lo ≤ b ∧ b < hi ∧ ShIn w b n f)

theorem GV.keep {f : Nat → Shp} {n : Nat} {w w' : World} {v : Value} {lo hi : Nat} (h : GV f n w v lo hi) (hk : ∀ b, lo ≤ b → b < hi → w'.heap[b]? = w.heap[b]?) : GV f n w' v lo hi := by
  rcases h with h | ⟨h0, b, cp, h1, h2, h3, h4⟩
  · exact .inl h
  · exact .inr ⟨h0, b, cp, h1, h2, h3, h4.of_block (hk b h2 h3)⟩

theorem GV.below {f : Nat → Shp} {n : Nat} {w w' : World} {v : Value} {lo hi B : Nat} (h : GV f n w v lo hi) (hb : Below B w w') (hB : hi ≤ B) : GV f n w' v lo hi := h.keep fun b _ h2 => hb.block b (by omega)

theorem GV.form {f : Nat → Shp} {n : Nat} {w : World} {v : Value} {lo hi : Nat} (h : GV f n w v lo hi) : ∃ a cp, v = .slice a n cp := by
  rcases h with ⟨rfl, rfl⟩ | ⟨_, b, cp, rfl, _⟩
  · exact ⟨_, _, rfl⟩
  · exact ⟨_, _, rfl⟩

/-- All blocks but those from lo to below hi are as they were. -/
structure Out (lo hi : Nat) (w w' : World) : Prop where
  os : w'.os = w.os
  tape : w'.tape = w.tape
  output : w'.output = w.output
  size : w.heap.size ≤ w'.heap.size
  block : ∀ k, k < w.heap.size → k < lo ∨ hi ≤ k → w'.heap[k]? = w.heap[k]?
theorem Out.of {lo hi : Nat} {w w' : World} (h : Below w.heap.size w w') : Out lo hi w w' := ⟨h.os, h.tape, h.output, h.size, fun k hk _ => h.block k hk⟩
theorem Out.trans {lo hi : Nat} {u v w : World} (h : Out lo hi u v) (k : Out lo hi v w) : Out lo hi u w :=
  ⟨k.os.trans h.os, k.tape.trans h.tape, k.output.trans h.output, Nat.le_trans h.size k.size, fun q hq hn => (k.block q (Nat.lt_of_lt_of_le hq h.size) hn).trans (h.block q hq hn)⟩
theorem Out.below {lo hi : Nat} {w w' : World} (h : Out lo hi w w') (hl : lo ≤ w.heap.size) : Below lo w w' := ⟨h.os, h.tape, h.output, h.size, fun k hk => h.block k (by omega) (.inl hk)⟩
theorem But.out {b lo hi : Nat} {w w' : World} (h : But b w w') (h1 : lo ≤ b) (h2 : b < hi) : Out lo hi w w' := ⟨h.os, h.tape, h.output, h.size, fun k hk hn => h.block k hk (by omega)⟩

theorem eqSV {f : Nat → Shp} {n : Nat} {w : World} {v v' : Value} {lo hi lo' hi' : Nat} (h : GV f n w v lo hi) (h' : GV f n w v' lo' hi') (hn : n ≤ 1048576) :
    Calls Try.prog 34 #[v, v'] w fun e w' => e = .returned (.bool true) ∧ Below w.heap.size w w' := by
  rcases h with ⟨h0, rfl⟩ | ⟨h0, b, cp, rfl, _, _, hr⟩
  · rcases h' with ⟨_, rfl⟩ | ⟨h0', _⟩
    · exact (eqShapeS_nil w).mono fun e w' h => ⟨h.1, by rw [h.2]; exact Below.refl _ _⟩
    · omega
  · rcases h' with ⟨h0', _⟩ | ⟨_, b', cp', rfl, _, _, hr'⟩
    · omega
    · exact eqShapeS_in b b' n cp cp' f f w hr hr' hn (fun i hi => ⟨rfl, rfl, rfl⟩)

theorem markSV {f : Nat → Shp} {n : Nat} {w : World} {v : Value} {lo hi : Nat} (h : GV f n w v lo hi) (hn : n ≤ 1048576) :
    Calls Try.prog 39 #[v, .int .i64 1] w fun e w' => (e = .returned (.int .i64 (1 + 3 * (n : Int))) ∧ GV mk n w' v lo hi) ∧ Out lo hi w w' := by
  rcases h with ⟨rfl, rfl⟩ | ⟨h0, b, cp, rfl, h1, h2, hr⟩
  · refine (markShapeS_nil w).mono fun e w' h => ?_
    rw [h.2]
    exact ⟨⟨by rw [h.1]; rfl, .inl ⟨rfl, rfl⟩⟩, .of (Below.refl _ _)⟩
  · refine (markShapeS_in b n cp f w hr hn).mono fun e w' h => ?_
    exact ⟨⟨h.1, .inr ⟨h0, b, cp, rfl, h1, h2, h.2.2⟩⟩, h.2.1.out h1 h2⟩

theorem heldSV {n : Nat} {w : World} {v : Value} {lo hi : Nat} (h : GV mk n w v lo hi) (hn : n ≤ 1048576) :
    Calls Try.prog 63 #[v, .int .i64 1] w fun e w' => e = .returned (.int .i64 (1 + 3 * (n : Int))) ∧ Below w.heap.size w w' := by
  rcases h with ⟨rfl, rfl⟩ | ⟨h0, b, cp, rfl, h1, h2, hr⟩
  · refine (heldShapeS_nil w).mono fun e w' h => ?_
    rw [h.2]
    exact ⟨by rw [h.1]; rfl, Below.refl _ _⟩
  · exact heldShapeS_in b n cp w hr hn

abbrev GrV (v : Value) (r : Int) : Value := .agg #[v, .int .i64 r]

set_option maxHeartbeats 1000000 in
theorem eqForestV {f : Nat → Shp} {n : Nat} {w : World} {v v' : Value} {lo hi lo' hi' : Nat} (h : GV f n w v lo hi) (h' : GV f n w v' lo' hi') (hn : n ≤ 1048576) (hh : hi ≤ w.heap.size) (hh' : hi' ≤ w.heap.size) :
    Calls Try.prog 12 #[.agg #[v], .agg #[v']] w fun e w' => e = .returned (.bool true) ∧ Below w.heap.size w w' := by
  obtain ⟨a, cp, rfl⟩ := h.form
  obtain ⟨a', cp', rfl⟩ := h'.form
  have hb0 : Below w.heap.size w ((w.alloc (.cells #[.slice a n cp] 29)).alloc (.cells #[.slice a' n cp'] 29)) := ((Below.refl _ _).alloc (Nat.le_refl _) _).alloc (by simp) _
  have HV := hide (h.below hb0 hh)
  have HV' := hide (h'.below hb0 hh')
  clear h h'
  go_enter Try.func12, Try.ntmps12
  go_wp2_with fail
  refine (eqSV (unhide HV) (unhide HV') hn).mono ?_
  rintro e w1 ⟨rfl, hb1⟩
  have HB1 := hide (hb0.trans (hb1.mono hb0.size))
  clear hb0 hb1
  go_wp2
  go_ret
  exact ⟨rfl, unhide HB1⟩

set_option maxHeartbeats 1000000 in
theorem markForestV {f : Nat → Shp} {n : Nat} {w : World} {v : Value} {lo hi : Nat} (h : GV f n w v lo hi) (hn : n ≤ 1048576) (hh : hi ≤ w.heap.size) :
    Calls Try.prog 16 #[.agg #[v], .int .i64 1] w fun e w' => (e = .returned (.int .i64 (1 + 3 * (n : Int))) ∧ GV mk n w' v lo hi) ∧ Out lo hi w w' := by
  obtain ⟨a, cp, rfl⟩ := h.form
  have hb0 : Below w.heap.size w (w.alloc (.cells #[.slice a n cp] 29)) := (Below.refl _ _).alloc (Nat.le_refl _) _
  have HV := hide (h.below hb0 hh)
  clear h
  go_enter Try.func16, Try.ntmps16
  go_wp2_with fail
  refine (markSV (unhide HV) hn).mono ?_
  rintro e w1 ⟨⟨rfl, hv1⟩, hb1⟩
  have HB1 := hide ((Out.of hb0).trans hb1)
  have HV1 := hide hv1
  clear hb0 hb1 hv1
  go_wp2
  go_ret
  exact ⟨⟨rfl, unhide HV1⟩, unhide HB1⟩

set_option maxHeartbeats 1000000 in
theorem heldForestV {n : Nat} {w : World} {v : Value} {lo hi : Nat} (h : GV mk n w v lo hi) (hn : n ≤ 1048576) (hh : hi ≤ w.heap.size) :
    Calls Try.prog 47 #[.agg #[v], .int .i64 1] w fun e w' => e = .returned (.int .i64 (1 + 3 * (n : Int))) ∧ Below w.heap.size w w' := by
  obtain ⟨a, cp, rfl⟩ := h.form
  have hb0 : Below w.heap.size w (w.alloc (.cells #[.slice a n cp] 29)) := (Below.refl _ _).alloc (Nat.le_refl _) _
  have HV := hide (h.below hb0 hh)
  clear h
  go_enter Try.func47, Try.ntmps47
  go_wp2_with fail
  refine (heldSV (unhide HV) hn).mono ?_
  rintro e w1 ⟨rfl, hb1⟩
  have HB1 := hide (hb0.trans (hb1.mono hb0.size))
  clear hb0 hb1
  have hq : ¬ 1 + 3 * (n : Int) < 0 := by omega
  go_wp2
  go_ret
  exact ⟨rfl, unhide HB1⟩

set_option maxHeartbeats 1000000 in
theorem eqGrownV {f : Nat → Shp} {n : Nat} {r : Int} {w : World} {v v' : Value} {lo hi lo' hi' : Nat} (h : GV f n w v lo hi) (h' : GV f n w v' lo' hi') (hn : n ≤ 1048576) (hh : hi ≤ w.heap.size) (hh' : hi' ≤ w.heap.size) :
    Calls Try.prog 23 #[GrV v r, GrV v' r] w fun e w' => e = .returned (.bool true) ∧ Below w.heap.size w w' := by
  obtain ⟨a, cp, rfl⟩ := h.form
  obtain ⟨a', cp', rfl⟩ := h'.form
  have hb0 : Below w.heap.size w ((w.alloc (.cells #[.slice a n cp, .int .i64 r] 42)).alloc (.cells #[.slice a' n cp', .int .i64 r] 42)) := ((Below.refl _ _).alloc (Nat.le_refl _) _).alloc (by simp) _
  have HV := hide (h.below hb0 hh)
  have HV' := hide (h'.below hb0 hh')
  clear h h'
  go_enter Try.func23, Try.ntmps23
  go_wp2_with fail
  refine (eqForestV (unhide HV) (unhide HV') hn (by simp; omega) (by simp; omega)).mono ?_
  rintro e w1 ⟨rfl, hb1⟩
  obtain ⟨hc1, hf1⟩ := bcell hb1
  have x0 : w1.cell? ⟨w.heap.size, 1, none⟩ = some (.int .i64 r) := by rw [hc1 _ _ (by simp; omega)]; simp [go_sem]
  have x1 : w1.cell? ⟨w.heap.size + 1, 1, none⟩ = some (.int .i64 r) := by rw [hc1 _ _ (by simp)]; simp [go_sem]
  have HB1 := hide (hb0.trans (hb1.mono hb0.size))
  clear hb0 hb1 hc1 hf1
  go_wp2
  go_ret
  exact ⟨rfl, unhide HB1⟩

set_option maxHeartbeats 1000000 in
theorem markGrownV {f : Nat → Shp} {n : Nat} {r : Int} {w : World} {v : Value} {lo hi : Nat} (h : GV f n w v lo hi) (hn : n ≤ 1048576) (hh : hi ≤ w.heap.size) :
    Calls Try.prog 24 #[GrV v r, .int .i64 1] w fun e w' => (e = .returned (.int .i64 (1 + 3 * (n : Int))) ∧ GV mk n w' v lo hi) ∧ Out lo hi w w' := by
  obtain ⟨a, cp, rfl⟩ := h.form
  have hb0 : Below w.heap.size w (w.alloc (.cells #[.slice a n cp, .int .i64 r] 42)) := (Below.refl _ _).alloc (Nat.le_refl _) _
  have HV := hide (h.below hb0 hh)
  clear h
  go_enter Try.func24, Try.ntmps24
  go_wp2_with fail
  refine (markForestV (unhide HV) hn (by simp; omega)).mono ?_
  rintro e w1 ⟨⟨rfl, hv1⟩, hb1⟩
  have HB1 := hide ((Out.of hb0).trans hb1)
  have HV1 := hide hv1
  clear hb0 hb1 hv1
  go_wp2
  go_ret
  exact ⟨⟨rfl, unhide HV1⟩, unhide HB1⟩

set_option maxHeartbeats 1000000 in
theorem heldGrownV {n : Nat} {r : Int} {w : World} {v : Value} {lo hi : Nat} (h : GV mk n w v lo hi) (hn : n ≤ 1048576) (hh : hi ≤ w.heap.size) :
    Calls Try.prog 25 #[GrV v r, .int .i64 1] w fun e w' => e = .returned (.int .i64 (1 + 3 * (n : Int))) ∧ Below w.heap.size w w' := by
  obtain ⟨a, cp, rfl⟩ := h.form
  have hb0 : Below w.heap.size w (w.alloc (.cells #[.slice a n cp, .int .i64 r] 42)) := (Below.refl _ _).alloc (Nat.le_refl _) _
  have HV := hide (h.below hb0 hh)
  clear h
  go_enter Try.func25, Try.ntmps25
  go_wp2_with fail
  refine (heldForestV (unhide HV) hn (by simp; omega)).mono ?_
  rintro e w1 ⟨rfl, hb1⟩
  have HB1 := hide (hb0.trans (hb1.mono hb0.size))
  clear hb0 hb1
  have hq : ¬ 1 + 3 * (n : Int) < 0 := by omega
  go_wp2
  go_ret
  exact ⟨rfl, unhide HB1⟩
end Go.Proofs.Ytgiegkigfokdmab
