/-
  StJ.
-/
import Derived.Test.YtfceeijdmilieaaGreatStHP
import Derived.Test.YtfceeijdmilieaaGreatStIP
namespace Go.Proofs.YtfceeijdmilieaaGreat
open Go.RowKit
set_option linter.unusedVariables false
attribute [local go_sem] run_store_float run_equalIn_float

/-- The nodes of a sound forest, as judge answers them. -/
structure Nd (w : World) (s : Sto) (b0 g : Nat) (B N : Nat → Nat) (M : Nat → Option Nat) : Prop where
  ns : NodesP w s.F b0 s.nf B N M
  id : ∀ i, i < s.nf → N i = i
  lt : g < w.heap.size
  cel : ∀ i, i < s.nf → w.cell? ⟨g, i, none⟩ = some (.pointer (some ⟨B i, 0, none⟩))
theorem Nd.below {w w' : World} {s : Sto} {b0 g : Nat} {B N : Nat → Nat} {M : Nat → Option Nat} (h : Nd w s b0 g B N M) (hb : Below w.heap.size w w') : Nd w' s b0 g B N M :=
  ⟨h.ns.below hb, h.id, Nat.lt_of_lt_of_le h.lt hb.size, fun i hi => (hb.cell (p := ⟨g, i, none⟩) h.lt).trans (h.cel i hi)⟩
theorem Nd.cnt {w : World} {s : Sto} {b0 g : Nat} {B N : Nat → Nat} {M : Nat → Option Nat} (h : Nd w s b0 g B N M) {j : Nat} (hj : j < s.nf) : B j < w.heap.size ∧ w.cell? ⟨B j, 3, none⟩ = some (.int .i64 (s.F j).count) := by
  have := node_cells h.ns h.id hj
  exact ⟨by have := World.block_lt_of_cell? _ _ this.1; exact this, this.2.2.1⟩

theorem Nd.place {w : World} {s : Sto} {b0 g : Nat} {B N : Nat → Nat} {M : Nat → Option Nat} (h : Nd w s b0 g B N M) (h0 : forestOk s.nf s.F = 0) {j : Nat} (hj : j < s.nf) (key : ByteArray) :
    Calls Tryz.prog 60 #[.pointer (some ⟨B j, 0, none⟩), .string key] w fun e w' => e = .returned (.int .i64 (plcI s.F j key)) ∧ Below w.heap.size w w' := by
  refine (placeOf_any w s.F b0 s.nf B N M h.ns h.id (forestOk_zero h0).2.1 (forestOk_zero h0).2.2.1 j hj key).mono ?_
  rintro e w' ⟨⟨h1, _⟩, rfl⟩
  exact ⟨h1, Below.refl _ _⟩

set_option maxRecDepth 100000 in
set_option maxHeartbeats 4000000 in
theorem siteHolds_none (a : Option Addr) (n cp : Nat) (x : Si) (w : World) (hC : okC x) :
    Calls Tryz.prog 35 #[SJ (-1) x, .slice a n cp] w fun e w' => e = .returned (.bool (x.place == 0)) ∧ Below w.heap.size w w' := by
  obtain ⟨h1, h2, h3, h4, h5⟩ := hC
  have hd : (decide (0 ≤ x.hits) && decide (x.hits ≤ 1000000000000)) = true := by simp; omega
  have hd2 : (decide (0 ≤ x.misses) && decide (x.misses ≤ 1000000000000)) = true := by simp; omega
  have hb0 : ∀ o1, Below w.heap.size w (w.alloc o1) := fun o1 => (Below.refl _ _).alloc (Nat.le_refl _) _
  have HB := hide hb0
  clear hb0
  go_enter Tryz.func35, Tryz.ntmps35
  go_wp2_with fail
  refine (isCount_any x.hits _).mono ?_
  rintro e w1 ⟨rfl, hb1⟩
  rw [hd]
  obtain ⟨hc1, hf1⟩ := bcell hb1
  have hz1 := hb1.size
  simp at hz1
  have y1 : w.heap.size < w1.heap.size := by omega
  have HB1 := hide ((unhide HB _).trans (hb1.mono (unhide HB _).size))
  clear hb1
  go_wp2_with fail
  refine (isCount_any x.misses _).mono ?_
  rintro e w2 ⟨rfl, hb2⟩
  rw [hd2]
  obtain ⟨hc2, hf2⟩ := bcell hb2
  have y2 := Nat.lt_of_lt_of_le y1 hb2.size
  have HB2 := hide ((unhide HB1).trans (hb2.mono (unhide HB1).size))
  clear hb2
  go_wp2
  go_ret
  exact ⟨rfl, unhide HB2⟩

set_option maxRecDepth 100000 in
set_option maxHeartbeats 8000000 in
theorem siteHolds_at (s : Sto) (b0 g cp : Nat) (B N : Nat → Nat) (M : Nat → Option Nat) (x : Si) (i : Int) (w : World) (hC : okC x) (hN : Nd w s b0 g B N M) (h0 : forestOk s.nf s.F = 0) (hi : i ≠ -1) :
    Calls Tryz.prog 35 #[SJ i x, .slice (some ⟨g, 0, none⟩) s.nf cp] w fun e w' => e = .returned (.bool (decide (0 ≤ i ∧ i < s.nf ∧ 0 ≤ x.place) && (plcI s.F i.toNat x.key == x.place))) ∧ Below w.heap.size w w' := by
  obtain ⟨h1, h2, h3, h4, h5⟩ := hC
  have hd1 : (decide (0 ≤ x.hits) && decide (x.hits ≤ 1000000000000)) = true := by simp; omega
  have hd2 : (decide (0 ≤ x.misses) && decide (x.misses ≤ 1000000000000)) = true := by simp; omega
  have hgl := hN.lt
  have hi' : (i == -1) = false := by simpa using hi
  have H0 := hide h0
  have HN := hide hN
  have hb0 : Below w.heap.size w (w.alloc (.cells #[.string x.key, .int .i64 i, .int .i64 x.place, .int .i64 x.hits, .int .i64 x.misses] 54)) := (Below.refl _ _).alloc (Nat.le_refl _) _
  have HB := hide hb0
  clear hb0 hi h0 hN
  go_enter Tryz.func35, Tryz.ntmps35
  go_wp2_with fail
  refine (isCount_any x.hits _).mono ?_
  rintro e w1 ⟨rfl, hb1⟩
  rw [hd1]
  obtain ⟨hc1, hf1⟩ := bcell hb1
  have hz1 := hb1.size
  simp at hz1
  have y1 : w.heap.size < w1.heap.size := by omega
  have c0 : w1.cell? ⟨w.heap.size, 0, none⟩ = some (.string x.key) := by rw [hc1 _ _ (by simp)]; simp [go_sem]
  have c1 : w1.cell? ⟨w.heap.size, 1, none⟩ = some (.int .i64 i) := by rw [hc1 _ _ (by simp)]; simp [go_sem]
  have c2 : w1.cell? ⟨w.heap.size, 2, none⟩ = some (.int .i64 x.place) := by rw [hc1 _ _ (by simp)]; simp [go_sem]
  have c3 : w1.cell? ⟨w.heap.size, 4, none⟩ = some (.int .i64 x.misses) := by rw [hc1 _ _ (by simp)]; simp [go_sem]
  have HB1 := hide ((unhide HB).trans (hb1.mono (unhide HB).size))
  clear hb1 hc1 hf1
  go_wp2_with fail
  refine (isCount_any x.misses _).mono ?_
  rintro e W ⟨rfl, hb2⟩
  rw [hd2]
  have l0 : w.heap.size < W.heap.size := Nat.lt_of_lt_of_le y1 hb2.size
  have y0 := (hb2.cell (p := ⟨w.heap.size, 0, none⟩) y1).trans c0
  have y1' := (hb2.cell (p := ⟨w.heap.size, 1, none⟩) y1).trans c1
  have y2 := (hb2.cell (p := ⟨w.heap.size, 2, none⟩) y1).trans c2
  have HBW := hide ((unhide HB1).trans (hb2.mono (unhide HB1).size))
  have HNW := hide ((unhide HN).below (unhide HBW))
  have lg : g < W.heap.size := by omega
  clear hb2 c0 c1 c2 c3
  by_cases hj : 0 ≤ i ∧ i < s.nf
  case neg =>
    have hd : (decide ((0 : Int) ≤ i) && decide (i < (s.nf : Int))) = false := by simp; omega
    have HT : Hid ((decide (0 ≤ i ∧ i < s.nf ∧ 0 ≤ x.place) && (plcI s.F i.toNat x.key == x.place)) = false) := hide (by rw [decide_eq_false (fun q => hj ⟨q.1, q.2.1⟩)]; rfl)
    clear hj
    go_wp2_with fail
    refine wp_region_quiet (C := fun w' => Below W.heap.size W w') (by kernel_rfl) (by kernel_rfl) ((Below.refl _ _).drew) ?_
    show wpQuiet _ _ _ _ [_, _, _, _, _, _, _, _, _, _, _, _, _, _, _, _, _, _, _, _, _, _, _] _
    refine wpQuiet_step (fun K hK => ?_)
    go_simp
    refine ⟨_, fun w' hw' => rfl, hK _ ?_⟩
    clear hK K
    refine wpQuiet_step (fun K hK => ?_)
    go_simp
    apply Exists.intro
    refine And.intro (fun w' hw' => ?_) (hK _ ?_)
    · obtain ⟨hc', hf'⟩ := bcell hw'
      go_simp
      first | rfl | exact ⟨rfl, rfl⟩ | exact ⟨rfl⟩
    clear hK K
    refine wpQuiet_step (fun K hK => ?_)
    go_simp
    refine ⟨_, fun w' hw' => rfl, hK _ ?_⟩
    clear hK K
    refine wpQuiet_step (fun K hK => ?_)
    go_simp
    apply Exists.intro
    refine And.intro (fun w' hw' => ?_) (hK _ ?_)
    · refine ((hd ▸ isThere_any (some ⟨g, 0, none⟩) s.nf cp i _)).mono ?_
      rintro e w'' ⟨rfl, hb⟩
      exact ⟨rfl, hw'.trans (hb.mono hw'.size)⟩
    clear hK K
    refine wpQuiet_step (fun K hK => ?_)
    go_simp
    refine ⟨_, fun w' hw' => rfl, hK _ ?_⟩
    clear hK K
    go_big_quiet_step (fail)
    go_big_quiet_step (fail)
    go_big_quiet_step (fail)
    refine wpQuiet_step (fun K hK => ?_)
    go_simp
    refine ⟨_, fun w' hw' => rfl, hK _ ?_⟩
    clear hK K
    refine wpQuiet_step (fun K hK => ?_)
    go_simp
    refine ⟨_, fun w' hw' => rfl, hK _ ?_⟩
    clear hK K
    go_big_quiet_step (fail)
    go_big_quiet_step (fail)
    go_big_quiet_step (fail)
    go_big_quiet_step (fail)
    go_big_quiet_step (fail)
    go_big_quiet_step (fail)
    go_big_quiet_step (fail)
    go_big_quiet_step (fail)
    go_big_quiet_step (fail)
    go_big_quiet_step (fail)
    go_big_quiet_step (fail)
    refine wpQuiet_step (fun K hK => ?_)
    go_simp
    refine ⟨_, fun w' hw' => rfl, hK _ ?_⟩
    clear hK K
    refine wpQuiet_step (fun K hK => ?_)
    go_simp
    refine ⟨_, fun w' hw' => rfl, hK _ ?_⟩
    clear hK K
    refine wpQuiet_nil ?_
    intro w2 hw2
    have HB2 := hide ((unhide HBW).trans (hw2.mono (unhide HBW).size))
    clear hw2
    go_wp2
    go_ret
    exact ⟨by rw [unhide HT] <;> rfl, unhide HB2⟩
  have hd : (decide ((0 : Int) ≤ i) && decide (i < (s.nf : Int))) = true := by simp; omega
  by_cases hp : 0 ≤ x.place
  case neg =>
    have HT : Hid ((decide (0 ≤ i ∧ i < s.nf ∧ 0 ≤ x.place) && (plcI s.F i.toNat x.key == x.place)) = false) := hide (by rw [decide_eq_false (fun q => hp q.2.2)]; rfl)
    have hp' : decide (0 ≤ x.place) = false := by simpa using hp
    clear hj hp
    go_wp2_with fail
    refine wp_region_quiet (C := fun w' => Below W.heap.size W w') (by kernel_rfl) (by kernel_rfl) ((Below.refl _ _).drew) ?_
    show wpQuiet _ _ _ _ [_, _, _, _, _, _, _, _, _, _, _, _, _, _, _, _, _, _, _, _, _, _, _] _
    refine wpQuiet_step (fun K hK => ?_)
    go_simp
    refine ⟨_, fun w' hw' => rfl, hK _ ?_⟩
    clear hK K
    refine wpQuiet_step (fun K hK => ?_)
    go_simp
    apply Exists.intro
    refine And.intro (fun w' hw' => ?_) (hK _ ?_)
    · obtain ⟨hc', hf'⟩ := bcell hw'
      go_simp
      first | rfl | exact ⟨rfl, rfl⟩ | exact ⟨rfl⟩
    clear hK K
    refine wpQuiet_step (fun K hK => ?_)
    go_simp
    refine ⟨_, fun w' hw' => rfl, hK _ ?_⟩
    clear hK K
    refine wpQuiet_step (fun K hK => ?_)
    go_simp
    apply Exists.intro
    refine And.intro (fun w' hw' => ?_) (hK _ ?_)
    · refine ((hd ▸ isThere_any (some ⟨g, 0, none⟩) s.nf cp i _)).mono ?_
      rintro e w'' ⟨rfl, hb⟩
      exact ⟨rfl, hw'.trans (hb.mono hw'.size)⟩
    clear hK K
    refine wpQuiet_step (fun K hK => ?_)
    go_simp
    refine ⟨_, fun w' hw' => rfl, hK _ ?_⟩
    clear hK K
    refine wpQuiet_step (fun K hK => ?_)
    go_simp
    refine ⟨_, fun w' hw' => rfl, hK _ ?_⟩
    clear hK K
    refine wpQuiet_step (fun K hK => ?_)
    go_simp
    apply Exists.intro
    refine And.intro (fun w' hw' => ?_) (hK _ ?_)
    · obtain ⟨hc', hf'⟩ := bcell hw'
      go_simp
      first | rfl | exact ⟨rfl, rfl⟩ | exact ⟨rfl⟩
    clear hK K
    refine wpQuiet_step (fun K hK => ?_)
    go_simp
    refine ⟨_, fun w' hw' => rfl, hK _ ?_⟩
    clear hK K
    refine wpQuiet_step (fun K hK => ?_)
    go_simp
    refine ⟨_, fun w' hw' => rfl, hK _ ?_⟩
    clear hK K
    refine wpQuiet_step (fun K hK => ?_)
    go_simp
    refine ⟨_, fun w' hw' => rfl, hK _ ?_⟩
    clear hK K
    go_big_quiet_step (fail)
    go_big_quiet_step (fail)
    go_big_quiet_step (fail)
    go_big_quiet_step (fail)
    go_big_quiet_step (fail)
    go_big_quiet_step (fail)
    go_big_quiet_step (fail)
    go_big_quiet_step (fail)
    go_big_quiet_step (fail)
    go_big_quiet_step (fail)
    go_big_quiet_step (fail)
    refine wpQuiet_step (fun K hK => ?_)
    go_simp
    refine ⟨_, fun w' hw' => rfl, hK _ ?_⟩
    clear hK K
    refine wpQuiet_step (fun K hK => ?_)
    go_simp
    refine ⟨_, fun w' hw' => rfl, hK _ ?_⟩
    clear hK K
    refine wpQuiet_nil ?_
    intro w2 hw2
    have HB2 := hide ((unhide HBW).trans (hw2.mono (unhide HBW).size))
    clear hw2
    go_wp2
    go_ret
    exact ⟨by rw [unhide HT] <;> rfl, unhide HB2⟩
  have hp' : decide (0 ≤ x.place) = true := by simpa using hp
  obtain ⟨j, rfl⟩ : ∃ j : Nat, i = j := ⟨i.toNat, by omega⟩
  have hjn : j < s.nf := by omega
  have HT : Hid ((decide (0 ≤ (j : Int) ∧ (j : Int) < s.nf ∧ 0 ≤ x.place) && (plcI s.F (j : Int).toNat x.key == x.place)) = (plcI s.F j x.key == x.place)) := hide (by rw [decide_eq_true ⟨hj.1, hj.2, hp⟩]; rfl)
  have cg := (unhide HNW).cel j hjn
  clear hj hp
  go_wp2_with fail
  refine wp_region_quiet (C := fun w' => Below W.heap.size W w') (by kernel_rfl) (by kernel_rfl) ((Below.refl _ _).drew) ?_
  show wpQuiet _ _ _ _ [_, _, _, _, _, _, _, _, _, _, _, _, _, _, _, _, _, _, _, _, _, _, _] _
  refine wpQuiet_step (fun K hK => ?_)
  go_simp
  refine ⟨_, fun w' hw' => rfl, hK _ ?_⟩
  clear hK K
  refine wpQuiet_step (fun K hK => ?_)
  go_simp
  apply Exists.intro
  refine And.intro (fun w' hw' => ?_) (hK _ ?_)
  · obtain ⟨hc', hf'⟩ := bcell hw'
    go_simp
    first | rfl | exact ⟨rfl, rfl⟩ | exact ⟨rfl⟩
  clear hK K
  refine wpQuiet_step (fun K hK => ?_)
  go_simp
  refine ⟨_, fun w' hw' => rfl, hK _ ?_⟩
  clear hK K
  refine wpQuiet_step (fun K hK => ?_)
  go_simp
  apply Exists.intro
  refine And.intro (fun w' hw' => ?_) (hK _ ?_)
  · refine ((hd ▸ isThere_any (some ⟨g, 0, none⟩) s.nf cp (j : Int) _)).mono ?_
    rintro e w'' ⟨rfl, hb⟩
    exact ⟨rfl, hw'.trans (hb.mono hw'.size)⟩
  clear hK K
  refine wpQuiet_step (fun K hK => ?_)
  go_simp
  refine ⟨_, fun w' hw' => rfl, hK _ ?_⟩
  clear hK K
  refine wpQuiet_step (fun K hK => ?_)
  go_simp
  refine ⟨_, fun w' hw' => rfl, hK _ ?_⟩
  clear hK K
  refine wpQuiet_step (fun K hK => ?_)
  go_simp
  apply Exists.intro
  refine And.intro (fun w' hw' => ?_) (hK _ ?_)
  · obtain ⟨hc', hf'⟩ := bcell hw'
    go_simp
    first | rfl | exact ⟨rfl, rfl⟩ | exact ⟨rfl⟩
  clear hK K
  refine wpQuiet_step (fun K hK => ?_)
  go_simp
  refine ⟨_, fun w' hw' => rfl, hK _ ?_⟩
  clear hK K
  refine wpQuiet_step (fun K hK => ?_)
  go_simp
  refine ⟨_, fun w' hw' => rfl, hK _ ?_⟩
  clear hK K
  refine wpQuiet_step (fun K hK => ?_)
  go_simp
  refine ⟨_, fun w' hw' => rfl, hK _ ?_⟩
  clear hK K
  refine wpQuiet_step (fun K hK => ?_)
  go_simp
  refine ⟨_, fun w' hw' => rfl, hK _ ?_⟩
  clear hK K
  refine wpQuiet_step (fun K hK => ?_)
  go_simp
  refine ⟨_, fun w' hw' => rfl, hK _ ?_⟩
  clear hK K
  refine wpQuiet_step (fun K hK => ?_)
  go_simp
  apply Exists.intro
  refine And.intro (fun w' hw' => ?_) (hK _ ?_)
  · obtain ⟨hc', hf'⟩ := bcell hw'
    go_simp
    first | rfl | exact ⟨rfl, rfl⟩ | exact ⟨rfl⟩
  clear hK K
  refine wpQuiet_step (fun K hK => ?_)
  go_simp
  refine ⟨_, fun w' hw' => rfl, hK _ ?_⟩
  clear hK K
  refine wpQuiet_step (fun K hK => ?_)
  go_simp
  apply Exists.intro
  refine And.intro (fun w' hw' => ?_) (hK _ ?_)
  · obtain ⟨hc', hf'⟩ := bcell hw'
    go_simp
    first | rfl | exact ⟨rfl, rfl⟩ | exact ⟨rfl⟩
  clear hK K
  refine wpQuiet_step (fun K hK => ?_)
  go_simp
  refine ⟨_, fun w' hw' => rfl, hK _ ?_⟩
  clear hK K
  refine wpQuiet_step (fun K hK => ?_)
  go_simp
  apply Exists.intro
  refine And.intro (fun w' hw' => ?_) (hK _ ?_)
  · obtain ⟨hc', hf'⟩ := bcell hw'
    go_simp
    first | rfl | exact ⟨rfl, rfl⟩ | exact ⟨rfl⟩
  clear hK K
  refine wpQuiet_step (fun K hK => ?_)
  go_simp
  apply Exists.intro
  refine And.intro (fun w' hw' => ?_) (hK _ ?_)
  · refine (Nd.place ((unhide HNW).below hw') (unhide H0) hjn x.key).mono ?_
    rintro e w'' ⟨rfl, hb⟩
    exact ⟨rfl, hw'.trans (hb.mono hw'.size)⟩
  clear hK K
  refine wpQuiet_step (fun K hK => ?_)
  go_simp
  refine ⟨_, fun w' hw' => rfl, hK _ ?_⟩
  clear hK K
  refine wpQuiet_step (fun K hK => ?_)
  go_simp
  apply Exists.intro
  refine And.intro (fun w' hw' => ?_) (hK _ ?_)
  · obtain ⟨hc', hf'⟩ := bcell hw'
    go_simp
    first | rfl | exact ⟨rfl, rfl⟩ | exact ⟨rfl⟩
  clear hK K
  refine wpQuiet_step (fun K hK => ?_)
  go_simp
  refine ⟨_, fun w' hw' => rfl, hK _ ?_⟩
  clear hK K
  refine wpQuiet_step (fun K hK => ?_)
  go_simp
  refine ⟨_, fun w' hw' => rfl, hK _ ?_⟩
  clear hK K
  refine wpQuiet_step (fun K hK => ?_)
  go_simp
  refine ⟨_, fun w' hw' => rfl, hK _ ?_⟩
  clear hK K
  refine wpQuiet_nil ?_
  intro w2 hw2
  have HB2 := hide ((unhide HBW).trans (hw2.mono (unhide HBW).size))
  clear hw2
  go_wp2
  go_ret
  exact ⟨by rw [unhide HT] <;> rfl, unhide HB2⟩

theorem siteHolds_any (s : Sto) (b0 g cp : Nat) (B N : Nat → Nat) (M : Nat → Option Nat) (x : Si) (w : World) (hk : x.key.size ≤ maxLen) (hN : Nd w s b0 g B N M) (h0 : forestOk s.nf s.F = 0) :
    Calls Tryz.prog 35 #[SV x, .slice (some ⟨g, 0, none⟩) s.nf cp] w fun e w' => e = .returned (.bool (tells (okS s x))) ∧ Below w.heap.size w w' := by
  by_cases hC : okC x
  case neg =>
    have h := siteHolds_bad (some ⟨g, 0, none⟩) s.nf cp x w hk hC
    rwa [← tells_no (p := okS s x) (fun q => hC (okS_C q))] at h
  by_cases h1 : x.shape = -1
  · have h := siteHolds_none (some ⟨g, 0, none⟩) s.nf cp x w hC
    rw [← okS_none (s := s) hC h1] at h
    unfold SV
    rw [h1]
    exact h
  · have h := siteHolds_at s b0 g cp B N M x x.shape w hC hN h0 h1
    have e : (decide (0 ≤ x.shape ∧ x.shape < s.nf ∧ 0 ≤ x.place) && (plcI s.F x.shape.toNat x.key == x.place)) = tells (okS s x) := by
      by_cases q : 0 ≤ x.shape ∧ x.shape < s.nf ∧ 0 ≤ x.place
      · rw [okS_at (j := x.shape.toNat) hC (by omega) (by omega) q.2.2, decide_eq_true q]; rfl
      · rw [okS_far h1 q, decide_eq_false q]; rfl
    rw [e] at h
    exact h

abbrev HdA (A : Ad) (t : Tb) : Value := HdV A.va A.vc A.la A.lc A.ia A.ic A.xa A.xc t
abbrev ShdA (p : Nat) (A : Ad) (t : Tb) : Value := ShdV p A.va A.vc A.la A.lc A.ia A.ic A.xa A.xc t
abbrev TIA (i : Int) (A : Ad) (t : Tb) : Value := .agg #[.int .i64 i, .slice A.va t.nv A.vc, .slice A.la t.d.n A.lc, .slice A.ia t.d.m A.ic, .slice A.xa t.d.x A.xc, .int .i64 t.d.used, .int .i64 t.d.live, .int .i64 t.d.turns]

set_option maxRecDepth 100000 in
set_option maxHeartbeats 4000000 in
theorem kindOf_none (a : Option Addr) (n cp : Nat) (A : Ad) (t : Tb) (w : World) :
    Calls Tryz.prog 34 #[TIA (-1) A t, .slice a n cp] w fun e w' => e = .returned (.iface 121 (HdA A t)) ∧ Below w.heap.size w w' := by
  have hb0 : ∀ o1 o2, Below w.heap.size w ((w.alloc o1).alloc o2) := fun o1 o2 => ((Below.refl _ _).alloc (Nat.le_refl _) _).alloc (by simp) _
  have HB := hide hb0
  clear hb0
  go_enter Tryz.func34, Tryz.ntmps34
  go_wp2
  go_ret
  exact ⟨rfl, unhide HB _ _⟩

set_option maxRecDepth 100000 in
set_option maxHeartbeats 4000000 in
theorem kindOf_far (a : Option Addr) (n cp : Nat) (A : Ad) (t : Tb) (i : Int) (w : World) (h1 : i ≠ -1) (h : ¬ (0 ≤ i ∧ i < n)) :
    Calls Tryz.prog 34 #[TIA i A t, .slice a n cp] w fun e w' => e = .returned .nilIface ∧ Below w.heap.size w w' := by
  have hb0 : ∀ o1 o2, Below w.heap.size w ((w.alloc o1).alloc o2) := fun o1 o2 => ((Below.refl _ _).alloc (Nat.le_refl _) _).alloc (by simp) _
  have HB := hide hb0
  have h1' : (i == -1) = false := by simpa using h1
  have hd : (decide ((0 : Int) ≤ i) && decide (i < (n : Int))) = false := by simp; omega
  clear hb0 h1 h
  go_enter Tryz.func34, Tryz.ntmps34
  go_wp2_with fail
  refine (isThere_any a n cp i _).mono ?_
  rintro e w1 ⟨rfl, hb1⟩
  rw [hd]
  have HB1 := hide ((unhide HB _ _).trans (hb1.mono (unhide HB _ _).size))
  clear hb1
  go_wp2
  go_ret
  exact ⟨rfl, unhide HB1⟩

set_option maxRecDepth 100000 in
set_option maxHeartbeats 4000000 in
theorem kindOf_at (g n cp p : Nat) (A : Ad) (t : Tb) (j : Nat) (w : World) (hj : j < n) (hg : g < w.heap.size) (hc : w.cell? ⟨g, j, none⟩ = some (.pointer (some ⟨p, 0, none⟩))) :
    Calls Tryz.prog 34 #[TIA (j : Int) A t, .slice (some ⟨g, 0, none⟩) n cp] w fun e w' => e = .returned (.iface 125 (ShdA p A t)) ∧ Below w.heap.size w w' := by
  have hb0 : Below w.heap.size w ((w.alloc (.cells #[.int .i64 (j : Int), .slice A.va t.nv A.vc, .slice A.la t.d.n A.lc, .slice A.ia t.d.m A.ic, .slice A.xa t.d.x A.xc, .int .i64 t.d.used, .int .i64 t.d.live, .int .i64 t.d.turns] 51)).alloc (.cells #[.slice A.va t.nv A.vc, .slice A.la t.d.n A.lc, .slice A.ia t.d.m A.ic, .slice A.xa t.d.x A.xc, .int .i64 t.d.used, .int .i64 t.d.live, .int .i64 t.d.turns] 119)) := ((Below.refl _ _).alloc (Nat.le_refl _) _).alloc (by simp) _
  have HB := hide hb0
  have hd : (decide ((0 : Int) ≤ (j : Int)) && decide ((j : Int) < (n : Int))) = true := by simp; omega
  have h1' : ((j : Int) == -1) = false := by first | (simp; done) | (simp; omega)
  have hcg := (hb0.cell (p := ⟨g, j, none⟩) hg).trans hc
  clear hb0 hc
  go_enter Tryz.func34, Tryz.ntmps34
  go_wp2_with fail
  refine (isThere_any (some ⟨g, 0, none⟩) n cp (j : Int) _).mono ?_
  rintro e w1 ⟨rfl, hb1⟩
  rw [hd]
  obtain ⟨hc1, hf1⟩ := bcell hb1
  have hz1 := hb1.size
  simp at hz1
  have y0 : w.heap.size < w1.heap.size := by omega
  have y1 : w.heap.size + 1 < w1.heap.size := by omega
  have lg : g < w1.heap.size := by omega
  have cg := (hb1.cell (p := ⟨g, j, none⟩) (by simp; omega)).trans hcg
  have c0 : w1.cell? ⟨w.heap.size, 0, none⟩ = some (.int .i64 (j : Int)) := by rw [hc1 _ _ (by simp; omega)]; simp [go_sem]
  have d0 : w1.cell? ⟨w.heap.size + 1, 0, none⟩ = some (.slice A.va t.nv A.vc) := by rw [hc1 _ _ (by simp)]; simp [go_sem]
  have d1 : w1.cell? ⟨w.heap.size + 1, 1, none⟩ = some (.slice A.la t.d.n A.lc) := by rw [hc1 _ _ (by simp)]; simp [go_sem]
  have d2 : w1.cell? ⟨w.heap.size + 1, 2, none⟩ = some (.slice A.ia t.d.m A.ic) := by rw [hc1 _ _ (by simp)]; simp [go_sem]
  have d3 : w1.cell? ⟨w.heap.size + 1, 3, none⟩ = some (.slice A.xa t.d.x A.xc) := by rw [hc1 _ _ (by simp)]; simp [go_sem]
  have d4 : w1.cell? ⟨w.heap.size + 1, 4, none⟩ = some (.int .i64 t.d.used) := by rw [hc1 _ _ (by simp)]; simp [go_sem]
  have d5 : w1.cell? ⟨w.heap.size + 1, 5, none⟩ = some (.int .i64 t.d.live) := by rw [hc1 _ _ (by simp)]; simp [go_sem]
  have d6 : w1.cell? ⟨w.heap.size + 1, 6, none⟩ = some (.int .i64 t.d.turns) := by rw [hc1 _ _ (by simp)]; simp [go_sem]
  have HB1 := hide ((unhide HB).trans (hb1.mono (unhide HB).size))
  clear hb1 hc1 hf1 hcg
  go_wp2_with fail
  refine wp_region_quiet (C := fun w' => Below w1.heap.size w1 w') (by kernel_rfl) (by kernel_rfl) ((Below.refl _ _).drew) ?_
  show wpQuiet _ _ _ _ [_, _, _, _, _, _, _, _, _] _
  refine wpQuiet_step (fun K hK => ?_)
  go_simp
  apply Exists.intro
  refine And.intro (fun w' hw' => ?_) (hK _ ?_)
  · obtain ⟨hc', hf'⟩ := bcell hw'
    go_simp
    first | rfl | exact ⟨rfl, rfl⟩ | exact ⟨rfl⟩
  clear hK K
  refine wpQuiet_step (fun K hK => ?_)
  go_simp
  refine ⟨_, fun w' hw' => rfl, hK _ ?_⟩
  clear hK K
  refine wpQuiet_step (fun K hK => ?_)
  go_simp
  refine ⟨_, fun w' hw' => rfl, hK _ ?_⟩
  clear hK K
  refine wpQuiet_step (fun K hK => ?_)
  go_simp
  apply Exists.intro
  refine And.intro (fun w' hw' => ?_) (hK _ ?_)
  · obtain ⟨hc', hf'⟩ := bcell hw'
    go_simp
    first | rfl | exact ⟨rfl, rfl⟩ | exact ⟨rfl⟩
  clear hK K
  refine wpQuiet_step (fun K hK => ?_)
  go_simp
  refine ⟨_, fun w' hw' => rfl, hK _ ?_⟩
  clear hK K
  refine wpQuiet_step (fun K hK => ?_)
  go_simp
  apply Exists.intro
  refine And.intro (fun w' hw' => ?_) (hK _ ?_)
  · obtain ⟨hc', hf'⟩ := bcell hw'
    go_simp
    first | rfl | exact ⟨rfl, rfl⟩ | exact ⟨rfl⟩
  clear hK K
  refine wpQuiet_step (fun K hK => ?_)
  go_simp
  refine ⟨_, fun w' hw' => rfl, hK _ ?_⟩
  clear hK K
  refine wpQuiet_step (fun K hK => ?_)
  go_simp
  refine ⟨_, fun w' hw' => rfl, hK _ ?_⟩
  clear hK K
  refine wpQuiet_step (fun K hK => ?_)
  go_simp
  refine ⟨_, fun w' hw' => rfl, hK _ ?_⟩
  clear hK K
  refine wpQuiet_nil ?_
  intro w2 hw2
  have HB2 := hide ((unhide HB1).trans (hw2.mono (unhide HB1).size))
  clear hw2
  go_wp2
  go_ret
  exact ⟨rfl, unhide HB2⟩
end Go.Proofs.YtfceeijdmilieaaGreat
