/-
  StG.
-/
import Derived.Test.YtfceeijdmilieaaGreatStFP
namespace Go.Proofs.YtfceeijdmilieaaGreat
open Go.RowKit
set_option linter.unusedVariables false
attribute [local go_sem] run_store_float run_equalIn_float

set_option maxHeartbeats 400000 in
theorem isCount_any (n : Int) (w : World) :
    Calls Tryz.prog 59 #[.int .i64 n] w fun e w' => e = .returned (.bool (decide (0 ≤ n) && decide (n ≤ 1000000000000))) ∧ Below w.heap.size w w' := by
  go_enter Tryz.func59, Tryz.ntmps59
  go_wp2
  all_goals (go_ret; refine ⟨?_, Below.refl _ _⟩; first | (simp_all; done) | (simp_all; omega))

set_option maxHeartbeats 400000 in
theorem isThere_any (a : Option Addr) (n cap : Nat) (i : Int) (w : World) :
    Calls Tryz.prog 58 #[.int .i64 i, .slice a n cap] w fun e w' => e = .returned (.bool (decide (0 ≤ i) && decide (i < n))) ∧ Below w.heap.size w w' := by
  go_enter Tryz.func58, Tryz.ntmps58
  go_wp2
  all_goals (go_ret; refine ⟨?_, Below.refl _ _⟩; first | (simp_all; done) | (simp_all; omega))

/-- What a site must hold besides its place. -/
def okC (x : Si) : Prop := x.key.size ≤ 4000 ∧ 0 ≤ x.hits ∧ 0 ≤ x.misses ∧ x.hits ≤ 1000000000000 ∧ x.misses ≤ 1000000000000
theorem okS_C {s : Sto} {x : Si} (h : okS s x) : okC x := ⟨h.1, h.2.1, h.2.2.1, h.2.2.2.1, h.2.2.2.2.1⟩
theorem okS_none {s : Sto} {x : Si} (hC : okC x) (h : x.shape = -1) : tells (okS s x) = (x.place == 0) := by
  by_cases e : x.place = 0
  · rw [tells_yes (p := okS s x) ⟨hC.1, hC.2.1, hC.2.2.1, hC.2.2.2.1, hC.2.2.2.2, .inl ⟨h, e⟩⟩]; simp [e]
  · rw [tells_no (p := okS s x) (fun q => by rcases q.2.2.2.2.2 with q | q <;> omega)]; simp [e]
theorem okS_far {s : Sto} {x : Si} (h1 : x.shape ≠ -1) (h : ¬ (0 ≤ x.shape ∧ x.shape < s.nf ∧ 0 ≤ x.place)) : tells (okS s x) = false :=
  tells_no (fun q => by
    rcases q.2.2.2.2.2 with q | q
    · exact h1 q.1
    · exact h ⟨q.1, q.2.1, q.2.2.1⟩)
theorem okS_at {s : Sto} {x : Si} {j : Nat} (hC : okC x) (hj : x.shape = j) (hn : j < s.nf) (hp : 0 ≤ x.place) : tells (okS s x) = (plcI s.F j x.key == x.place) := by
  by_cases e : plcI s.F j x.key = x.place
  · rw [tells_yes (p := okS s x) ⟨hC.1, hC.2.1, hC.2.2.1, hC.2.2.2.1, hC.2.2.2.2, .inr ⟨by omega, by omega, hp, by rw [hj]; exact e⟩⟩]; simp [e]
  · rw [tells_no (p := okS s x) (fun q => by
      rcases q.2.2.2.2.2 with q | q
      · omega
      · have := q.2.2.2; rw [hj] at this; exact e this)]
    simp [e]

abbrev SJ (j : Int) (x : Si) : Value := .agg #[.string x.key, .int .i64 j, .int .i64 x.place, .int .i64 x.hits, .int .i64 x.misses]

set_option maxRecDepth 100000 in
set_option maxHeartbeats 4000000 in
theorem l3site_bad (m fc : Nat) (ta : Option Addr) (tc : Nat) (sa : Option Addr) (sc : Nat) (s : Sto) (x : Si) (w : World) (hk : x.key.size ≤ maxLen) (h : ¬ okC x) :
    Calls Tryz.prog 14 #[StV (some ⟨m, 0, none⟩) fc ta tc sa sc s, SV x] w fun e w' => e = .returned (.bool false) ∧ Below w.heap.size w w' := by
  unfold maxLen at hk
  have hb0 : ∀ o1 o2, Below w.heap.size w ((w.alloc o1).alloc o2) := fun o1 o2 => ((Below.refl _ _).alloc (Nat.le_refl _) _).alloc (by simp) _
  have HB := hide hb0
  clear hb0
  have HC := hide h
  clear h
  by_cases h1 : 4000 < x.key.size
  · clear HC
    go_enter Tryz.func14, Tryz.ntmps14
    go_wp2
    go_ret
    exact ⟨rfl, unhide HB _ _⟩
  by_cases h2 : x.hits < 0
  · clear HC
    go_enter Tryz.func14, Tryz.ntmps14
    go_wp2
    go_ret
    exact ⟨rfl, unhide HB _ _⟩
  by_cases h3 : x.misses < 0
  · clear HC
    go_enter Tryz.func14, Tryz.ntmps14
    go_wp2
    go_ret
    exact ⟨rfl, unhide HB _ _⟩
  by_cases h4 : 1000000000000 < x.hits
  · clear HC
    go_enter Tryz.func14, Tryz.ntmps14
    go_wp2
    go_ret
    exact ⟨rfl, unhide HB _ _⟩
  have h5 : 1000000000000 < x.misses := by
    have := unhide HC
    rcases Int.lt_or_le 1000000000000 x.misses with q | q
    · exact q
    · exact absurd (⟨by omega, by omega, by omega, by omega, q⟩ : okC x) this
  clear HC
  go_enter Tryz.func14, Tryz.ntmps14
  go_wp2
  go_ret
  exact ⟨rfl, unhide HB _ _⟩

set_option maxRecDepth 100000 in
set_option maxHeartbeats 4000000 in
theorem siteHolds_bad (a : Option Addr) (n cp : Nat) (x : Si) (w : World) (hk : x.key.size ≤ maxLen) (h : ¬ okC x) :
    Calls Tryz.prog 35 #[SV x, .slice a n cp] w fun e w' => e = .returned (.bool false) ∧ Below w.heap.size w w' := by
  unfold maxLen at hk
  have hb0 : ∀ o1, Below w.heap.size w (w.alloc o1) := fun o1 => (Below.refl _ _).alloc (Nat.le_refl _) _
  have HB := hide hb0
  clear hb0
  have HC := hide h
  clear h
  by_cases h1 : 4000 < x.key.size
  · clear HC
    go_enter Tryz.func35, Tryz.ntmps35
    go_wp2
    go_ret
    exact ⟨rfl, unhide HB _⟩
  by_cases h2 : 0 ≤ x.hits ∧ x.hits ≤ 1000000000000
  case neg =>
    have hd : (decide (0 ≤ x.hits) && decide (x.hits ≤ 1000000000000)) = false := by simp; omega
    clear HC h2
    go_enter Tryz.func35, Tryz.ntmps35
    go_wp2_with fail
    refine (isCount_any x.hits _).mono ?_
    rintro e w1 ⟨rfl, hb1⟩
    rw [hd]
    have HB1 := hide ((unhide HB _).trans (hb1.mono (unhide HB _).size))
    clear hb1
    go_wp2
    go_ret
    exact ⟨rfl, unhide HB1⟩
  have hd : (decide (0 ≤ x.hits) && decide (x.hits ≤ 1000000000000)) = true := by simp; omega
  have hd2 : (decide (0 ≤ x.misses) && decide (x.misses ≤ 1000000000000)) = false := by
    have := unhide HC
    rw [Bool.eq_false_iff]
    intro q
    simp at q
    exact this ⟨by omega, by omega, by omega, by omega, by omega⟩
  clear HC h2
  go_enter Tryz.func35, Tryz.ntmps35
  go_wp2_with fail
  refine (isCount_any x.hits _).mono ?_
  rintro e w1 ⟨rfl, hb1⟩
  rw [hd]
  obtain ⟨hc1, hf1⟩ := bcell hb1
  have hz1 := hb1.size
  simp at hz1
  have y1 : w.heap.size < w1.heap.size := by omega
  have HB1 := hide ((unhide HB _).trans (hb1.mono (unhide HB _).size))
  clear hb1
  go_wp2_with fail
  refine (isCount_any x.misses _).mono ?_
  rintro e w2 ⟨rfl, hb2⟩
  rw [hd2]
  have HB2 := hide ((unhide HB1).trans (hb2.mono (unhide HB1).size))
  clear hb2 hc1 hf1
  go_wp2
  go_ret
  exact ⟨rfl, unhide HB2⟩

set_option maxRecDepth 100000 in
set_option maxHeartbeats 4000000 in
theorem l3site_none (m fc : Nat) (ta : Option Addr) (tc : Nat) (sa : Option Addr) (sc : Nat) (s : Sto) (x : Si) (w : World) (hC : okC x) :
    Calls Tryz.prog 14 #[StV (some ⟨m, 0, none⟩) fc ta tc sa sc s, SJ (-1) x] w fun e w' => e = .returned (.bool (x.place == 0)) ∧ Below w.heap.size w w' := by
  obtain ⟨h1, h2, h3, h4, h5⟩ := hC
  have hb0 : ∀ o1 o2, Below w.heap.size w ((w.alloc o1).alloc o2) := fun o1 o2 => ((Below.refl _ _).alloc (Nat.le_refl _) _).alloc (by simp) _
  have HB := hide hb0
  clear hb0
  go_enter Tryz.func14, Tryz.ntmps14
  go_wp2
  go_ret
  exact ⟨rfl, unhide HB _ _⟩

set_option maxRecDepth 100000 in
set_option maxHeartbeats 8000000 in
theorem l3site_at (m fc : Nat) (ta : Option Addr) (tc : Nat) (sa : Option Addr) (sc : Nat) (s : Sto) (x : Si) (i : Int) (w : World) (hC : okC x) (hF : ShRow w m s.nf s.F) (h0 : forestOk s.nf s.F = 0) (hi : i ≠ -1) :
    Calls Tryz.prog 14 #[StV (some ⟨m, 0, none⟩) fc ta tc sa sc s, SJ i x] w fun e w' => e = .returned (.bool (decide (0 ≤ i ∧ i < s.nf ∧ 0 ≤ x.place) && (plcI s.F i.toNat x.key == x.place))) ∧ Below w.heap.size w w' := by
  obtain ⟨h1, h2, h3, h4, h5⟩ := hC
  have hml := hF.lt
  obtain ⟨W, hW⟩ : ∃ W, W = (w.alloc (.cells #[.slice (some ⟨m, 0, none⟩) s.nf fc, .slice ta s.nt tc, .slice sa s.ns sc] 37)).alloc (.cells #[.string x.key, .int .i64 i, .int .i64 x.place, .int .i64 x.hits, .int .i64 x.misses] 54) := ⟨_, rfl⟩
  have hbW : Below w.heap.size w W := by rw [hW]; exact ((Below.refl _ _).alloc (Nat.le_refl _) _).alloc (by simp) _
  have hzW : W.heap.size = w.heap.size + 1 + 1 := by rw [hW]; simp
  have x0 : W.cell? ⟨w.heap.size, 0, none⟩ = some (.slice (some ⟨m, 0, none⟩) s.nf fc) := by rw [hW]; simp [go_sem]
  have y0 : W.cell? ⟨w.heap.size + 1, 0, none⟩ = some (.string x.key) := by rw [hW]; simp [go_sem]
  have y1 : W.cell? ⟨w.heap.size + 1, 1, none⟩ = some (.int .i64 i) := by rw [hW]; simp [go_sem]
  have y2 : W.cell? ⟨w.heap.size + 1, 2, none⟩ = some (.int .i64 x.place) := by rw [hW]; simp [go_sem]
  have l0 : w.heap.size < W.heap.size := by omega
  have l1 : w.heap.size + 1 < W.heap.size := by omega
  have lm : m < W.heap.size := by omega
  have HFW := hide (hF.below hbW hml)
  have HBW := hide hbW
  have hi' : (i == -1) = false := by simpa using hi
  have H0 := hide h0
  clear hbW hzW hF hi h0
  by_cases hj : 0 ≤ i ∧ i < s.nf
  case neg =>
    have hd : (decide ((0 : Int) ≤ i) && decide (i < (s.nf : Int))) = false := by simp; omega
    have HT : Hid ((decide (0 ≤ i ∧ i < s.nf ∧ 0 ≤ x.place) && (plcI s.F i.toNat x.key == x.place)) = false) := hide (by rw [decide_eq_false (fun q => hj ⟨q.1, q.2.1⟩)]; rfl)
    clear hj
    go_enter Tryz.func14, Tryz.ntmps14
    go_wp2_with fail
    rw [← hW]
    clear hW
    refine wp_region_quiet (C := fun w' => Below W.heap.size W w') (by kernel_rfl) (by kernel_rfl) ((Below.refl _ _).drew) ?_
    show wpQuiet _ _ _ _ [_, _, _, _, _, _, _, _, _, _, _, _, _, _, _, _, _, _, _, _, _, _, _] _
    refine wpQuiet_step (fun K hK => ?_)
    go_simp
    refine ⟨_, fun w' hw' => rfl, hK _ ?_⟩
    clear hK K
    refine wpQuiet_step (fun K hK => ?_)
    go_simp
    apply Exists.intro
    refine And.intro (fun w' hw' => ?_) (hK _ ?_)
    · obtain ⟨hc', hf'⟩ := bcell hw'
      go_simp
      first | rfl | exact ⟨rfl, rfl⟩ | exact ⟨rfl⟩
    clear hK K
    refine wpQuiet_step (fun K hK => ?_)
    go_simp
    refine ⟨_, fun w' hw' => rfl, hK _ ?_⟩
    clear hK K
    refine wpQuiet_step (fun K hK => ?_)
    go_simp
    apply Exists.intro
    refine And.intro (fun w' hw' => ?_) (hK _ ?_)
    · obtain ⟨hc', hf'⟩ := bcell hw'
      go_simp
      first | rfl | exact ⟨rfl, rfl⟩ | exact ⟨rfl⟩
    clear hK K
    refine wpQuiet_step (fun K hK => ?_)
    go_simp
    apply Exists.intro
    refine And.intro (fun w' hw' => ?_) (hK _ ?_)
    · refine ((hd ▸ l2shape_any m s.nf fc i _)).mono ?_
      rintro e w'' ⟨rfl, hb⟩
      exact ⟨rfl, hw'.trans (hb.mono hw'.size)⟩
    clear hK K
    refine wpQuiet_step (fun K hK => ?_)
    go_simp
    refine ⟨_, fun w' hw' => rfl, hK _ ?_⟩
    clear hK K
    go_big_quiet_step (fail)
    go_big_quiet_step (fail)
    go_big_quiet_step (fail)
    refine wpQuiet_step (fun K hK => ?_)
    go_simp
    refine ⟨_, fun w' hw' => rfl, hK _ ?_⟩
    clear hK K
    refine wpQuiet_step (fun K hK => ?_)
    go_simp
    refine ⟨_, fun w' hw' => rfl, hK _ ?_⟩
    clear hK K
    go_big_quiet_step (fail)
    go_big_quiet_step (fail)
    go_big_quiet_step (fail)
    go_big_quiet_step (fail)
    go_big_quiet_step (fail)
    go_big_quiet_step (fail)
    go_big_quiet_step (fail)
    go_big_quiet_step (fail)
    go_big_quiet_step (fail)
    go_big_quiet_step (fail)
    refine wpQuiet_step (fun K hK => ?_)
    go_simp
    refine ⟨_, fun w' hw' => rfl, hK _ ?_⟩
    clear hK K
    refine wpQuiet_step (fun K hK => ?_)
    go_simp
    refine ⟨_, fun w' hw' => rfl, hK _ ?_⟩
    clear hK K
    refine wpQuiet_nil ?_
    intro w2 hw2
    have HB2 := hide ((unhide HBW).trans (hw2.mono (unhide HBW).size))
    clear hw2
    go_wp2
    go_ret
    exact ⟨by rw [unhide HT] <;> rfl, unhide HB2⟩
  have hd : (decide ((0 : Int) ≤ i) && decide (i < (s.nf : Int))) = true := by simp; omega
  by_cases hp : 0 ≤ x.place
  case neg =>
    have HT : Hid ((decide (0 ≤ i ∧ i < s.nf ∧ 0 ≤ x.place) && (plcI s.F i.toNat x.key == x.place)) = false) := hide (by rw [decide_eq_false (fun q => hp q.2.2)]; rfl)
    have hp' : decide (0 ≤ x.place) = false := by simpa using hp
    clear hj hp
    go_enter Tryz.func14, Tryz.ntmps14
    go_wp2_with fail
    rw [← hW]
    clear hW
    refine wp_region_quiet (C := fun w' => Below W.heap.size W w') (by kernel_rfl) (by kernel_rfl) ((Below.refl _ _).drew) ?_
    show wpQuiet _ _ _ _ [_, _, _, _, _, _, _, _, _, _, _, _, _, _, _, _, _, _, _, _, _, _, _] _
    refine wpQuiet_step (fun K hK => ?_)
    go_simp
    refine ⟨_, fun w' hw' => rfl, hK _ ?_⟩
    clear hK K
    refine wpQuiet_step (fun K hK => ?_)
    go_simp
    apply Exists.intro
    refine And.intro (fun w' hw' => ?_) (hK _ ?_)
    · obtain ⟨hc', hf'⟩ := bcell hw'
      go_simp
      first | rfl | exact ⟨rfl, rfl⟩ | exact ⟨rfl⟩
    clear hK K
    refine wpQuiet_step (fun K hK => ?_)
    go_simp
    refine ⟨_, fun w' hw' => rfl, hK _ ?_⟩
    clear hK K
    refine wpQuiet_step (fun K hK => ?_)
    go_simp
    apply Exists.intro
    refine And.intro (fun w' hw' => ?_) (hK _ ?_)
    · obtain ⟨hc', hf'⟩ := bcell hw'
      go_simp
      first | rfl | exact ⟨rfl, rfl⟩ | exact ⟨rfl⟩
    clear hK K
    refine wpQuiet_step (fun K hK => ?_)
    go_simp
    apply Exists.intro
    refine And.intro (fun w' hw' => ?_) (hK _ ?_)
    · refine ((hd ▸ l2shape_any m s.nf fc i _)).mono ?_
      rintro e w'' ⟨rfl, hb⟩
      exact ⟨rfl, hw'.trans (hb.mono hw'.size)⟩
    clear hK K
    refine wpQuiet_step (fun K hK => ?_)
    go_simp
    refine ⟨_, fun w' hw' => rfl, hK _ ?_⟩
    clear hK K
    refine wpQuiet_step (fun K hK => ?_)
    go_simp
    refine ⟨_, fun w' hw' => rfl, hK _ ?_⟩
    clear hK K
    refine wpQuiet_step (fun K hK => ?_)
    go_simp
    apply Exists.intro
    refine And.intro (fun w' hw' => ?_) (hK _ ?_)
    · obtain ⟨hc', hf'⟩ := bcell hw'
      go_simp
      first | rfl | exact ⟨rfl, rfl⟩ | exact ⟨rfl⟩
    clear hK K
    refine wpQuiet_step (fun K hK => ?_)
    go_simp
    refine ⟨_, fun w' hw' => rfl, hK _ ?_⟩
    clear hK K
    refine wpQuiet_step (fun K hK => ?_)
    go_simp
    refine ⟨_, fun w' hw' => rfl, hK _ ?_⟩
    clear hK K
    refine wpQuiet_step (fun K hK => ?_)
    go_simp
    refine ⟨_, fun w' hw' => rfl, hK _ ?_⟩
    clear hK K
    go_big_quiet_step (fail)
    go_big_quiet_step (fail)
    go_big_quiet_step (fail)
    go_big_quiet_step (fail)
    go_big_quiet_step (fail)
    go_big_quiet_step (fail)
    go_big_quiet_step (fail)
    go_big_quiet_step (fail)
    go_big_quiet_step (fail)
    go_big_quiet_step (fail)
    refine wpQuiet_step (fun K hK => ?_)
    go_simp
    refine ⟨_, fun w' hw' => rfl, hK _ ?_⟩
    clear hK K
    refine wpQuiet_step (fun K hK => ?_)
    go_simp
    refine ⟨_, fun w' hw' => rfl, hK _ ?_⟩
    clear hK K
    refine wpQuiet_nil ?_
    intro w2 hw2
    have HB2 := hide ((unhide HBW).trans (hw2.mono (unhide HBW).size))
    clear hw2
    go_wp2
    go_ret
    exact ⟨by rw [unhide HT] <;> rfl, unhide HB2⟩
  have HT : Hid ((decide (0 ≤ i ∧ i < s.nf ∧ 0 ≤ x.place) && (plcI s.F i.toNat x.key == x.place)) = (plcI s.F i.toNat x.key == x.place)) := hide (by rw [decide_eq_true ⟨hj.1, hj.2, hp⟩]; rfl)
  have hp' : decide (0 ≤ x.place) = true := by simpa using hp
  obtain ⟨j, rfl⟩ : ∃ j : Nat, i = j := ⟨i.toNat, by omega⟩
  have hjn : j < s.nf := by omega
  rw [Int.toNat_natCast] at HT ⊢
  clear hj hp
  go_enter Tryz.func14, Tryz.ntmps14
  go_wp2_with fail
  rw [← hW]
  clear hW
  refine wp_region_quiet (C := fun w' => Below W.heap.size W w') (by kernel_rfl) (by kernel_rfl) ((Below.refl _ _).drew) ?_
  show wpQuiet _ _ _ _ [_, _, _, _, _, _, _, _, _, _, _, _, _, _, _, _, _, _, _, _, _, _, _] _
  refine wpQuiet_step (fun K hK => ?_)
  go_simp
  refine ⟨_, fun w' hw' => rfl, hK _ ?_⟩
  clear hK K
  refine wpQuiet_step (fun K hK => ?_)
  go_simp
  apply Exists.intro
  refine And.intro (fun w' hw' => ?_) (hK _ ?_)
  · obtain ⟨hc', hf'⟩ := bcell hw'
    go_simp
    first | rfl | exact ⟨rfl, rfl⟩ | exact ⟨rfl⟩
  clear hK K
  refine wpQuiet_step (fun K hK => ?_)
  go_simp
  refine ⟨_, fun w' hw' => rfl, hK _ ?_⟩
  clear hK K
  refine wpQuiet_step (fun K hK => ?_)
  go_simp
  apply Exists.intro
  refine And.intro (fun w' hw' => ?_) (hK _ ?_)
  · obtain ⟨hc', hf'⟩ := bcell hw'
    go_simp
    first | rfl | exact ⟨rfl, rfl⟩ | exact ⟨rfl⟩
  clear hK K
  refine wpQuiet_step (fun K hK => ?_)
  go_simp
  apply Exists.intro
  refine And.intro (fun w' hw' => ?_) (hK _ ?_)
  · refine ((hd ▸ l2shape_any m s.nf fc (j : Int) _)).mono ?_
    rintro e w'' ⟨rfl, hb⟩
    exact ⟨rfl, hw'.trans (hb.mono hw'.size)⟩
  clear hK K
  refine wpQuiet_step (fun K hK => ?_)
  go_simp
  refine ⟨_, fun w' hw' => rfl, hK _ ?_⟩
  clear hK K
  refine wpQuiet_step (fun K hK => ?_)
  go_simp
  refine ⟨_, fun w' hw' => rfl, hK _ ?_⟩
  clear hK K
  refine wpQuiet_step (fun K hK => ?_)
  go_simp
  apply Exists.intro
  refine And.intro (fun w' hw' => ?_) (hK _ ?_)
  · obtain ⟨hc', hf'⟩ := bcell hw'
    go_simp
    first | rfl | exact ⟨rfl, rfl⟩ | exact ⟨rfl⟩
  clear hK K
  refine wpQuiet_step (fun K hK => ?_)
  go_simp
  refine ⟨_, fun w' hw' => rfl, hK _ ?_⟩
  clear hK K
  refine wpQuiet_step (fun K hK => ?_)
  go_simp
  refine ⟨_, fun w' hw' => rfl, hK _ ?_⟩
  clear hK K
  refine wpQuiet_step (fun K hK => ?_)
  go_simp
  refine ⟨_, fun w' hw' => rfl, hK _ ?_⟩
  clear hK K
  refine wpQuiet_step (fun K hK => ?_)
  go_simp
  refine ⟨_, fun w' hw' => rfl, hK _ ?_⟩
  clear hK K
  refine wpQuiet_step (fun K hK => ?_)
  go_simp
  apply Exists.intro
  refine And.intro (fun w' hw' => ?_) (hK _ ?_)
  · obtain ⟨hc', hf'⟩ := bcell hw'
    go_simp
    first | rfl | exact ⟨rfl, rfl⟩ | exact ⟨rfl⟩
  clear hK K
  refine wpQuiet_step (fun K hK => ?_)
  go_simp
  refine ⟨_, fun w' hw' => rfl, hK _ ?_⟩
  clear hK K
  refine wpQuiet_step (fun K hK => ?_)
  go_simp
  apply Exists.intro
  refine And.intro (fun w' hw' => ?_) (hK _ ?_)
  · obtain ⟨hc', hf'⟩ := bcell hw'
    go_simp
    first | rfl | exact ⟨rfl, rfl⟩ | exact ⟨rfl⟩
  clear hK K
  refine wpQuiet_step (fun K hK => ?_)
  go_simp
  refine ⟨_, fun w' hw' => rfl, hK _ ?_⟩
  clear hK K
  refine wpQuiet_step (fun K hK => ?_)
  go_simp
  apply Exists.intro
  refine And.intro (fun w' hw' => ?_) (hK _ ?_)
  · obtain ⟨hc', hf'⟩ := bcell hw'
    go_simp
    first | rfl | exact ⟨rfl, rfl⟩ | exact ⟨rfl⟩
  clear hK K
  refine wpQuiet_step (fun K hK => ?_)
  go_simp
  apply Exists.intro
  refine And.intro (fun w' hw' => ?_) (hK _ ?_)
  · refine (l2at_any m s.nf fc j x.key s.F _ ((unhide HFW).below hw' lm) (forestOk_zero (unhide H0)).1 (forestOk_zero (unhide H0)).2.1 (forestOk_zero (unhide H0)).2.2.1 (forestOk_zero (unhide H0)).2.2.2.2 hjn).mono ?_
    rintro e w'' ⟨rfl, hb⟩
    exact ⟨rfl, hw'.trans (hb.mono hw'.size)⟩
  clear hK K
  refine wpQuiet_step (fun K hK => ?_)
  go_simp
  refine ⟨_, fun w' hw' => rfl, hK _ ?_⟩
  clear hK K
  refine wpQuiet_step (fun K hK => ?_)
  go_simp
  apply Exists.intro
  refine And.intro (fun w' hw' => ?_) (hK _ ?_)
  · obtain ⟨hc', hf'⟩ := bcell hw'
    go_simp
    first | rfl | exact ⟨rfl, rfl⟩ | exact ⟨rfl⟩
  clear hK K
  refine wpQuiet_step (fun K hK => ?_)
  go_simp
  refine ⟨_, fun w' hw' => rfl, hK _ ?_⟩
  clear hK K
  refine wpQuiet_step (fun K hK => ?_)
  go_simp
  refine ⟨_, fun w' hw' => rfl, hK _ ?_⟩
  clear hK K
  refine wpQuiet_step (fun K hK => ?_)
  go_simp
  refine ⟨_, fun w' hw' => rfl, hK _ ?_⟩
  clear hK K
  refine wpQuiet_nil ?_
  intro w2 hw2
  have HB2 := hide ((unhide HBW).trans (hw2.mono (unhide HBW).size))
  clear hw2
  go_wp2
  go_ret
  exact ⟨by rw [unhide HT] <;> rfl, unhide HB2⟩

theorem l3site_any (m fc : Nat) (ta : Option Addr) (tc : Nat) (sa : Option Addr) (sc : Nat) (s : Sto) (x : Si) (w : World) (hk : x.key.size ≤ maxLen) (hF : ShRow w m s.nf s.F) (h0 : forestOk s.nf s.F = 0) :
    Calls Tryz.prog 14 #[StV (some ⟨m, 0, none⟩) fc ta tc sa sc s, SV x] w fun e w' => e = .returned (.bool (tells (okS s x))) ∧ Below w.heap.size w w' := by
  by_cases hC : okC x
  case neg =>
    have h := l3site_bad m fc ta tc sa sc s x w hk hC
    rwa [← tells_no (p := okS s x) (fun q => hC (okS_C q))] at h
  by_cases h1 : x.shape = -1
  · have h := l3site_none m fc ta tc sa sc s x w hC
    rw [← okS_none (s := s) hC h1] at h
    unfold SV
    rw [h1]
    exact h
  · have h := l3site_at m fc ta tc sa sc s x x.shape w hC hF h0 h1
    have e : (decide (0 ≤ x.shape ∧ x.shape < s.nf ∧ 0 ≤ x.place) && (plcI s.F x.shape.toNat x.key == x.place)) = tells (okS s x) := by
      by_cases q : 0 ≤ x.shape ∧ x.shape < s.nf ∧ 0 ≤ x.place
      · rw [okS_at (j := x.shape.toNat) hC (by omega) (by omega) q.2.2, decide_eq_true q]; rfl
      · rw [okS_far h1 q, decide_eq_false q]; rfl
    rw [e] at h
    exact h
end Go.Proofs.YtfceeijdmilieaaGreat
