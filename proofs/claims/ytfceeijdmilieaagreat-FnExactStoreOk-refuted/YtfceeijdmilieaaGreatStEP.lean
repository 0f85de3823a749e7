/-
  StE.
-/
import Derived.Test.YtfceeijdmilieaaGreatStAP
import Derived.Test.YtfceeijdmilieaaGreatDkNP
import Derived.Test.YtfceeijdmilieaaGreatBr14
namespace Go.Proofs.YtfceeijdmilieaaGreat
open Go.RowKit
set_option linter.unusedVariables false
attribute [local go_sem] run_store_float run_equalIn_float

def bare (d : Dc) : Prop := d.n = 0 ∧ d.m = 0 ∧ d.x = 0 ∧ d.used = 0 ∧ d.live = 0 ∧ d.turns = 0
def okV (v : Vl) : Bool := v.ok && v.kind != 0
/-- A table with shape j. -/
def okJ (s : Sto) (j : Nat) (t : Tb) : Prop := (t.nv : Int) = (s.F j).count ∧ bare t.d ∧ ∀ i, i < t.nv → okV (t.V i) = true
def okT (s : Sto) (D : Int) (t : Tb) : Prop :=
  (t.shape = -1 ∧ t.nv = 0 ∧ D = 0) ∨ (0 ≤ t.shape ∧ t.shape < s.nf ∧ okJ s t.shape.toNat t)
def okS (s : Sto) (x : Si) : Prop := x.key.size ≤ 4000 ∧ 0 ≤ x.hits ∧ 0 ≤ x.misses ∧ x.hits ≤ 1000000000000 ∧ x.misses ≤ 1000000000000 ∧ ((x.shape = -1 ∧ x.place = 0) ∨ (0 ≤ x.shape ∧ x.shape < s.nf ∧ 0 ≤ x.place ∧ plcI s.F x.shape.toNat x.key = x.place))
open Classical in
noncomputable def storeOk (s : Sto) (D : Nat → Int) : Int :=
  if forestOk s.nf s.F = 0 then if s.nt ≤ 100 ∧ s.ns ≤ 50 then if ∀ i, i < s.nt → okT s (D i) (s.T i) then if ∀ i, i < s.ns → okS s (s.S i) then 0 else 4 else 3 else 2 else 1
theorem storeOk1 {s : Sto} {D : Nat → Int} (h : forestOk s.nf s.F ≠ 0) : storeOk s D = 1 := if_neg h
theorem storeOk2 {s : Sto} {D : Nat → Int} (h1 : forestOk s.nf s.F = 0) (h : ¬ (s.nt ≤ 100 ∧ s.ns ≤ 50)) : storeOk s D = 2 := by unfold storeOk; rw [if_pos h1, if_neg h]
theorem storeOk3 {s : Sto} {D : Nat → Int} (h1 : forestOk s.nf s.F = 0) (h2 : s.nt ≤ 100 ∧ s.ns ≤ 50) (h : ¬ ∀ i, i < s.nt → okT s (D i) (s.T i)) : storeOk s D = 3 := by unfold storeOk; rw [if_pos h1, if_pos h2, if_neg h]
theorem storeOk4 {s : Sto} {D : Nat → Int} (h1 : forestOk s.nf s.F = 0) (h2 : s.nt ≤ 100 ∧ s.ns ≤ 50) (h3 : ∀ i, i < s.nt → okT s (D i) (s.T i)) (h : ¬ ∀ i, i < s.ns → okS s (s.S i)) : storeOk s D = 4 := by unfold storeOk; rw [if_pos h1, if_pos h2, if_pos h3, if_neg h]
theorem storeOk0 {s : Sto} {D : Nat → Int} (h1 : forestOk s.nf s.F = 0) (h2 : s.nt ≤ 100 ∧ s.ns ≤ 50) (h3 : ∀ i, i < s.nt → okT s (D i) (s.T i)) (h : ∀ i, i < s.ns → okS s (s.S i)) : storeOk s D = 0 := by unfold storeOk; rw [if_pos h1, if_pos h2, if_pos h3, if_pos h]
theorem storeOk_zero {s : Sto} {D : Nat → Int} (h : storeOk s D = 0) : forestOk s.nf s.F = 0 ∧ (s.nt ≤ 100 ∧ s.ns ≤ 50) ∧ (∀ i, i < s.nt → okT s (D i) (s.T i)) ∧ ∀ i, i < s.ns → okS s (s.S i) := by
  unfold storeOk at h
  split at h
  · next h1 =>
    split at h
    · next h2 =>
      split at h
      · next h3 =>
        split at h
        · next h4 => exact ⟨h1, h2, h3, h4⟩
        · cases h
      · cases h
    · cases h
  · cases h

set_option maxHeartbeats 1000000 in
theorem l3bare_any (la : Option Addr) (lc : Nat) (ia : Option Addr) (ic : Nat) (xa : Option Addr) (xc : Nat) (d : Dc) (w : World) :
    Calls Tryz.prog 27 #[Dv la lc ia ic xa xc d] w fun e w' => e = .returned (.bool (tells (bare d))) ∧ Below w.heap.size w w' := by
  have hb1 : ∀ o, Below w.heap.size w (w.alloc o) := fun o => (Below.refl _ _).alloc (Nat.le_refl _) _
  have HB := hide hb1
  clear hb1
  by_cases h1 : ((d.n : Int) == 0) = true
  case neg =>
    have HT := hide (tells_no (p := bare d) (fun h => by unfold bare at h; simp at h1; omega))
    have h1' : ((d.n : Int) == 0) = false := by simpa using h1
    clear h1
    go_enter Tryz.func27, Tryz.ntmps27
    go_wp2
    go_ret
    exact ⟨by rw [unhide HT]; rfl, unhide HB _⟩
  by_cases h2 : ((d.m : Int) == 0) = true
  case neg =>
    have HT := hide (tells_no (p := bare d) (fun h => by unfold bare at h; simp at h2; omega))
    have h2' : ((d.m : Int) == 0) = false := by simpa using h2
    clear h2
    go_enter Tryz.func27, Tryz.ntmps27
    go_wp2
    go_ret
    exact ⟨by rw [unhide HT]; rfl, unhide HB _⟩
  by_cases h3 : ((d.x : Int) == 0) = true
  case neg =>
    have HT := hide (tells_no (p := bare d) (fun h => by unfold bare at h; simp at h3; omega))
    have h3' : ((d.x : Int) == 0) = false := by simpa using h3
    clear h3
    go_enter Tryz.func27, Tryz.ntmps27
    go_wp2
    go_ret
    exact ⟨by rw [unhide HT]; rfl, unhide HB _⟩
  by_cases h4 : (d.used == 0) = true
  case neg =>
    have HT := hide (tells_no (p := bare d) (fun h => by unfold bare at h; simp at h4; omega))
    have h4' : (d.used == 0) = false := by simpa using h4
    clear h4
    go_enter Tryz.func27, Tryz.ntmps27
    go_wp2
    go_ret
    exact ⟨by rw [unhide HT]; rfl, unhide HB _⟩
  by_cases h5 : (d.live == 0) = true
  case neg =>
    have HT := hide (tells_no (p := bare d) (fun h => by unfold bare at h; simp at h5; omega))
    have h5' : (d.live == 0) = false := by simpa using h5
    clear h5
    go_enter Tryz.func27, Tryz.ntmps27
    go_wp2
    go_ret
    exact ⟨by rw [unhide HT]; rfl, unhide HB _⟩
  by_cases h6 : (d.turns == 0) = true
  case neg =>
    have HT := hide (tells_no (p := bare d) (fun h => by unfold bare at h; simp at h6; omega))
    have h6' : (d.turns == 0) = false := by simpa using h6
    clear h6
    go_enter Tryz.func27, Tryz.ntmps27
    go_wp2
    go_ret
    exact ⟨by rw [unhide HT]; rfl, unhide HB _⟩
  have HT := hide (tells_yes (p := bare d) (by simp at h1 h2 h3 h4 h5 h6; exact ⟨h1, h2, h3, h4, h5, h6⟩))
  go_enter Tryz.func27, Tryz.ntmps27
  go_wp2
  go_ret
  exact ⟨by rw [unhide HT]; rfl, unhide HB _⟩

/-- What a table asks of its dict's judgement. -/
def SpecD (la : Option Addr) (lc : Nat) (ia : Option Addr) (ic : Nat) (xa : Option Addr) (xc : Nat) (d : Dc) (D : Int) : Prop :=
  ∀ W : World, DAt W la ia xa d → Calls Tryz.prog 25 #[Dv la lc ia ic xa xc d] W fun e w' => e = .returned (.int .i64 D) ∧ Below W.heap.size W w'

set_option maxRecDepth 100000 in
set_option maxHeartbeats 2000000 in
theorem l3table_none (m fc : Nat) (ta : Option Addr) (tc : Nat) (sa : Option Addr) (sc : Nat) (s : Sto) (va : Option Addr) (vc : Nat) (la : Option Addr) (lc : Nat) (ia : Option Addr) (ic : Nat) (xa : Option Addr) (xc : Nat) (t : Tb) (D : Int) (w : World) (hA : DAt w la ia xa t.d) (hD : SpecD la lc ia ic xa xc t.d D) (hneg : t.shape < 0) :
    Calls Tryz.prog 13 #[StV (some ⟨m, 0, none⟩) fc ta tc sa sc s, TV va vc la lc ia ic xa xc t] w fun e w' => e = .returned (.bool (tells (okT s D t))) ∧ Below w.heap.size w w' := by
  have hb0 : ∀ o1 o2, Below w.heap.size w ((w.alloc o1).alloc o2) := fun o1 o2 => ((Below.refl _ _).alloc (Nat.le_refl _) _).alloc (by simp) _
  have HB := hide hb0
  have HA := hide hA
  have HD := hide hD
  clear hb0 hA hD
  by_cases h2 : (t.shape == -1) = true
  case neg =>
    have HT := hide (tells_no (p := okT s D t) (fun h => by simp at h2; rcases h with h | h <;> omega))
    have h2' : (t.shape == -1) = false := by simpa using h2
    clear h2
    go_enter Tryz.func13, Tryz.ntmps13
    go_wp2
    go_ret
    exact ⟨by rw [unhide HT]; rfl, unhide HB _ _⟩
  by_cases h3 : ((t.nv : Int) == 0) = true
  case neg =>
    have HT := hide (tells_no (p := okT s D t) (fun h => by simp at h2 h3; rcases h with h | h <;> omega))
    have h3' : ((t.nv : Int) == 0) = false := by simpa using h3
    clear h3
    go_enter Tryz.func13, Tryz.ntmps13
    go_wp2
    go_ret
    exact ⟨by rw [unhide HT]; rfl, unhide HB _ _⟩
  have HE : Hid (tells (okT s D t) = (D == 0)) := hide (by
    simp at h2 h3
    by_cases hd : D = 0
    · rw [tells_yes (.inl ⟨h2, h3, hd⟩)]; simp [hd]
    · rw [tells_no (fun h => by rcases h with h | h <;> omega)]; simp [hd])
  go_enter Tryz.func13, Tryz.ntmps13
  go_wp2_with fail
  refine (unhide HD _ ((unhide HA).below (unhide HB _ _))).mono ?_
  rintro e w1 ⟨rfl, hb1⟩
  have HB1 := hide ((unhide HB _ _).trans (hb1.mono (unhide HB _ _).size))
  clear hb1
  go_wp2
  go_ret
  exact ⟨by rw [unhide HE] <;> rfl, unhide HB1⟩

abbrev TJ (j : Nat) (va : Option Addr) (vc : Nat) (la : Option Addr) (lc : Nat) (ia : Option Addr) (ic : Nat) (xa : Option Addr) (xc : Nat) (t : Tb) : Value := .agg #[.int .i64 (j : Int), .slice va t.nv vc, .slice la t.d.n lc, .slice ia t.d.m ic, .slice xa t.d.x xc, .int .i64 t.d.used, .int .i64 t.d.live, .int .i64 t.d.turns]

set_option maxRecDepth 100000 in
set_option maxHeartbeats 8000000 in
theorem l3table_at (m fc : Nat) (ta : Option Addr) (tc : Nat) (sa : Option Addr) (sc : Nat) (s : Sto) (va : Option Addr) (vc : Nat) (la : Option Addr) (lc : Nat) (ia : Option Addr) (ic : Nat) (xa : Option Addr) (xc : Nat) (t : Tb) (j : Nat) (w : World) (hF : ShRow w m s.nf s.F) (hN : s.nf ≤ 1048576) (hV : VAt w va t.nv t.V) (hn : t.nv ≤ 1048576) :
    Calls Tryz.prog 13 #[StV (some ⟨m, 0, none⟩) fc ta tc sa sc s, TJ j va vc la lc ia ic xa xc t] w fun e w' => e = .returned (.bool (tells (j < s.nf ∧ okJ s j t))) ∧ Below w.heap.size w w' := by
  have hml := hF.lt
  have HF := hide hF
  have HV := hide hV
  clear hF hV
  obtain ⟨W, hW⟩ : ∃ W, W = (w.alloc (.cells #[.slice (some ⟨m, 0, none⟩) s.nf fc, .slice ta s.nt tc, .slice sa s.ns sc] 37)).alloc (.cells #[.int .i64 (j : Int), .slice va t.nv vc, .slice la t.d.n lc, .slice ia t.d.m ic, .slice xa t.d.x xc, .int .i64 t.d.used, .int .i64 t.d.live, .int .i64 t.d.turns] 51) := ⟨_, rfl⟩
  have hbW : Below w.heap.size w W := by rw [hW]; exact ((Below.refl _ _).alloc (Nat.le_refl _) _).alloc (by simp) _
  have hzW : W.heap.size = w.heap.size + 1 + 1 := by rw [hW]; simp
  have x0 : W.cell? ⟨w.heap.size, 0, none⟩ = some (.slice (some ⟨m, 0, none⟩) s.nf fc) := by rw [hW]; simp [go_sem]
  have y0 : W.cell? ⟨w.heap.size + 1, 0, none⟩ = some (.int .i64 (j : Int)) := by rw [hW]; simp [go_sem]
  have y1 : W.cell? ⟨w.heap.size + 1, 1, none⟩ = some (.slice va t.nv vc) := by rw [hW]; simp [go_sem]
  have y2 : W.cell? ⟨w.heap.size + 1, 2, none⟩ = some (.slice la t.d.n lc) := by rw [hW]; simp [go_sem]
  have y3 : W.cell? ⟨w.heap.size + 1, 3, none⟩ = some (.slice ia t.d.m ic) := by rw [hW]; simp [go_sem]
  have y4 : W.cell? ⟨w.heap.size + 1, 4, none⟩ = some (.slice xa t.d.x xc) := by rw [hW]; simp [go_sem]
  have y5 : W.cell? ⟨w.heap.size + 1, 5, none⟩ = some (.int .i64 t.d.used) := by rw [hW]; simp [go_sem]
  have y6 : W.cell? ⟨w.heap.size + 1, 6, none⟩ = some (.int .i64 t.d.live) := by rw [hW]; simp [go_sem]
  have y7 : W.cell? ⟨w.heap.size + 1, 7, none⟩ = some (.int .i64 t.d.turns) := by rw [hW]; simp [go_sem]
  have l0 : w.heap.size < W.heap.size := by omega
  have l1 : w.heap.size + 1 < W.heap.size := by omega
  have lm : m < W.heap.size := by omega
  have HFW := hide ((unhide HF).below hbW hml)
  have HVW := hide ((unhide HV).below hbW rfl)
  have HBW := hide hbW
  clear hbW hzW
  have hs1 : ((j : Int) < 0) = False := by simp
  by_cases hj : j < s.nf
  case neg =>
    have HT := hide (tells_no (p := j < s.nf ∧ okJ s j t) (fun h => hj h.1))
    have hd : (decide ((0 : Int) ≤ (j : Int)) && decide ((j : Int) < (s.nf : Int))) = false := by simp; omega
    clear hj
    go_enter Tryz.func13, Tryz.ntmps13
    go_wp2_with fail
    rw [← hW]
    clear hW
    refine wp_region_quiet (C := fun w' => Below W.heap.size W w') (by kernel_rfl) (by kernel_rfl) ((Below.refl _ _).drew) ?_
    show wpQuiet _ _ _ _ [_, _, _, _, _, _, _, _, _, _, _, _, _, _, _, _, _, _, _, _, _, _, _, _, _, _] _
    refine wpQuiet_step (fun K hK => ?_)
    go_simp
    refine ⟨_, fun w' hw' => rfl, hK _ ?_⟩
    clear hK K
    refine wpQuiet_step (fun K hK => ?_)
    go_simp
    apply Exists.intro
    refine And.intro (fun w' hw' => ?_) (hK _ ?_)
    · obtain ⟨hc', hf'⟩ := bcell hw'
      go_simp
      first | rfl | exact ⟨rfl, rfl⟩ | exact ⟨rfl⟩
    clear hK K
    refine wpQuiet_step (fun K hK => ?_)
    go_simp
    refine ⟨_, fun w' hw' => rfl, hK _ ?_⟩
    clear hK K
    refine wpQuiet_step (fun K hK => ?_)
    go_simp
    apply Exists.intro
    refine And.intro (fun w' hw' => ?_) (hK _ ?_)
    · obtain ⟨hc', hf'⟩ := bcell hw'
      go_simp
      first | rfl | exact ⟨rfl, rfl⟩ | exact ⟨rfl⟩
    clear hK K
    refine wpQuiet_step (fun K hK => ?_)
    go_simp
    apply Exists.intro
    refine And.intro (fun w' hw' => ?_) (hK _ ?_)
    · refine ((hd ▸ l2shape_any m s.nf fc (j : Int) _)).mono ?_
      rintro e w'' ⟨rfl, hb⟩
      exact ⟨rfl, hw'.trans (hb.mono hw'.size)⟩
    clear hK K
    refine wpQuiet_step (fun K hK => ?_)
    go_simp
    refine ⟨_, fun w' hw' => rfl, hK _ ?_⟩
    clear hK K
    refine wpQuiet_step (fun K hK => ?_)
    go_simp
    refine ⟨_, fun w' hw' => rfl, hK _ ?_⟩
    clear hK K
    go_big_quiet_step (fail)
    go_big_quiet_step (fail)
    go_big_quiet_step (fail)
    go_big_quiet_step (fail)
    go_big_quiet_step (fail)
    go_big_quiet_step (fail)
    go_big_quiet_step (fail)
    go_big_quiet_step (fail)
    go_big_quiet_step (fail)
    go_big_quiet_step (fail)
    go_big_quiet_step (fail)
    go_big_quiet_step (fail)
    refine wpQuiet_step (fun K hK => ?_)
    go_simp
    refine ⟨_, fun w' hw' => rfl, hK _ ?_⟩
    clear hK K
    refine wpQuiet_step (fun K hK => ?_)
    go_simp
    refine ⟨_, fun w' hw' => rfl, hK _ ?_⟩
    clear hK K
    go_big_quiet_step (fail)
    go_big_quiet_step (fail)
    go_big_quiet_step (fail)
    go_big_quiet_step (fail)
    refine wpQuiet_step (fun K hK => ?_)
    go_simp
    refine ⟨_, fun w' hw' => rfl, hK _ ?_⟩
    clear hK K
    refine wpQuiet_nil ?_
    intro w2 hw2
    have HB2 := hide ((unhide HBW).trans (hw2.mono (unhide HBW).size))
    clear hw2
    go_wp2
    go_ret
    exact ⟨by rw [unhide HT]; rfl, unhide HB2⟩
  have hd : (decide ((0 : Int) ≤ (j : Int)) && decide ((j : Int) < (s.nf : Int))) = true := by simp; omega
  obtain ⟨c0, c1, c2⟩ := (unhide HFW).cells hj
  by_cases hc : ((t.nv : Int) != (s.F j).count) = true
  case pos =>
    have HT := hide (tells_no (p := j < s.nf ∧ okJ s j t) (fun h => by have := h.2.1; simp at hc; exact hc this))
    go_enter Tryz.func13, Tryz.ntmps13
    go_wp2_with fail
    rw [← hW]
    clear hW
    refine wp_region_quiet (C := fun w' => Below W.heap.size W w') (by kernel_rfl) (by kernel_rfl) ((Below.refl _ _).drew) ?_
    show wpQuiet _ _ _ _ [_, _, _, _, _, _, _, _, _, _, _, _, _, _, _, _, _, _, _, _, _, _, _, _, _, _] _
    refine wpQuiet_step (fun K hK => ?_)
    go_simp
    refine ⟨_, fun w' hw' => rfl, hK _ ?_⟩
    clear hK K
    refine wpQuiet_step (fun K hK => ?_)
    go_simp
    apply Exists.intro
    refine And.intro (fun w' hw' => ?_) (hK _ ?_)
    · obtain ⟨hc', hf'⟩ := bcell hw'
      go_simp
      first | rfl | exact ⟨rfl, rfl⟩ | exact ⟨rfl⟩
    clear hK K
    refine wpQuiet_step (fun K hK => ?_)
    go_simp
    refine ⟨_, fun w' hw' => rfl, hK _ ?_⟩
    clear hK K
    refine wpQuiet_step (fun K hK => ?_)
    go_simp
    apply Exists.intro
    refine And.intro (fun w' hw' => ?_) (hK _ ?_)
    · obtain ⟨hc', hf'⟩ := bcell hw'
      go_simp
      first | rfl | exact ⟨rfl, rfl⟩ | exact ⟨rfl⟩
    clear hK K
    refine wpQuiet_step (fun K hK => ?_)
    go_simp
    apply Exists.intro
    refine And.intro (fun w' hw' => ?_) (hK _ ?_)
    · refine ((hd ▸ l2shape_any m s.nf fc (j : Int) _)).mono ?_
      rintro e w'' ⟨rfl, hb⟩
      exact ⟨rfl, hw'.trans (hb.mono hw'.size)⟩
    clear hK K
    refine wpQuiet_step (fun K hK => ?_)
    go_simp
    refine ⟨_, fun w' hw' => rfl, hK _ ?_⟩
    clear hK K
    refine wpQuiet_step (fun K hK => ?_)
    go_simp
    refine ⟨_, fun w' hw' => rfl, hK _ ?_⟩
    clear hK K
    refine wpQuiet_step (fun K hK => ?_)
    go_simp
    refine ⟨_, fun w' hw' => rfl, hK _ ?_⟩
    clear hK K
    refine wpQuiet_step (fun K hK => ?_)
    go_simp
    apply Exists.intro
    refine And.intro (fun w' hw' => ?_) (hK _ ?_)
    · obtain ⟨hc', hf'⟩ := bcell hw'
      go_simp
      first | rfl | exact ⟨rfl, rfl⟩ | exact ⟨rfl⟩
    clear hK K
    refine wpQuiet_step (fun K hK => ?_)
    go_simp
    refine ⟨_, fun w' hw' => rfl, hK _ ?_⟩
    clear hK K
    refine wpQuiet_step (fun K hK => ?_)
    go_simp
    refine ⟨_, fun w' hw' => rfl, hK _ ?_⟩
    clear hK K
    refine wpQuiet_step (fun K hK => ?_)
    go_simp
    refine ⟨_, fun w' hw' => rfl, hK _ ?_⟩
    clear hK K
    refine wpQuiet_step (fun K hK => ?_)
    go_simp
    apply Exists.intro
    refine And.intro (fun w' hw' => ?_) (hK _ ?_)
    · obtain ⟨hc', hf'⟩ := bcell hw'
      go_simp
      first | rfl | exact ⟨rfl, rfl⟩ | exact ⟨rfl⟩
    clear hK K
    refine wpQuiet_step (fun K hK => ?_)
    go_simp
    refine ⟨_, fun w' hw' => rfl, hK _ ?_⟩
    clear hK K
    refine wpQuiet_step (fun K hK => ?_)
    go_simp
    apply Exists.intro
    refine And.intro (fun w' hw' => ?_) (hK _ ?_)
    · obtain ⟨hc', hf'⟩ := bcell hw'
      go_simp
      first | rfl | exact ⟨rfl, rfl⟩ | exact ⟨rfl⟩
    clear hK K
    refine wpQuiet_step (fun K hK => ?_)
    go_simp
    refine ⟨_, fun w' hw' => rfl, hK _ ?_⟩
    clear hK K
    refine wpQuiet_step (fun K hK => ?_)
    go_simp
    refine ⟨_, fun w' hw' => rfl, hK _ ?_⟩
    clear hK K
    refine wpQuiet_step (fun K hK => ?_)
    go_simp
    apply Exists.intro
    refine And.intro (fun w' hw' => ?_) (hK _ ?_)
    · obtain ⟨hc', hf'⟩ := bcell hw'
      go_simp
      first | rfl | exact ⟨rfl, rfl⟩ | exact ⟨rfl⟩
    clear hK K
    refine wpQuiet_step (fun K hK => ?_)
    go_simp
    refine ⟨_, fun w' hw' => rfl, hK _ ?_⟩
    clear hK K
    refine wpQuiet_step (fun K hK => ?_)
    go_simp
    refine ⟨_, fun w' hw' => rfl, hK _ ?_⟩
    clear hK K
    refine wpQuiet_step (fun K hK => ?_)
    go_simp
    refine ⟨_, fun w' hw' => rfl, hK _ ?_⟩
    clear hK K
    go_big_quiet_step (fail)
    go_big_quiet_step (fail)
    go_big_quiet_step (fail)
    go_big_quiet_step (fail)
    refine wpQuiet_step (fun K hK => ?_)
    go_simp
    refine ⟨_, fun w' hw' => rfl, hK _ ?_⟩
    clear hK K
    refine wpQuiet_nil ?_
    intro w2 hw2
    have HB2 := hide ((unhide HBW).trans (hw2.mono (unhide HBW).size))
    clear hw2
    go_wp2
    go_ret
    exact ⟨by rw [unhide HT]; rfl, unhide HB2⟩
  have hc' : ((t.nv : Int) != (s.F j).count) = false := by simpa using hc
  have hcq : (t.nv : Int) = (s.F j).count := by simpa using hc
  have HCQ := hide hcq
  clear hc hcq
  by_cases hbr : bare t.d
  case neg =>
    have HT := hide (tells_no (p := j < s.nf ∧ okJ s j t) (fun h => hbr h.2.2.1))
    have hbt := tells_no hbr
    clear hbr
    go_enter Tryz.func13, Tryz.ntmps13
    go_wp2_with fail
    rw [← hW]
    clear hW
    refine wp_region_quiet (C := fun w' => Below W.heap.size W w') (by kernel_rfl) (by kernel_rfl) ((Below.refl _ _).drew) ?_
    show wpQuiet _ _ _ _ [_, _, _, _, _, _, _, _, _, _, _, _, _, _, _, _, _, _, _, _, _, _, _, _, _, _] _
    refine wpQuiet_step (fun K hK => ?_)
    go_simp
    refine ⟨_, fun w' hw' => rfl, hK _ ?_⟩
    clear hK K
    refine wpQuiet_step (fun K hK => ?_)
    go_simp
    apply Exists.intro
    refine And.intro (fun w' hw' => ?_) (hK _ ?_)
    · obtain ⟨hc', hf'⟩ := bcell hw'
      go_simp
      first | rfl | exact ⟨rfl, rfl⟩ | exact ⟨rfl⟩
    clear hK K
    refine wpQuiet_step (fun K hK => ?_)
    go_simp
    refine ⟨_, fun w' hw' => rfl, hK _ ?_⟩
    clear hK K
    refine wpQuiet_step (fun K hK => ?_)
    go_simp
    apply Exists.intro
    refine And.intro (fun w' hw' => ?_) (hK _ ?_)
    · obtain ⟨hc', hf'⟩ := bcell hw'
      go_simp
      first | rfl | exact ⟨rfl, rfl⟩ | exact ⟨rfl⟩
    clear hK K
    refine wpQuiet_step (fun K hK => ?_)
    go_simp
    apply Exists.intro
    refine And.intro (fun w' hw' => ?_) (hK _ ?_)
    · refine ((hd ▸ l2shape_any m s.nf fc (j : Int) _)).mono ?_
      rintro e w'' ⟨rfl, hb⟩
      exact ⟨rfl, hw'.trans (hb.mono hw'.size)⟩
    clear hK K
    refine wpQuiet_step (fun K hK => ?_)
    go_simp
    refine ⟨_, fun w' hw' => rfl, hK _ ?_⟩
    clear hK K
    refine wpQuiet_step (fun K hK => ?_)
    go_simp
    refine ⟨_, fun w' hw' => rfl, hK _ ?_⟩
    clear hK K
    refine wpQuiet_step (fun K hK => ?_)
    go_simp
    refine ⟨_, fun w' hw' => rfl, hK _ ?_⟩
    clear hK K
    refine wpQuiet_step (fun K hK => ?_)
    go_simp
    apply Exists.intro
    refine And.intro (fun w' hw' => ?_) (hK _ ?_)
    · obtain ⟨hc', hf'⟩ := bcell hw'
      go_simp
      first | rfl | exact ⟨rfl, rfl⟩ | exact ⟨rfl⟩
    clear hK K
    refine wpQuiet_step (fun K hK => ?_)
    go_simp
    refine ⟨_, fun w' hw' => rfl, hK _ ?_⟩
    clear hK K
    refine wpQuiet_step (fun K hK => ?_)
    go_simp
    refine ⟨_, fun w' hw' => rfl, hK _ ?_⟩
    clear hK K
    refine wpQuiet_step (fun K hK => ?_)
    go_simp
    refine ⟨_, fun w' hw' => rfl, hK _ ?_⟩
    clear hK K
    refine wpQuiet_step (fun K hK => ?_)
    go_simp
    apply Exists.intro
    refine And.intro (fun w' hw' => ?_) (hK _ ?_)
    · obtain ⟨hc', hf'⟩ := bcell hw'
      go_simp
      first | rfl | exact ⟨rfl, rfl⟩ | exact ⟨rfl⟩
    clear hK K
    refine wpQuiet_step (fun K hK => ?_)
    go_simp
    refine ⟨_, fun w' hw' => rfl, hK _ ?_⟩
    clear hK K
    refine wpQuiet_step (fun K hK => ?_)
    go_simp
    apply Exists.intro
    refine And.intro (fun w' hw' => ?_) (hK _ ?_)
    · obtain ⟨hc', hf'⟩ := bcell hw'
      go_simp
      first | rfl | exact ⟨rfl, rfl⟩ | exact ⟨rfl⟩
    clear hK K
    refine wpQuiet_step (fun K hK => ?_)
    go_simp
    refine ⟨_, fun w' hw' => rfl, hK _ ?_⟩
    clear hK K
    refine wpQuiet_step (fun K hK => ?_)
    go_simp
    refine ⟨_, fun w' hw' => rfl, hK _ ?_⟩
    clear hK K
    refine wpQuiet_step (fun K hK => ?_)
    go_simp
    apply Exists.intro
    refine And.intro (fun w' hw' => ?_) (hK _ ?_)
    · obtain ⟨hc', hf'⟩ := bcell hw'
      go_simp
      first | rfl | exact ⟨rfl, rfl⟩ | exact ⟨rfl⟩
    clear hK K
    refine wpQuiet_step (fun K hK => ?_)
    go_simp
    refine ⟨_, fun w' hw' => rfl, hK _ ?_⟩
    clear hK K
    refine wpQuiet_step (fun K hK => ?_)
    go_simp
    refine ⟨_, fun w' hw' => rfl, hK _ ?_⟩
    clear hK K
    refine wpQuiet_step (fun K hK => ?_)
    go_simp
    refine ⟨_, fun w' hw' => rfl, hK _ ?_⟩
    clear hK K
    refine wpQuiet_step (fun K hK => ?_)
    go_simp
    refine ⟨_, fun w' hw' => rfl, hK _ ?_⟩
    clear hK K
    refine wpQuiet_step (fun K hK => ?_)
    go_simp
    apply Exists.intro
    refine And.intro (fun w' hw' => ?_) (hK _ ?_)
    · obtain ⟨hc', hf'⟩ := bcell hw'
      go_simp
      first | rfl | exact ⟨rfl, rfl⟩ | exact ⟨rfl⟩
    clear hK K
    refine wpQuiet_step (fun K hK => ?_)
    go_simp
    apply Exists.intro
    refine And.intro (fun w' hw' => ?_) (hK _ ?_)
    · refine ((hbt ▸ l3bare_any la lc ia ic xa xc t.d _)).mono ?_
      rintro e w'' ⟨rfl, hb⟩
      exact ⟨rfl, hw'.trans (hb.mono hw'.size)⟩
    clear hK K
    refine wpQuiet_step (fun K hK => ?_)
    go_simp
    refine ⟨_, fun w' hw' => rfl, hK _ ?_⟩
    clear hK K
    refine wpQuiet_step (fun K hK => ?_)
    go_simp
    refine ⟨_, fun w' hw' => rfl, hK _ ?_⟩
    clear hK K
    refine wpQuiet_nil ?_
    intro w2 hw2
    have HB2 := hide ((unhide HBW).trans (hw2.mono (unhide HBW).size))
    clear hw2
    go_wp2
    go_ret
    exact ⟨by rw [unhide HT]; rfl, unhide HB2⟩
  have hbt := tells_yes hbr
  have HBR := hide hbr
  clear hbr
  go_enter Tryz.func13, Tryz.ntmps13
  go_wp2_with fail
  rw [← hW]
  clear hW
  refine wp_region_quiet (C := fun w' => Below W.heap.size W w') (by kernel_rfl) (by kernel_rfl) ((Below.refl _ _).drew) ?_
  show wpQuiet _ _ _ _ [_, _, _, _, _, _, _, _, _, _, _, _, _, _, _, _, _, _, _, _, _, _, _, _, _, _] _
  refine wpQuiet_step (fun K hK => ?_)
  go_simp
  refine ⟨_, fun w' hw' => rfl, hK _ ?_⟩
  clear hK K
  refine wpQuiet_step (fun K hK => ?_)
  go_simp
  apply Exists.intro
  refine And.intro (fun w' hw' => ?_) (hK _ ?_)
  · obtain ⟨hc', hf'⟩ := bcell hw'
    go_simp
    first | rfl | exact ⟨rfl, rfl⟩ | exact ⟨rfl⟩
  clear hK K
  refine wpQuiet_step (fun K hK => ?_)
  go_simp
  refine ⟨_, fun w' hw' => rfl, hK _ ?_⟩
  clear hK K
  refine wpQuiet_step (fun K hK => ?_)
  go_simp
  apply Exists.intro
  refine And.intro (fun w' hw' => ?_) (hK _ ?_)
  · obtain ⟨hc', hf'⟩ := bcell hw'
    go_simp
    first | rfl | exact ⟨rfl, rfl⟩ | exact ⟨rfl⟩
  clear hK K
  refine wpQuiet_step (fun K hK => ?_)
  go_simp
  apply Exists.intro
  refine And.intro (fun w' hw' => ?_) (hK _ ?_)
  · refine ((hd ▸ l2shape_any m s.nf fc (j : Int) _)).mono ?_
    rintro e w'' ⟨rfl, hb⟩
    exact ⟨rfl, hw'.trans (hb.mono hw'.size)⟩
  clear hK K
  refine wpQuiet_step (fun K hK => ?_)
  go_simp
  refine ⟨_, fun w' hw' => rfl, hK _ ?_⟩
  clear hK K
  refine wpQuiet_step (fun K hK => ?_)
  go_simp
  refine ⟨_, fun w' hw' => rfl, hK _ ?_⟩
  clear hK K
  refine wpQuiet_step (fun K hK => ?_)
  go_simp
  refine ⟨_, fun w' hw' => rfl, hK _ ?_⟩
  clear hK K
  refine wpQuiet_step (fun K hK => ?_)
  go_simp
  apply Exists.intro
  refine And.intro (fun w' hw' => ?_) (hK _ ?_)
  · obtain ⟨hc', hf'⟩ := bcell hw'
    go_simp
    first | rfl | exact ⟨rfl, rfl⟩ | exact ⟨rfl⟩
  clear hK K
  refine wpQuiet_step (fun K hK => ?_)
  go_simp
  refine ⟨_, fun w' hw' => rfl, hK _ ?_⟩
  clear hK K
  refine wpQuiet_step (fun K hK => ?_)
  go_simp
  refine ⟨_, fun w' hw' => rfl, hK _ ?_⟩
  clear hK K
  refine wpQuiet_step (fun K hK => ?_)
  go_simp
  refine ⟨_, fun w' hw' => rfl, hK _ ?_⟩
  clear hK K
  refine wpQuiet_step (fun K hK => ?_)
  go_simp
  apply Exists.intro
  refine And.intro (fun w' hw' => ?_) (hK _ ?_)
  · obtain ⟨hc', hf'⟩ := bcell hw'
    go_simp
    first | rfl | exact ⟨rfl, rfl⟩ | exact ⟨rfl⟩
  clear hK K
  refine wpQuiet_step (fun K hK => ?_)
  go_simp
  refine ⟨_, fun w' hw' => rfl, hK _ ?_⟩
  clear hK K
  refine wpQuiet_step (fun K hK => ?_)
  go_simp
  apply Exists.intro
  refine And.intro (fun w' hw' => ?_) (hK _ ?_)
  · obtain ⟨hc', hf'⟩ := bcell hw'
    go_simp
    first | rfl | exact ⟨rfl, rfl⟩ | exact ⟨rfl⟩
  clear hK K
  refine wpQuiet_step (fun K hK => ?_)
  go_simp
  refine ⟨_, fun w' hw' => rfl, hK _ ?_⟩
  clear hK K
  refine wpQuiet_step (fun K hK => ?_)
  go_simp
  refine ⟨_, fun w' hw' => rfl, hK _ ?_⟩
  clear hK K
  refine wpQuiet_step (fun K hK => ?_)
  go_simp
  apply Exists.intro
  refine And.intro (fun w' hw' => ?_) (hK _ ?_)
  · obtain ⟨hc', hf'⟩ := bcell hw'
    go_simp
    first | rfl | exact ⟨rfl, rfl⟩ | exact ⟨rfl⟩
  clear hK K
  refine wpQuiet_step (fun K hK => ?_)
  go_simp
  refine ⟨_, fun w' hw' => rfl, hK _ ?_⟩
  clear hK K
  refine wpQuiet_step (fun K hK => ?_)
  go_simp
  refine ⟨_, fun w' hw' => rfl, hK _ ?_⟩
  clear hK K
  refine wpQuiet_step (fun K hK => ?_)
  go_simp
  refine ⟨_, fun w' hw' => rfl, hK _ ?_⟩
  clear hK K
  refine wpQuiet_step (fun K hK => ?_)
  go_simp
  refine ⟨_, fun w' hw' => rfl, hK _ ?_⟩
  clear hK K
  refine wpQuiet_step (fun K hK => ?_)
  go_simp
  apply Exists.intro
  refine And.intro (fun w' hw' => ?_) (hK _ ?_)
  · obtain ⟨hc', hf'⟩ := bcell hw'
    go_simp
    first | rfl | exact ⟨rfl, rfl⟩ | exact ⟨rfl⟩
  clear hK K
  refine wpQuiet_step (fun K hK => ?_)
  go_simp
  apply Exists.intro
  refine And.intro (fun w' hw' => ?_) (hK _ ?_)
  · refine ((hbt ▸ l3bare_any la lc ia ic xa xc t.d _)).mono ?_
    rintro e w'' ⟨rfl, hb⟩
    exact ⟨rfl, hw'.trans (hb.mono hw'.size)⟩
  clear hK K
  refine wpQuiet_step (fun K hK => ?_)
  go_simp
  refine ⟨_, fun w' hw' => rfl, hK _ ?_⟩
  clear hK K
  refine wpQuiet_step (fun K hK => ?_)
  go_simp
  refine ⟨_, fun w' hw' => rfl, hK _ ?_⟩
  clear hK K
  refine wpQuiet_nil ?_
  intro w2 hw2
  have q1 := (hw2.cell (p := ⟨w.heap.size + 1, 1, none⟩) l1).trans y1
  have HV2 := hide ((unhide HVW).below hw2 rfl)
  have HB2 := hide ((unhide HBW).trans (hw2.mono (unhide HBW).size))
  have l2 : w.heap.size + 1 < w2.heap.size := Nat.lt_of_lt_of_le l1 hw2.size
  clear hw2 c0 c1 c2 x0 y0 y1 y2 y3 y4 y5 y6 y7
  go_wp2
  go_loopw [54] (fun i wr => ∃ (k : Nat), k ≤ t.nv ∧ i = .int .i64 k ∧ Below w2.heap.size w2 wr ∧ ∀ q, q < k → okV (t.V q) = true) (fun i _ => t.nv - (intOf i).toNat)
  case atStart => exact ⟨0, by omega, rfl, Below.refl _ _, fun q hq => by omega⟩
  case round =>
    obtain ⟨k, hk, rfl, hb, hall⟩ := hrel
    by_cases hkn : k < t.nv
    case neg =>
      have hke : k = t.nv := by omega
      have HT := hide (tells_yes (p := j < s.nf ∧ okJ s j t) ⟨hj, unhide HCQ, unhide HBR, fun i hi => hall i (by omega)⟩)
      have HB3 := hide ((unhide HB2).trans (hb.mono (unhide HB2).size))
      subst hke
      clear hb hall
      go_wp2
      go_ret
      exact ⟨by rw [unhide HT]; rfl, unhide HB3⟩
    obtain ⟨b, off, rfl, hbl, hcs⟩ := (unhide HV2).resolve_left (by omega)
    obtain ⟨e0, e1, e2, e3, e4⟩ := (hcs k hkn).keep (fun q => hb.cell (p := ⟨b, q, none⟩) hbl)
    have hbz := hb.size
    have HB3 : Hid (∀ o, Below w.heap.size w (wr.alloc o)) := hide (fun o => ((unhide HB2).trans (hb.mono (unhide HB2).size)).alloc (by have := (unhide HB2).size; omega) _)
    have HB4 : Hid (∀ o, Below w2.heap.size w2 (wr.alloc o)) := hide (fun o => hb.alloc (by omega) _)
    have HALL := hide hall
    clear hcs hb hall
    cases hv : (t.V k).ok
    · have hv' : validB (t.V k).kind (t.V k).num (t.V k).flt (t.V k).str (t.V k).ref = false := hv
      have HT := hide (tells_no (p := j < s.nf ∧ okJ s j t) (fun h => by have := h.2.2.2 k hkn; unfold okV at this; rw [hv] at this; cases this))
      clear hv
      go_wp2_with fail
      refine (valueOk_any (t.V k).kind (t.V k).num (t.V k).flt (t.V k).str (t.V k).ref _).mono ?_
      rintro e w3 ⟨rfl, hb3⟩
      rw [hv']
      have HB5 := hide ((unhide HB3 _).trans (hb3.mono (unhide HB3 _).size))
      clear hb3 e0 e1 e2 e3 e4
      go_wp2
      go_ret
      exact ⟨by rw [unhide HT]; rfl, unhide HB5⟩
    · have hv' : validB (t.V k).kind (t.V k).num (t.V k).flt (t.V k).str (t.V k).ref = true := hv
      by_cases hz : ((t.V k).kind == 0) = true
      · have HT := hide (tells_no (p := j < s.nf ∧ okJ s j t) (fun h => by have := h.2.2.2 k hkn; unfold okV at this; simp at hz; simp [hz] at this))
        clear hv
        go_wp2_with fail
        refine (valueOk_any (t.V k).kind (t.V k).num (t.V k).flt (t.V k).str (t.V k).ref _).mono ?_
        rintro e w3 ⟨rfl, hb3⟩
        rw [hv']
        obtain ⟨hc3, hf3⟩ := bcell hb3
        have HB5 := hide ((unhide HB3 _).trans (hb3.mono (unhide HB3 _).size))
        clear hb3 e0 e1 e2 e3 e4
        go_wp2
        go_ret
        exact ⟨by rw [unhide HT]; rfl, unhide HB5⟩
      · have hz' : ((t.V k).kind == 0) = false := by simpa using hz
        have HO : Hid (okV (t.V k) = true) := hide (by unfold okV; rw [hv]; simp at hz; simp [hz])
        clear hv hz
        go_wp2_with fail
        refine (valueOk_any (t.V k).kind (t.V k).num (t.V k).flt (t.V k).str (t.V k).ref _).mono ?_
        rintro e w3 ⟨rfl, hb3⟩
        rw [hv']
        obtain ⟨hc3, hf3⟩ := bcell hb3
        have HB5 := hide ((unhide HB4 _).trans (hb3.mono (unhide HB4 _).size))
        clear hb3 e0 e1 e2 e3 e4
        go_wp2
        go_roundw
        case rel =>
          refine ⟨k + 1, by omega, by go_num, unhide HB5, fun q hq => ?_⟩
          by_cases e : q = k
          · subst e; exact unhide HO
          · exact unhide HALL q (by omega)
        case measure => simp [intOf]; omega

theorem l3table_any (m fc : Nat) (ta : Option Addr) (tc : Nat) (sa : Option Addr) (sc : Nat) (s : Sto) (va : Option Addr) (vc : Nat) (la : Option Addr) (lc : Nat) (ia : Option Addr) (ic : Nat) (xa : Option Addr) (xc : Nat) (t : Tb) (D : Int) (w : World) (hF : ShRow w m s.nf s.F) (hN : s.nf ≤ 1048576) (hV : VAt w va t.nv t.V) (hn : t.nv ≤ 1048576) (hA : DAt w la ia xa t.d) (hD : SpecD la lc ia ic xa xc t.d D) :
    Calls Tryz.prog 13 #[StV (some ⟨m, 0, none⟩) fc ta tc sa sc s, TV va vc la lc ia ic xa xc t] w fun e w' => e = .returned (.bool (tells (okT s D t))) ∧ Below w.heap.size w w' := by
  by_cases h : t.shape < 0
  · exact l3table_none m fc ta tc sa sc s va vc la lc ia ic xa xc t D w hA hD h
  · obtain ⟨j, hj⟩ : ∃ j : Nat, t.shape = j := ⟨t.shape.toNat, by omega⟩
    have h1 := l3table_at m fc ta tc sa sc s va vc la lc ia ic xa xc t j w hF hN hV hn
    have e : (j < s.nf ∧ okJ s j t) ↔ okT s D t := by
      constructor
      · intro h; refine .inr ⟨by omega, by omega, ?_⟩; rw [hj]; exact h.2
      · intro h
        rcases h with h | h
        · omega
        · refine ⟨by omega, ?_⟩; have := h.2.2; rwa [hj] at this
    have e' : tells (j < s.nf ∧ okJ s j t) = tells (okT s D t) := by
      by_cases q : okT s D t
      · rw [tells_yes q, tells_yes (e.2 q)]
      · rw [tells_no q, tells_no (fun c => q (e.1 c))]
    rw [e'] at h1
    unfold TV
    rw [hj]
    exact h1
end Go.Proofs.YtfceeijdmilieaaGreat
