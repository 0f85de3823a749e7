/-
  Dicts: DictLen of both sides.
-/
import Derived.Test.YtglcaejddckleaaGreatDoorDkN
namespace Go.Proofs.YtglcaejddckleaaGreatDoor
open Go.RowKit
set_option linter.unusedVariables false
attribute [local go_sem] run_store_float run_equalIn_float

/-- The first zero from k on. -/
def fz0 (f : Nat → Int) (m : Nat) : Nat → Nat → Nat
  | k, 0 => k
  | k, g + 1 => if f k = 0 then k else fz0 f m (k + 1) g
def lenN (d : Dc) : Nat := fz0 d.I d.m 0 d.m
theorem fz0_stop {f : Nat → Int} {m k : Nat} (h : f k = 0) (hk : k < m) : fz0 f m k (m - k) = k := by
  obtain ⟨g, hg⟩ : ∃ g, m - k = g + 1 := ⟨m - k - 1, by omega⟩
  rw [hg]
  exact if_pos h
theorem fz0_next {f : Nat → Int} {m k : Nat} (h : f k ≠ 0) (hk : k < m) : fz0 f m k (m - k) = fz0 f m (k + 1) (m - (k + 1)) := by
  obtain ⟨g, hg⟩ : ∃ g, m - k = g + 1 := ⟨m - k - 1, by omega⟩
  rw [hg, show m - (k + 1) = g by omega]
  exact if_neg h
open Classical in
noncomputable def lenOut (d : Dc) : Int := if dictOk d (hD d) = 0 then (lenN d : Int) else 0

set_option maxRecDepth 100000 in
set_option maxHeartbeats 1000000 in
theorem l1len_any (c o : Nat) (la : Option Addr) (lc : Nat) (ia : Option Addr) (ic : Nat) (xa : Option Addr) (xc : Nat) (d : Dc) (w : World) (hD : DPtr w c o la lc ia ic xa xc d) (hS : Small d) :
    Calls Tryz.prog 86 #[Pc c o] w fun e w' => e = .returned (.int .i64 (lenN d : Int)) ∧ Below w.heap.size w w' := by
  have hm := hS.m
  have c1 := hD.c1
  have hlt := hD.lt
  have HI := hide hD.rows.ints
  clear hD hS
  go_enter Tryz.func86, Tryz.ntmps86
  go_wp2
  go_loopw [10] (fun i wr => ∃ k : Nat, k ≤ d.m ∧ i = .int .i64 k ∧ fz0 d.I d.m 0 d.m = fz0 d.I d.m k (d.m - k) ∧ wr = w) (fun i _ => d.m - (intOf i).toNat)
  case atStart => exact ⟨0, by omega, rfl, rfl, rfl⟩
  case round =>
    obtain ⟨k, hk, rfl, hz, hww⟩ := hrel
    rw [hww]
    clear hww
    have HZ := hide hz
    clear hz
    by_cases hkn : k < d.m
    · obtain ⟨b, off, rfl, hbl, hcs⟩ := (unhide HI).resolve_left (by omega)
      have e0 := hcs k hkn
      clear hcs
      by_cases h0 : d.I k = 0
      · have HR : Hid (lenN d = k) := hide ((unhide HZ).trans (fz0_stop h0 hkn))
        rw [h0] at e0
        clear h0
        go_wp2
        go_ret
        exact ⟨by rw [unhide HR]; rfl, Below.refl _ _⟩
      · have HN : Hid (fz0 d.I d.m 0 d.m = fz0 d.I d.m (k + 1) (d.m - (k + 1))) := hide ((unhide HZ).trans (fz0_next h0 hkn))
        have h0' : (d.I k == 0) = false := by simp [h0]
        clear h0
        go_wp2
        go_roundw
        case rel => exact ⟨k + 1, by omega, by go_num, unhide HN, trivial⟩
        case measure => simp [intOf]; omega
    · have hkn' : k = d.m := by omega
      have HR : Hid (lenN d = d.m) := hide ((unhide HZ).trans (by rw [hkn', Nat.sub_self]; rfl))
      clear hkn'
      go_wp2
      go_ret
      exact ⟨by rw [unhide HR]; rfl, Below.refl _ _⟩

set_option maxRecDepth 100000 in
set_option maxHeartbeats 2000000 in
theorem specLen (la : Option Addr) (lc : Nat) (ia : Option Addr) (ic : Nat) (xa : Option Addr) (xc : Nat) (d : Dc) (w : World) (hA : DAt w la ia xa d) (hS : Small d) (hW : WfD d) :
    Calls Tryz.prog 40 #[Dv la lc ia ic xa xc d] w fun e w' => e = .returned (.int .i64 (lenOut d)) ∧ Below w.heap.size w w' := by
  have HA := hide hA
  have HS := hide hS
  have HW := hide hW
  clear hA hS hW
  have hb0 : Below w.heap.size w (w.alloc (.cells #[.slice la d.n lc, .slice ia d.m ic, .slice xa d.x xc, .int .i64 d.used, .int .i64 d.live, .int .i64 d.turns] 26)) := (Below.refl _ _).alloc (Nat.le_refl _) _
  have HB0 := hide hb0
  clear hb0
  go_enter Tryz.func40, Tryz.ntmps40
  go_wp2_with fail
  refine (specOk la lc ia ic xa xc d _ ((unhide HA).below (unhide HB0)) (unhide HS) (unhide HW)).mono ?_
  rintro e w1 ⟨rfl, hb1⟩
  obtain ⟨hc1, hf1⟩ := bcell hb1
  have q0 : w1.cell? ⟨w.heap.size, 0, none⟩ = some (.slice la d.n lc) := by rw [hc1 _ _ (by simp)]; simp [go_sem]
  have q1 : w1.cell? ⟨w.heap.size, 1, none⟩ = some (.slice ia d.m ic) := by rw [hc1 _ _ (by simp)]; simp [go_sem]
  have q2 : w1.cell? ⟨w.heap.size, 2, none⟩ = some (.slice xa d.x xc) := by rw [hc1 _ _ (by simp)]; simp [go_sem]
  have q3 : w1.cell? ⟨w.heap.size, 3, none⟩ = some (.int .i64 d.used) := by rw [hc1 _ _ (by simp)]; simp [go_sem]
  have q4 : w1.cell? ⟨w.heap.size, 4, none⟩ = some (.int .i64 d.live) := by rw [hc1 _ _ (by simp)]; simp [go_sem]
  have q5 : w1.cell? ⟨w.heap.size, 5, none⟩ = some (.int .i64 d.turns) := by rw [hc1 _ _ (by simp)]; simp [go_sem]
  have HB1 := hide ((unhide HB0).trans (hb1.mono (unhide HB0).size))
  clear hb1 hc1 hf1
  by_cases hk : dictOk d (hD d) = 0
  case neg =>
    have HR : Hid (lenOut d = 0) := hide (if_neg hk)
    have hk' : (dictOk d (hD d) != 0) = true := by simp [hk]
    clear hk
    generalize dictOk d (hD d) = ok at hk'
    go_wp2
    go_ret
    exact ⟨by rw [unhide HR]; rfl, unhide HB1⟩
  have HR : Hid (lenOut d = (lenN d : Int)) := hide (if_pos hk)
  rw [hk]
  clear hk
  go_wp2_with fail
  refine (l1copy_any la lc ia ic xa xc d _ ((unhide HA).below (unhide HB1)) (unhide HS)).mono ?_
  rintro e w2 ⟨⟨c, v0, v1, v2, rfl, hceq, hown⟩, hb2⟩
  clear hceq
  obtain ⟨la', lc', ia', ic', xa', xc', rfl, rfl, rfl, hP⟩ := hown.ptr
  have HB2 := hide ((unhide HB1).trans (hb2.mono (unhide HB1).size))
  have HP2 := hide hP
  clear hb2 hown hP
  go_wp2_with fail
  refine (l1len_any c 0 la' lc' ia' ic' xa' xc' d _ (unhide HP2) (unhide HS)).mono ?_
  rintro e w3 ⟨rfl, hb3⟩
  have HB3 := hide ((unhide HB2).trans (hb3.mono (unhide HB2).size))
  clear hb3
  go_wp2
  go_ret
  exact ⟨by rw [unhide HR]; rfl, unhide HB3⟩

set_option maxRecDepth 100000 in
set_option maxHeartbeats 2000000 in
theorem implLen (la : Option Addr) (lc : Nat) (ia : Option Addr) (ic : Nat) (xa : Option Addr) (xc : Nat) (d : Dc) (w : World) (hT : Tabs w) (hA : DAt w la ia xa d) (hS : Small d) (hW : WfD d) :
    Calls Tryz.prog 27 #[Dv la lc ia ic xa xc d] w fun e w' => e = .returned (.int .i64 (lenOut d)) ∧ Below w.heap.size w w' := by
  have hm := hS.m
  have HA := hide hA
  have HS := hide hS
  have HW := hide hW
  have HT := hide hT
  clear hA hS hW hT
  have hb0 : Below w.heap.size w (w.alloc (.cells #[.slice la d.n lc, .slice ia d.m ic, .slice xa d.x xc, .int .i64 d.used, .int .i64 d.live, .int .i64 d.turns] 26)) := (Below.refl _ _).alloc (Nat.le_refl _) _
  have HB0 := hide hb0
  clear hb0
  go_enter Tryz.func27, Tryz.ntmps27
  go_wp2_with fail
  refine (implOk la lc ia ic xa xc d _ (lastsT _ _ (unhide HT) (unhide HB0)) ((unhide HA).below (unhide HB0)) (unhide HS) (unhide HW)).mono ?_
  rintro e w1 ⟨rfl, hb1⟩
  obtain ⟨hc1, hf1⟩ := bcell hb1
  have q1 : w1.cell? ⟨w.heap.size, 1, none⟩ = some (.slice ia d.m ic) := by rw [hc1 _ _ (by simp)]; simp [go_sem]
  have HB1 := hide ((unhide HB0).trans (hb1.mono (unhide HB0).size))
  clear hb1 hc1 hf1
  by_cases hk : dictOk d (hD d) = 0
  case neg =>
    have HR : Hid (lenOut d = 0) := hide (if_neg hk)
    have hk' : (dictOk d (hD d) != 0) = true := by simp [hk]
    clear hk
    generalize dictOk d (hD d) = ok at hk'
    go_wp2
    go_ret
    exact ⟨by rw [unhide HR]; rfl, unhide HB1⟩
  have HR : Hid (lenOut d = (lenN d : Int)) := hide (if_pos hk)
  rw [hk]
  clear hk
  have HI := hide ((unhide HA).below (unhide HB1)).ints
  go_wp2_with fail
  go_loopw [11] (fun i wr => ∃ k : Nat, k ≤ d.m ∧ i = .int .i64 k ∧ fz0 d.I d.m 0 d.m = fz0 d.I d.m k (d.m - k) ∧ wr = w1) (fun i _ => d.m - (intOf i).toNat)
  case atStart => exact ⟨0, by omega, rfl, rfl, rfl⟩
  case round =>
    obtain ⟨k, hk, rfl, hz, hww⟩ := hrel
    rw [hww]
    clear hww
    have HZ := hide hz
    clear hz
    by_cases hkn : k < d.m
    · obtain ⟨b, off, rfl, hbl, hcs⟩ := (unhide HI).resolve_left (by omega)
      have e0 := hcs k hkn
      clear hcs
      by_cases h0 : d.I k = 0
      · have HR2 : Hid (lenOut d = (k : Int)) := hide ((unhide HR).trans (congrArg Int.ofNat ((unhide HZ).trans (fz0_stop h0 hkn))))
        rw [h0] at e0
        clear h0
        go_wp2
        go_ret
        exact ⟨by rw [unhide HR2]; rfl, unhide HB1⟩
      · have HN : Hid (fz0 d.I d.m 0 d.m = fz0 d.I d.m (k + 1) (d.m - (k + 1))) := hide ((unhide HZ).trans (fz0_next h0 hkn))
        have h0' : (d.I k == 0) = false := by simp [h0]
        clear h0
        go_wp2
        go_roundw
        case rel => exact ⟨k + 1, by omega, by go_num, unhide HN, trivial⟩
        case measure => simp [intOf]; omega
    · have hkn' : k = d.m := by omega
      have HR2 : Hid (lenOut d = (d.m : Int)) := hide ((unhide HR).trans (congrArg Int.ofNat ((unhide HZ).trans (by rw [hkn', Nat.sub_self]; rfl))))
      clear hkn'
      go_wp2
      go_ret
      exact ⟨by rw [unhide HR2]; rfl, unhide HB1⟩
end Go.Proofs.YtglcaejddckleaaGreatDoor
