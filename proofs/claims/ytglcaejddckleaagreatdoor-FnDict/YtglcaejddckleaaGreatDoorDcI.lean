/-
  Dicts: DictOk of the model.
-/
import Derived.Test.YtglcaejddckleaaGreatDoorDcH
namespace Go.Proofs.YtglcaejddckleaaGreatDoor
open Go.RowKit
set_option linter.unusedVariables false
attribute [local go_sem] run_store_float run_equalIn_float

open Classical in
noncomputable def dictOk (d : Dc) (H : Nat → Nat) : Int :=
  if D1 d then if D2 d then if D3 d then if D4 d then if D5 d H then 0 else 5 else 4 else 3 else 2 else 1
theorem dictOk1 {d : Dc} {H : Nat → Nat} (h : ¬ D1 d) : dictOk d H = 1 := if_neg h
theorem dictOk2 {d : Dc} {H : Nat → Nat} (h1 : D1 d) (h : ¬ D2 d) : dictOk d H = 2 := by unfold dictOk; rw [if_pos h1, if_neg h]
theorem dictOk3 {d : Dc} {H : Nat → Nat} (h1 : D1 d) (h2 : D2 d) (h : ¬ D3 d) : dictOk d H = 3 := by unfold dictOk; rw [if_pos h1, if_pos h2, if_neg h]
theorem dictOk4 {d : Dc} {H : Nat → Nat} (h1 : D1 d) (h2 : D2 d) (h3 : D3 d) (h : ¬ D4 d) : dictOk d H = 4 := by unfold dictOk; rw [if_pos h1, if_pos h2, if_pos h3, if_neg h]
theorem dictOk5 {d : Dc} {H : Nat → Nat} (h1 : D1 d) (h2 : D2 d) (h3 : D3 d) (h4 : D4 d) (h : ¬ D5 d H) : dictOk d H = 5 := by unfold dictOk; rw [if_pos h1, if_pos h2, if_pos h3, if_pos h4, if_neg h]
theorem dictOk0 {d : Dc} {H : Nat → Nat} (h1 : D1 d) (h2 : D2 d) (h3 : D3 d) (h4 : D4 d) (h : D5 d H) : dictOk d H = 0 := by unfold dictOk; rw [if_pos h1, if_pos h2, if_pos h3, if_pos h4, if_pos h]
/-- What a sound dict keeps. -/
structure Sound (d : Dc) (H : Nat → Nat) : Prop where
  d1 : D1 d
  d2 : D2 d
  d3 : D3 d
  d4 : D4 d
  d5 : D5 d H
theorem sound_of {d : Dc} {H : Nat → Nat} (h : dictOk d H = 0) : Sound d H := by
  unfold dictOk at h
  split at h
  · next h1 =>
    split at h
    · next h2 =>
      split at h
      · next h3 =>
        split at h
        · next h4 =>
          split at h
          · next h5 => exact ⟨h1, h2, h3, h4, h5⟩
          · cases h
        · cases h
      · cases h
    · cases h
  · cases h
theorem Sound.zero {d : Dc} {H : Nat → Nat} (h : Sound d H) : dictOk d H = 0 := dictOk0 h.d1 h.d2 h.d3 h.d4 h.d5

set_option maxRecDepth 100000 in
set_option maxHeartbeats 2000000 in
theorem specDictOk (la : Option Addr) (lc : Nat) (ia : Option Addr) (ic : Nat) (xa : Option Addr) (xc : Nat) (d : Dc) (H : Nat → Nat) (w : World) (hD : DAt w la ia xa d) (hS : Small d) (hH : ∀ i, i < d.n → keyB (d.L i).key = true → HsS (d.L i).key (H i)) :
    Calls Tryz.prog 29 #[Dv la lc ia ic xa xc d] w fun e w' => e = .returned (.int .i64 (dictOk d H)) ∧ Below w.heap.size w w' := by
  have HD := hide hD
  have HS := hide hS
  have HH := hide hH
  have hb0 : Below w.heap.size w (w.alloc (.cells #[.slice la d.n lc, .slice ia d.m ic, .slice xa d.x xc, .int .i64 d.used, .int .i64 d.live, .int .i64 d.turns] 26)) := (Below.refl _ _).alloc (Nat.le_refl _) _
  have HB0 := hide hb0
  clear hD hS hH hb0
  go_enter Tryz.func29, Tryz.ntmps29
  go_wp2_with fail
  refine (l1copy_any la lc ia ic xa xc d _ ((unhide HD).below (unhide HB0)) (unhide HS)).mono ?_
  rintro e w1 ⟨⟨c, v0, v1, v2, rfl, hceq, hown⟩, hb1⟩
  clear hceq
  obtain ⟨la', lc', ia', ic', xa', xc', rfl, rfl, rfl, hP⟩ := hown.ptr
  have HB1 := hide ((unhide HB0).trans (hb1.mono (unhide HB0).size))
  have HP1 := hide hP
  clear hb1 hown hP
  go_wp2_with fail
  refine (l1sizes_any c 0 la' lc' ia' ic' xa' xc' d _ (unhide HP1) (unhide HS)).mono ?_
  rintro e w2 ⟨rfl, hb2⟩
  have HB2 := hide ((unhide HB1).trans (hb2.mono (unhide HB1).size))
  have HP2 := hide ((unhide HP1).below hb2)
  clear hb2
  by_cases h1 : D1 d
  case neg =>
    rw [tells_no h1]
    have HT := hide (dictOk1 (H := H) h1)
    clear h1
    go_wp2
    go_ret
    exact ⟨by rw [unhide HT]; rfl, unhide HB2⟩
  rw [tells_yes h1]
  have H1 := hide h1
  clear h1
  go_wp2_with fail
  refine (l1logok_any c 0 la' lc' ia' ic' xa' xc' d _ (unhide HP2) (unhide HS)).mono ?_
  rintro e w3 ⟨rfl, hb3⟩
  have HB3 := hide ((unhide HB2).trans (hb3.mono (unhide HB2).size))
  have HP3 := hide ((unhide HP2).below hb3)
  clear hb3
  by_cases h2 : D2 d
  case neg =>
    rw [tells_no h2]
    have HT := hide (dictOk2 (H := H) (unhide H1) h2)
    clear h2
    go_wp2
    go_ret
    exact ⟨by rw [unhide HT]; rfl, unhide HB3⟩
  rw [tells_yes h2]
  have H2 := hide h2
  clear h2
  go_wp2_with fail
  refine (l1intsok_any c 0 la' lc' ia' ic' xa' xc' d _ (unhide HP3) (unhide HS)).mono ?_
  rintro e w4 ⟨rfl, hb4⟩
  have HB4 := hide ((unhide HB3).trans (hb4.mono (unhide HB3).size))
  have HP4 := hide ((unhide HP3).below hb4)
  clear hb4
  by_cases h3 : D3 d
  case neg =>
    rw [tells_no h3]
    have HT := hide (dictOk3 (H := H) (unhide H1) (unhide H2) h3)
    clear h3
    go_wp2
    go_ret
    exact ⟨by rw [unhide HT]; rfl, unhide HB4⟩
  rw [tells_yes h3]
  have H3 := hide h3
  clear h3
  go_wp2_with fail
  refine (l1indexok_any c 0 la' lc' ia' ic' xa' xc' d _ (unhide HP4) (unhide HS) (unhide H2)).mono ?_
  rintro e w5 ⟨rfl, hb5⟩
  have HB5 := hide ((unhide HB4).trans (hb5.mono (unhide HB4).size))
  have HP5 := hide ((unhide HP4).below hb5)
  clear hb5
  by_cases h4 : D4 d
  case neg =>
    rw [tells_no h4]
    have HT := hide (dictOk4 (H := H) (unhide H1) (unhide H2) (unhide H3) h4)
    clear h4
    go_wp2
    go_ret
    exact ⟨by rw [unhide HT]; rfl, unhide HB5⟩
  rw [tells_yes h4]
  have H4 := hide h4
  clear h4
  go_wp2_with fail
  refine (l1found_any c 0 la' lc' ia' ic' xa' xc' d H _ (unhide HP5) (unhide HS) (unhide H3) (unhide H4) (fun i hi ht => unhide HH i hi ((unhide H2).pos hi ht).2)).mono ?_
  rintro e w6 ⟨rfl, hb6⟩
  have HB6 := hide ((unhide HB5).trans (hb6.mono (unhide HB5).size))
  clear hb6
  by_cases h5 : D5 d H
  · rw [tells_yes h5]
    have HT := hide (dictOk0 (unhide H1) (unhide H2) (unhide H3) (unhide H4) h5)
    clear h5
    go_wp2
    go_ret
    exact ⟨by rw [unhide HT]; rfl, unhide HB6⟩
  · rw [tells_no h5]
    have HT := hide (dictOk5 (unhide H1) (unhide H2) (unhide H3) (unhide H4) h5)
    clear h5
    go_wp2
    go_ret
    exact ⟨by rw [unhide HT]; rfl, unhide HB6⟩
end Go.Proofs.YtglcaejddckleaaGreatDoor
