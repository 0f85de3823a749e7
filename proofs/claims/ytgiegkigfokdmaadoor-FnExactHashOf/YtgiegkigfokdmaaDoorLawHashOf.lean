/-
  The law of HashOf: the walk.
-/
import Derived.Test.YtgiegkigfokdmaaDoorHashK
namespace Go.Proofs.YtgiegkigfokdmaaDoor
open Go.RowKit
set_option linter.unusedVariables false
attribute [local go_sem] run_store_float run_equalIn_float

set_option maxHeartbeats 1000000 in
theorem law_hashOf (kind num : Int) (flt : Nat) (s : ByteArray) (ref : Int) (w : World) (hs : s.size ≤ maxLen) (hf : flt < 18446744073709551616) (hT : Tabs w) :
    Calls Tryd.prog 6 #[V kind num flt s ref] w fun e w' => e = .returned (.bool true) ∧ Below w.heap.size w w' := by
  obtain ⟨z, hI, hS⟩ := hash_both kind num flt s ref hs hf
  have HI := hide hI
  have HS := hide hS
  have HT := hide hT
  clear hI hS hT hf
  by_cases h : (1048576 : Int) < s.size
  · have H := hide h
    clear h
    go_enter Tryd.func6, Tryd.ntmps6
    go_wp2_with (go_at_call 20; refine (sz_any kind num flt s ref 1048576 _ hs (by omega) (by omega)).mono ?_; rintro e w1 ⟨rfl, hb1⟩; rw [if_pos (unhide H)])
    go_ret
    exact ⟨rfl, ((Below.refl _ _).alloc (Nat.le_refl _) _).trans (hb1.mono (by simp))⟩
  · have H := hide h
    have hle : 0 ≤ 1048576 - (s.size : Int) := by omega
    clear h
    go_enter Tryd.func6, Tryd.ntmps6
    go_wp2_with (go_at_call 20; refine (sz_any kind num flt s ref 1048576 _ hs (by omega) (by omega)).mono ?_; rintro e w1 ⟨rfl, hb1⟩; rw [if_neg (unhide H)]; obtain ⟨hc1, hf1⟩ := bcell hb1; have hz1 := hb1.size; simp at hz1; have hy1 : w.heap.size < w1.heap.size := (by omega))
    have b1 := hide (((Below.refl w.heap.size w).alloc (Nat.le_refl _) _).trans (hb1.mono (by simp)))
    refine (toValue_any kind num flt s ref _).mono ?_
    rintro e w2 ⟨rfl, hb2⟩
    obtain ⟨hc2, hf2⟩ := bcell hb2
    have hz2 := hb2.size
    have hy2 : w.heap.size < w2.heap.size := by omega
    have b2 := hide ((unhide b1).trans (hb2.mono (by omega)))
    go_wp2_with fail
    refine ((unhide HS) _).mono ?_
    rintro e w3 ⟨rfl, hb3⟩
    obtain ⟨hc3, hf3⟩ := bcell hb3
    have hz3 := hb3.size
    have hy3 : w.heap.size < w3.heap.size := by omega
    have b3 := hide ((unhide b2).trans (hb3.mono (by omega)))
    go_wp2_with fail
    refine (toValue_any kind num flt s ref _).mono ?_
    rintro e w4 ⟨rfl, hb4⟩
    have hz4 := hb4.size
    have b4 := hide ((unhide b3).trans (hb4.mono (by omega)))
    go_wp2_with fail
    refine ((unhide HI) _ ((unhide HT).below (unhide b4) (unhide HT).sz)).mono ?_
    rintro e w5 ⟨rfl, hb5⟩
    go_wp2_with fail
    go_ret
    exact ⟨rfl, (unhide b4).trans (hb5.mono (by omega))⟩
end Go.Proofs.YtgiegkigfokdmaaDoor
