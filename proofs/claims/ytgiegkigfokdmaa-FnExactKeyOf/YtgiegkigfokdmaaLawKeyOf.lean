/-
  The law of KeyOf: the walk.
-/
import Derived.Test.YtgiegkigfokdmaaConv
import Derived.Test.YtgiegkigfokdmaaKeyG
namespace Go.Proofs.Ytgiegkigfokdmaa
open Go.ChangeShapes Go.WideShapes Go.ChangeAt Go.RowKit
attribute [local go_sem] run_store_float run_equalIn_float

set_option maxHeartbeats 1000000 in
theorem law_keyOf (kind num : Int) (flt : Nat) (s : ByteArray) (ref : Int) (w : World) (hs : s.size ≤ maxLen) :
    Calls Try.prog 4 #[V kind num flt s ref] w fun e w' => e = .returned (.bool true) ∧ Below w.heap.size w w' := by
  obtain ⟨c, k, n, f, t, r, hk⟩ := keyV_form kind num flt s ref
  have HK := hide hk
  clear hk
  by_cases h : (1048576 : Int) < s.size
  · have H := hide h
    clear h
    go_enter Try.func4, Try.ntmps4
    go_wp2_with (go_at_call 13; refine (sz_any kind num flt s ref 1048576 _ hs (by omega) (by omega)).mono ?_; rintro e w1 ⟨rfl, hb1⟩; rw [if_pos (unhide H)])
    go_ret
    exact ⟨rfl, ((Below.refl _ _).alloc (Nat.le_refl _) _).trans (hb1.mono (by simp))⟩
  · have H := hide h
    have hle : 0 ≤ 1048576 - (s.size : Int) := by omega
    clear h
    go_enter Try.func4, Try.ntmps4
    go_wp2_with (go_at_call 13; refine (sz_any kind num flt s ref 1048576 _ hs (by omega) (by omega)).mono ?_; rintro e w1 ⟨rfl, hb1⟩; rw [if_neg (unhide H)]; obtain ⟨hc1, hf1⟩ := bcell hb1; have hz1 := hb1.size; simp at hz1; have hy1 : w.heap.size < w1.heap.size := (by omega))
    refine (toValue_any kind num flt s ref _).mono ?_
    rintro e w2 ⟨rfl, hb2⟩
    obtain ⟨hc2, hf2⟩ := bcell hb2
    have hz2 := hb2.size
    have hy2 : w.heap.size < w2.heap.size := by omega
    go_wp2_with fail
    refine (skey_any kind num flt s ref _).mono ?_
    rintro e w3 ⟨rfl, hb3⟩
    obtain ⟨hc3, hf3⟩ := bcell hb3
    have hz3 := hb3.size
    have hy3 : w.heap.size < w3.heap.size := by omega
    rw [unhide HK]
    go_wp2_with fail
    refine (toValue_any kind num flt s ref _).mono ?_
    rintro e w4 ⟨rfl, hb4⟩
    obtain ⟨hc4, hf4⟩ := bcell hb4
    have hz4 := hb4.size
    simp at hz4
    have hy4 : w3.heap.size < w4.heap.size := by omega
    go_wp2_with fail
    refine (ikey_any kind num flt s ref _).mono ?_
    rintro e w5 ⟨rfl, hb5⟩
    obtain ⟨hc5, hf5⟩ := bcell hb5
    have hz5 := hb5.size
    have hy5 : w3.heap.size < w5.heap.size := by omega
    rw [unhide HK]
    go_wp2_with fail
    refine (eqKeyed_self c k n f t r _).mono ?_
    rintro e w6 ⟨rfl, hb6⟩
    go_wp2_with fail
    go_ret
    have b1 : Below w.heap.size w w1 := ((Below.refl _ _).alloc (Nat.le_refl _) _).trans (hb1.mono (by simp))
    have b3 : Below w.heap.size w w3 := (b1.trans (hb2.mono (by omega))).trans (hb3.mono (by omega))
    have b5 : Below w.heap.size w w5 := ((b3.alloc (by omega) _).trans (hb4.mono (by simp; omega))).trans (hb5.mono (by omega))
    exact ⟨rfl, (b5.alloc (by omega) _).trans (hb6.mono (by simp; omega))⟩
end Go.Proofs.Ytgiegkigfokdmaa
