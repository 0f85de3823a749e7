/-
  KeyOf of the program.
-/
import Derived.Test.YtglcaejddckleaaGreatDoorKeyE
namespace Go.Proofs.YtglcaejddckleaaGreatDoor
open Go.RowKit
attribute [local go_sem] run_store_float run_equalIn_float

set_option maxHeartbeats 400000 in
theorem intValue_any (n : Int) (w : World)  :
    Calls Tryz.prog 51 #[.int .i64 n] w fun e w' => e = .returned (V 2 n 0 ⟨#[]⟩ 0) ∧ Below w.heap.size w w' := by
  go_enter Tryz.func51, Tryz.ntmps51
  go_wp2
  exact bodyPost_ret (v := V 2 n 0 ⟨#[]⟩ 0) (by simp [results, go_sem]) rfl ⟨rfl, (Below.refl _ _).alloc (Nat.le_refl _) _⟩

set_option maxHeartbeats 1000000 in
theorem ikeyA (kind num : Int) (flt : Nat) (s : ByteArray) (ref : Int) (w : World) (hv : validB kind num flt s ref = false) :
    Calls Tryz.prog 14 #[V kind num flt s ref] w fun e w' => e = .returned (KV 2 0 0 0 ⟨#[]⟩ 0) ∧ Below w.heap.size w w' := by
  go_enter Tryz.func14, Tryz.ntmps14
  go_wp2_with (go_at_call 48; refine (isValid_any kind num flt s ref _).mono ?_; rintro e w1 ⟨rfl, hb⟩; rw [hv]; obtain ⟨hc, hf⟩ := bcell hb; have hz := hb.size; simp at hz)
  exact bodyPost_ret (v := KV 2 0 0 0 ⟨#[]⟩ 0) (by simp [results, Tryz.results14, go_sem, hc]) rfl ⟨rfl, below_set6 (two_then (Nat.le_refl _) hb) _ (by omega) _ _ _ _ _ _⟩

set_option maxHeartbeats 1000000 in
theorem ikeyB (num : Int) (flt : Nat) (s : ByteArray) (ref : Int) (w : World) (hv : validB 0 num flt s ref = true) :
    Calls Tryz.prog 14 #[V 0 num flt s ref] w fun e w' => e = .returned (KV 1 0 0 0 ⟨#[]⟩ 0) ∧ Below w.heap.size w w' := by
  go_enter Tryz.func14, Tryz.ntmps14
  go_wp2_with (go_at_call 48; refine (isValid_any 0 num flt s ref _).mono ?_; rintro e w1 ⟨rfl, hb⟩; rw [hv]; obtain ⟨hc, hf⟩ := bcell hb; have hz := hb.size; simp at hz)
  exact bodyPost_ret (v := KV 1 0 0 0 ⟨#[]⟩ 0) (by simp [results, Tryz.results14, go_sem, hc]) rfl ⟨rfl, below_set6 (two_then (Nat.le_refl _) hb) _ (by omega) _ _ _ _ _ _⟩

set_option maxHeartbeats 1000000 in
theorem ikeyC (num : Int) (flt : Nat) (s : ByteArray) (ref : Int) (w : World) (hv : validB 3 num flt s ref = true) (hn : fnan flt = true) :
    Calls Tryz.prog 14 #[V 3 num flt s ref] w fun e w' => e = .returned (KV 1 0 0 0 ⟨#[]⟩ 0) ∧ Below w.heap.size w w' := by
  have g1 : (FloatKind.f64.format.order flt flt != some .eq) = true := hn
  clear hn
  go_enter Tryz.func14, Tryz.ntmps14
  go_wp2_with (first | (go_at_call 48; refine (isValid_any 3 num flt s ref _).mono ?_; rintro e w1 ⟨rfl, hb⟩; rw [hv]; obtain ⟨hc, hf⟩ := bcell hb; have hz := hb.size; simp at hz) | (go_at_call 49; go_in))
  exact bodyPost_ret (v := KV 1 0 0 0 ⟨#[]⟩ 0) (by simp [results, Tryz.results14, go_sem, hc]) rfl ⟨rfl, below_set6 (two_then (Nat.le_refl _) hb) _ (by omega) _ _ _ _ _ _⟩

set_option maxHeartbeats 1000000 in
theorem ikeyF (kind num : Int) (flt : Nat) (s : ByteArray) (ref : Int) (w : World) (hv : validB kind num flt s ref = true) (h0 : (kind == 0) = false) (h3 : (kind == 3) = false) :
    Calls Tryz.prog 14 #[V kind num flt s ref] w fun e w' => e = .returned (KV 0 kind num flt s ref) ∧ Below w.heap.size w w' := by
  go_enter Tryz.func14, Tryz.ntmps14
  go_wp2_with (go_at_call 48; refine (isValid_any kind num flt s ref _).mono ?_; rintro e w1 ⟨rfl, hb⟩; rw [hv]; obtain ⟨hc, hf⟩ := bcell hb; have hz := hb.size; simp at hz)
  exact bodyPost_ret (v := KV 0 kind num flt s ref) (by simp [results, Tryz.results14, go_sem, hc]) rfl ⟨rfl, below_set6 (two_then (Nat.le_refl _) hb) _ (by omega) _ _ _ _ _ _⟩

set_option maxHeartbeats 1000000 in
theorem ikeyE (num : Int) (flt : Nat) (s : ByteArray) (ref : Int) (w : World) (hv : validB 3 num flt s ref = true) (hn : fnan flt = false) (hno : wholeB flt = false) :
    Calls Tryz.prog 14 #[V 3 num flt s ref] w fun e w' => e = .returned (KV 0 3 num flt s ref) ∧ Below w.heap.size w w' := by
  have g1 : (FloatKind.f64.format.order flt flt != some .eq) = false := hn
  clear hn
  go_enter Tryz.func14, Tryz.ntmps14
  go_wp2_with (first | (go_at_call 48; refine (isValid_any 3 num flt s ref _).mono ?_; rintro e w1 ⟨rfl, hb⟩; rw [hv]; obtain ⟨hc, hf⟩ := bcell hb; have hz := hb.size; simp at hz) | (go_at_call 49; go_in) | (go_at_call 50; refine (isWhole_any flt _).mono ?_; rintro e w2 ⟨rfl, rfl⟩; rw [hno]))
  exact bodyPost_ret (v := KV 0 3 num flt s ref) (by simp [results, Tryz.results14, go_sem, hc]) rfl ⟨rfl, below_set6 (two_then (Nat.le_refl _) hb) _ (by omega) _ _ _ _ _ _⟩

set_option maxHeartbeats 1000000 in
theorem ikeyD (num : Int) (flt : Nat) (s : ByteArray) (ref : Int) (w : World) (hv : validB 3 num flt s ref = true) (hn : fnan flt = false) (hw : wholeB flt = true) :
    Calls Tryz.prog 14 #[V 3 num flt s ref] w fun e w' => e = .returned (KV 0 2 (fint flt) 0 ⟨#[]⟩ 0) ∧ Below w.heap.size w w' := by
  have g1 : (FloatKind.f64.format.order flt flt != some .eq) = false := hn
  have hcv : ∀ w : World, (convert 28 2 (.float .f64 flt)).run Tryz.prog w = .ok (.int .i64 (fint flt)) w := by
    unfold wholeB at hw
    simp only [Bool.and_eq_true] at hw
    exact fint_conv hw.1.1 hw.1.2
  clear hn
  generalize fint flt = n at *
  go_enter Tryz.func14, Tryz.ntmps14
  go_wp2_with (first | (go_at_call 48; refine (isValid_any 3 num flt s ref _).mono ?_; rintro e w1 ⟨rfl, hb⟩; rw [hv]; obtain ⟨hc, hf⟩ := bcell hb; have hz := hb.size; simp at hz; have hz1 : w.heap.size + 1 < w1.heap.size := (by omega); have hz0 : w.heap.size < w1.heap.size := (by omega)) | (go_at_call 49; go_in) | (go_at_call 50; refine (isWhole_any flt _).mono ?_; rintro e w2 ⟨rfl, rfl⟩; rw [hw]) | (go_at_call 51; refine (intValue_any n _).mono ?_; rintro e w3 ⟨rfl, hb3⟩; obtain ⟨hc3, hf3⟩ := bcell hb3; have hz3 := hb3.size))
  exact bodyPost_ret (v := KV 0 2 n 0 ⟨#[]⟩ 0) (by simp [results, Tryz.results14, go_sem, hc, hc3, hz1]) rfl ⟨rfl, below_set6 ((two_then (Nat.le_refl _) hb).trans (hb3.mono (by omega))) _ (by omega) _ _ _ _ _ _⟩

theorem ikey_any (kind num : Int) (flt : Nat) (s : ByteArray) (ref : Int) (w : World) :
    Calls Tryz.prog 14 #[V kind num flt s ref] w fun e w' => e = .returned (keyV kind num flt s ref) ∧ Below w.heap.size w w' := by
  unfold keyV
  by_cases hv : validB kind num flt s ref = true
  · rw [if_pos hv]
    by_cases h0 : kind = 0
    · subst h0; rw [if_pos rfl]; exact ikeyB num flt s ref w hv
    · rw [if_neg h0]
      by_cases h3 : kind = 3
      · subst h3
        rw [if_pos rfl]
        by_cases hn : fnan flt = true
        · rw [if_pos hn]; exact ikeyC num flt s ref w hv hn
        · rw [if_neg hn]
          have hn' : fnan flt = false := by simpa using hn
          by_cases hw : wholeB flt = true
          · rw [if_pos hw]; exact ikeyD num flt s ref w hv hn' hw
          · rw [if_neg hw]; exact ikeyE num flt s ref w hv hn' (by simpa using hw)
      · rw [if_neg h3]
        exact ikeyF kind num flt s ref w hv (by simp [h0]) (by simp [h3])
  · rw [if_neg hv]; exact ikeyA kind num flt s ref w (by simpa using hv)
end Go.Proofs.YtglcaejddckleaaGreatDoor
