/-
  KeyOf of the model and of the program.
-/
import Derived.Test.YtglcaejddckleaaGreatDoorKeyD
namespace Go.Proofs.YtglcaejddckleaaGreatDoor
open Go.RowKit
attribute [local go_sem] run_store_float run_equalIn_float

theorem fint_conv {x : Nat} (h1 : geB x = true) (h2 : ltB x = true) (w : World) :
    (convert 28 2 (.float .f64 x)).run Tryz.prog w = .ok (.int .i64 (fint x)) w := by
  obtain ⟨s, m, i, hr, hi, hi2, hm, hlo, hhi⟩ := fin_of h1 h2
  have e : fint x = Fl.sg s (Fl.whole m i) := by unfold fint; rw [hr]
  rw [e]
  exact run_convert_float_int w 28 2 .f64 .i64 x _ (by kernel_rfl) Tryz.underlying2 (Fl.toIntVal hr hi hlo hhi)

set_option maxHeartbeats 1000000 in
theorem skeyD (num : Int) (flt : Nat) (s : ByteArray) (ref : Int) (w : World) (hv : validB 3 num flt s ref = true) (hn : fnan flt = false) (r : Nat)
    (hfl : ∀ w : World, Calls Tryz.prog 58 #[.float .f64 flt] w fun e w' => e = .returned (.float .f64 r) ∧ w' = w)
    (t1 : (FloatKind.f64.format.order flt r == some .eq) = true) (t2 : geB flt = true) (t3 : ltB flt = true) :
    Calls Tryz.prog 17 #[V 3 num flt s ref] w fun e w' => e = .returned (KV 0 2 (fint flt) 0 ⟨#[]⟩ 0) ∧ Below w.heap.size w w' := by
  have g1 : (FloatKind.f64.format.order flt flt != some .eq) = false := hn
  have HF := hide hfl
  have g2 : (FloatKind.f64.format.order flt 14114281232179134464 == some .gt || FloatKind.f64.format.order flt 14114281232179134464 == some .eq) = true := t2
  have g3 : (FloatKind.f64.format.order flt 4890909195324358656 == some .lt) = true := t3
  have hcv := fint_conv t2 t3
  clear t2 t3 hn hfl
  generalize fint flt = n at *
  go_enter Tryz.func17, Tryz.ntmps17
  go_wp2_with (first | (go_at_call 56; refine (valueOk_any 3 num flt s ref _).mono ?_; rintro e w1 ⟨rfl, hb⟩; rw [hv]; obtain ⟨hc, hf⟩ := bcell hb; have hz := hb.size; simp at hz) | (go_at_call 57; go_in))
  go_quiet ((go_at_call 58; exact Calls.quiet_of_same (unhide HF _)))
  obtain ⟨w2, hb2, hw2⟩ : ∃ w2, Below _ _ w2 ∧ w1.drewN nq = w2 := ⟨_, below_drewN' hb nq, rfl⟩
  rw [hw2]
  clear hw2 hb hc hf hz
  obtain ⟨hc, hf⟩ := bcell hb2
  have hz := hb2.size
  simp at hz
  have hz1 : w.heap.size + 1 < w2.heap.size := by omega
  have hz0 : w.heap.size < w2.heap.size := by omega
  go_wp2_with (go_at_call 59; refine (l1int_any n _).mono ?_; rintro e w3 ⟨rfl, hb3⟩; obtain ⟨hc3, hf3⟩ := bcell hb3; have hz3 := hb3.size)
  exact bodyPost_ret (v := KV 0 2 n 0 ⟨#[]⟩ 0) (by simp [results, Tryz.results17, go_sem, hc, hc3, hz1]) rfl ⟨rfl, below_set6 ((two_then (Nat.le_refl _) hb2).trans (hb3.mono (by omega))) _ (by omega) _ _ _ _ _ _⟩

theorem skey_any (kind num : Int) (flt : Nat) (s : ByteArray) (ref : Int) (w : World) :
    Calls Tryz.prog 17 #[V kind num flt s ref] w fun e w' => e = .returned (keyV kind num flt s ref) ∧ Below w.heap.size w w' := by
  unfold keyV
  by_cases hv : validB kind num flt s ref = true
  · rw [if_pos hv]
    by_cases h0 : kind = 0
    · subst h0; rw [if_pos rfl]; exact skeyB num flt s ref w hv
    · rw [if_neg h0]
      by_cases h3 : kind = 3
      · subst h3
        rw [if_pos rfl]
        by_cases hn : fnan flt = true
        · rw [if_pos hn]; exact skeyC num flt s ref w hv hn
        · rw [if_neg hn]
          have hn' : fnan flt = false := by simpa using hn
          obtain ⟨r, hr, hfl⟩ : ∃ r, ((FloatKind.f64.format.order flt r == some .eq) && geB flt && ltB flt) = wholeB flt ∧ ∀ w : World, Calls Tryz.prog 58 #[.float .f64 flt] w fun e w' => e = .returned (.float .f64 r) ∧ w' = w := by
            by_cases ha : asIs flt = true
            · refine ⟨flt, ?_, fun w => floor_same flt w ha⟩
              have e : (FloatKind.f64.format.order flt flt == some .eq) = true := by
                have : (FloatKind.f64.format.order flt flt != some .eq) = false := hn'
                simpa using this
              rw [e]
              unfold wholeB
              by_cases g : geB flt = true
              · by_cases l : ltB flt = true
                · rw [asIs_whole ha hn' g l]; simp
                · have : ltB flt = false := by simpa using l
                  rw [this]; simp
              · have : geB flt = false := by simpa using g
                rw [this]; simp
            · have ha' : asIs flt = false := by simpa using ha
              obtain ⟨r, h1, h2⟩ := floor_else flt ha'
              refine ⟨r, ?_, h2⟩
              rw [h1]; unfold wholeB
              cases isW flt <;> cases geB flt <;> cases ltB flt <;> rfl
          by_cases hw : wholeB flt = true
          · rw [if_pos hw]
            rw [hw] at hr
            simp only [Bool.and_eq_true] at hr
            exact skeyD num flt s ref w hv hn' r hfl hr.1.1 hr.1.2 hr.2
          · rw [if_neg hw]
            have hw' : wholeB flt = false := by simpa using hw
            rw [hw'] at hr
            exact skeyE num flt s ref w hv hn' r hfl hr
      · rw [if_neg h3]
        exact skeyF kind num flt s ref w hv (by simp [h0]) (by simp [h3])
  · rw [if_neg hv]; exact skeyA kind num flt s ref w (by simpa using hv)

end Go.Proofs.YtglcaejddckleaaGreatDoor
