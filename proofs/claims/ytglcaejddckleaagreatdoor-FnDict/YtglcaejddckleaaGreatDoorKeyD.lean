/-
  KeyOf of the model.
-/
import Derived.Test.YtglcaejddckleaaGreatDoorHide
import Derived.Test.YtglcaejddckleaaGreatDoorKeyC
import Derived.Deep.QuietTactic
import Derived.BigQuiet
namespace Go.Proofs.YtglcaejddckleaaGreatDoor
open Go.RowKit
attribute [local go_sem] run_store_float run_equalIn_float

theorem below_set6 {B : Nat} {a w : World} (h : Below B a w) (b : Nat) (hb : B ≤ b) (v0 v1 v2 v3 v4 v5 : Value) :
    Below B a ((((((w.setCell ⟨b, 0, none⟩ v0).setCell ⟨b, 1, none⟩ v1).setCell ⟨b, 2, none⟩ v2).setCell ⟨b, 3, none⟩ v3).setCell ⟨b, 4, none⟩ v4).setCell ⟨b, 5, none⟩ v5) :=
  (((((h.setCell (p := ⟨b, 0, none⟩) hb v0).setCell (p := ⟨b, 1, none⟩) hb v1).setCell (p := ⟨b, 2, none⟩) hb v2).setCell (p := ⟨b, 3, none⟩) hb v3).setCell (p := ⟨b, 4, none⟩) hb v4).setCell (p := ⟨b, 5, none⟩) hb v5

theorem below_drewN' {B : Nat} {a w : World} (h : Below B a w) (n : Nat) : Below B a (w.drewN n) := ⟨h.os, h.tape, h.output, h.size, h.block⟩

theorem two_then {B : Nat} {w w1 : World} {o1 o2 : Obj} (hB : B ≤ w.heap.size) (hb : Below ((w.alloc o1).alloc o2).heap.size ((w.alloc o1).alloc o2) w1) : Below B w w1 :=
  (((Below.refl B w).alloc hB o1).alloc (by simp; omega) o2).trans (hb.mono (by simp; omega))

/-- What KeyOf gives. -/
def keyV (kind num : Int) (flt : Nat) (s : ByteArray) (ref : Int) : Value :=
  if validB kind num flt s ref = true then
    if kind = 0 then KV 1 0 0 0 ⟨#[]⟩ 0
    else if kind = 3 then
      if fnan flt = true then KV 1 0 0 0 ⟨#[]⟩ 0
      else if wholeB flt = true then KV 0 2 (fint flt) 0 ⟨#[]⟩ 0
      else KV 0 kind num flt s ref
    else KV 0 kind num flt s ref
  else KV 2 0 0 0 ⟨#[]⟩ 0

set_option maxHeartbeats 1000000 in
theorem skeyA (kind num : Int) (flt : Nat) (s : ByteArray) (ref : Int) (w : World) (hv : validB kind num flt s ref = false) :
    Calls Tryz.prog 17 #[V kind num flt s ref] w fun e w' => e = .returned (KV 2 0 0 0 ⟨#[]⟩ 0) ∧ Below w.heap.size w w' := by
  go_enter Tryz.func17, Tryz.ntmps17
  go_wp2_with (go_at_call 56; refine (valueOk_any kind num flt s ref _).mono ?_; rintro e w1 ⟨rfl, hb⟩; rw [hv]; obtain ⟨hc, hf⟩ := bcell hb; have hz := hb.size; simp at hz)
  exact bodyPost_ret (v := KV 2 0 0 0 ⟨#[]⟩ 0) (by simp [results, Tryz.results17, go_sem, hc]) rfl ⟨rfl, below_set6 (two_then (Nat.le_refl _) hb) _ (by omega) _ _ _ _ _ _⟩

set_option maxHeartbeats 1000000 in
theorem skeyB (num : Int) (flt : Nat) (s : ByteArray) (ref : Int) (w : World) (hv : validB 0 num flt s ref = true) :
    Calls Tryz.prog 17 #[V 0 num flt s ref] w fun e w' => e = .returned (KV 1 0 0 0 ⟨#[]⟩ 0) ∧ Below w.heap.size w w' := by
  go_enter Tryz.func17, Tryz.ntmps17
  go_wp2_with (go_at_call 56; refine (valueOk_any 0 num flt s ref _).mono ?_; rintro e w1 ⟨rfl, hb⟩; rw [hv]; obtain ⟨hc, hf⟩ := bcell hb; have hz := hb.size; simp at hz)
  exact bodyPost_ret (v := KV 1 0 0 0 ⟨#[]⟩ 0) (by simp [results, Tryz.results17, go_sem, hc]) rfl ⟨rfl, below_set6 (two_then (Nat.le_refl _) hb) _ (by omega) _ _ _ _ _ _⟩

set_option maxHeartbeats 1000000 in
theorem skeyC (num : Int) (flt : Nat) (s : ByteArray) (ref : Int) (w : World) (hv : validB 3 num flt s ref = true) (hn : fnan flt = true) :
    Calls Tryz.prog 17 #[V 3 num flt s ref] w fun e w' => e = .returned (KV 1 0 0 0 ⟨#[]⟩ 0) ∧ Below w.heap.size w w' := by
  have g1 : (FloatKind.f64.format.order flt flt != some .eq) = true := hn
  clear hn
  go_enter Tryz.func17, Tryz.ntmps17
  go_wp2_with (first | (go_at_call 56; refine (valueOk_any 3 num flt s ref _).mono ?_; rintro e w1 ⟨rfl, hb⟩; rw [hv]; obtain ⟨hc, hf⟩ := bcell hb; have hz := hb.size; simp at hz) | (go_at_call 57; go_in))
  exact bodyPost_ret (v := KV 1 0 0 0 ⟨#[]⟩ 0) (by simp [results, Tryz.results17, go_sem, hc]) rfl ⟨rfl, below_set6 (two_then (Nat.le_refl _) hb) _ (by omega) _ _ _ _ _ _⟩

set_option maxHeartbeats 1000000 in
theorem skeyF (kind num : Int) (flt : Nat) (s : ByteArray) (ref : Int) (w : World) (hv : validB kind num flt s ref = true) (h0 : (kind == 0) = false) (h3 : (kind == 3) = false) :
    Calls Tryz.prog 17 #[V kind num flt s ref] w fun e w' => e = .returned (KV 0 kind num flt s ref) ∧ Below w.heap.size w w' := by
  go_enter Tryz.func17, Tryz.ntmps17
  go_wp2_with (go_at_call 56; refine (valueOk_any kind num flt s ref _).mono ?_; rintro e w1 ⟨rfl, hb⟩; rw [hv]; obtain ⟨hc, hf⟩ := bcell hb; have hz := hb.size; simp at hz)
  go_quiet (fail)
  go_wp2
  exact bodyPost_ret (v := KV 0 kind num flt s ref) (by simp [results, Tryz.results17, go_sem, hc]) rfl ⟨rfl, below_set6 (below_drewN' (two_then (Nat.le_refl _) hb) _) _ (by omega) _ _ _ _ _ _⟩

set_option maxHeartbeats 2000000 in
/-- kind 3, no NaN, the floor's answer r known: the test comes out as told. -/
theorem skeyE (num : Int) (flt : Nat) (s : ByteArray) (ref : Int) (w : World) (hv : validB 3 num flt s ref = true) (hn : fnan flt = false) (r : Nat)
    (hfl : ∀ w : World, Calls Tryz.prog 58 #[.float .f64 flt] w fun e w' => e = .returned (.float .f64 r) ∧ w' = w)
    (hno : ((FloatKind.f64.format.order flt r == some .eq) && geB flt && ltB flt) = false) :
    Calls Tryz.prog 17 #[V 3 num flt s ref] w fun e w' => e = .returned (KV 0 3 num flt s ref) ∧ Below w.heap.size w w' := by
  have g1 : (FloatKind.f64.format.order flt flt != some .eq) = false := hn
  have HN := hide hno
  have HF := hide hfl
  clear hn hno hfl
  by_cases t1 : (FloatKind.f64.format.order flt r == some .eq) = true
  · by_cases t2 : geB flt = true
    · have t3 : ltB flt = false := by have := unhide HN; rw [t1, t2] at this; simpa using this
      have g2 : (FloatKind.f64.format.order flt 14114281232179134464 == some .gt || FloatKind.f64.format.order flt 14114281232179134464 == some .eq) = true := t2
      have g3 : (FloatKind.f64.format.order flt 4890909195324358656 == some .lt) = false := t3
      clear t2 t3
      go_enter Tryz.func17, Tryz.ntmps17
      go_wp2_with (first | (go_at_call 56; refine (valueOk_any 3 num flt s ref _).mono ?_; rintro e w1 ⟨rfl, hb⟩; rw [hv]; obtain ⟨hc, hf⟩ := bcell hb; have hz := hb.size; simp at hz) | (go_at_call 57; go_in))
      go_quiet ((go_at_call 58; exact Calls.quiet_of_same (unhide HF _)))
      go_wp2
      exact bodyPost_ret (v := KV 0 3 num flt s ref) (by simp [results, Tryz.results17, go_sem, hc]) rfl ⟨rfl, below_set6 (below_drewN' (two_then (Nat.le_refl _) hb) _) _ (by omega) _ _ _ _ _ _⟩
    · have g2 : (FloatKind.f64.format.order flt 14114281232179134464 == some .gt || FloatKind.f64.format.order flt 14114281232179134464 == some .eq) = false := (by simpa using t2 : geB flt = false)
      clear t2
      go_enter Tryz.func17, Tryz.ntmps17
      go_wp2_with (first | (go_at_call 56; refine (valueOk_any 3 num flt s ref _).mono ?_; rintro e w1 ⟨rfl, hb⟩; rw [hv]; obtain ⟨hc, hf⟩ := bcell hb; have hz := hb.size; simp at hz) | (go_at_call 57; go_in))
      go_quiet ((go_at_call 58; exact Calls.quiet_of_same (unhide HF _)))
      go_wp2
      exact bodyPost_ret (v := KV 0 3 num flt s ref) (by simp [results, Tryz.results17, go_sem, hc]) rfl ⟨rfl, below_set6 (below_drewN' (two_then (Nat.le_refl _) hb) _) _ (by omega) _ _ _ _ _ _⟩
  · have t1' : (FloatKind.f64.format.order flt r == some .eq) = false := by simpa using t1
    clear t1
    go_enter Tryz.func17, Tryz.ntmps17
    go_wp2_with (first | (go_at_call 56; refine (valueOk_any 3 num flt s ref _).mono ?_; rintro e w1 ⟨rfl, hb⟩; rw [hv]; obtain ⟨hc, hf⟩ := bcell hb; have hz := hb.size; simp at hz) | (go_at_call 57; go_in))
    go_quiet ((go_at_call 58; exact Calls.quiet_of_same (unhide HF _)))
    go_wp2
    exact bodyPost_ret (v := KV 0 3 num flt s ref) (by simp [results, Tryz.results17, go_sem, hc]) rfl ⟨rfl, below_set6 (below_drewN' (two_then (Nat.le_refl _) hb) _) _ (by omega) _ _ _ _ _ _⟩

set_option maxHeartbeats 400000 in
theorem l1int_any (n : Int) (w : World)  :
    Calls Tryz.prog 59 #[.int .i64 n] w fun e w' => e = .returned (V 2 n 0 ⟨#[]⟩ 0) ∧ Below w.heap.size w w' := by
  go_enter Tryz.func59, Tryz.ntmps59
  go_wp2
  exact bodyPost_ret (v := V 2 n 0 ⟨#[]⟩ 0) (by simp [results, go_sem]) rfl ⟨rfl, (Below.refl _ _).alloc (Nat.le_refl _) _⟩

end Go.Proofs.YtglcaejddckleaaGreatDoor
