/-
  KeyB, KeyC, KeyD, KeyE, KeyF, KeyG.
-/
import Derived.Test.YtnjgebncghdajaaGreatDoorKeyA
import Derived.Laws.Externs
import Derived.Test.YtnjgebncghdajaaGreatDoorHide
import Derived.Deep.QuietTactic
import Derived.BigQuiet
namespace Go.Proofs.YtnjgebncghdajaaGreatDoor
open Go.RowKit
attribute [local go_sem] run_store_float run_equalIn_float

theorem arch_is (x : Nat) (s : Bool) (m : Nat) (i : Int) (h1 : FloatKind.f64.decode x = .number s m i) :
    Extern.MathFloor.toIntegral "math.archTrunc" .zero #[.float .f64 x] = pure (.float .f64 (FloatKind.f64.encode ((Ieee.Datum.number s m i).integral .zero))) := by
  show Extern.MathFloor.toIntegral.match_1 (fun _ => Sem Value) (FloatKind.f64.decode x) (fun s t => _) (fun d => _) = _
  rw [h1]

theorem arch_run (x : Nat) (w : World) (s : Bool) (m : Nat) (i : Int) (hx : Ieee.double.read x = .number s m i) :
    (callFunc 112 #[.float .f64 x]).run Tryz.prog w = .ok (.value (.float .f64 (Ieee.double.nearest s (Fl.whole m i) 0))) w := by
  rw [run_callFunc_extern (e := Extern.MathFloor.toIntegral "math.archTrunc" .zero) Tryz.func112 (by kernel_rfl) (by kernel_rfl) (by kernel_rfl) (by kernel_rfl)]
  rw [arch_is x s m i hx, Fl.integral_number]
  rfl

set_option maxHeartbeats 400000 in
theorem trunc_any (x : Nat) (w : World) (s : Bool) (m : Nat) (i : Int) (hx : Ieee.double.read x = .number s m i) :
    Calls Tryz.prog 105 #[.float .f64 x] w fun e w' => e = .returned (.float .f64 (Ieee.double.nearest s (Fl.whole m i) 0)) ∧ w' = w := by
  have ha := fun w => arch_run x w s m i hx
  clear hx
  go_enter Tryz.func105, Tryz.ntmps105
  go_wp2
  go_ret
  exact ⟨rfl, rfl⟩

theorem fin_of {x : Nat} (h1 : (Ieee.double.order x 14114281232179134464 == some .gt || Ieee.double.order x 14114281232179134464 == some .eq) = true) (h2 : (Ieee.double.order x 4890909195324358656 == some .lt) = true) :
    ∃ s m i, Ieee.double.read x = .number s m i ∧ -1074 ≤ i ∧ i ≤ 971 ∧ m < 2 ^ 53 ∧ -(9223372036854775808 * Fl.U) ≤ Fl.sc s m i ∧ Fl.sc s m i < 9223372036854775808 * Fl.U := by
  rcases Fl.read_cases x with ⟨s, m, i, hr, hi, hi2, hm, _⟩ | ⟨s, hr⟩ | ⟨s, t, hr⟩
  · refine ⟨s, m, i, hr, hi, hi2, hm, ?_, ?_⟩
    · rw [Fl.ord_of hr Fl.read_m63 hi (by omega), Fl.sc_m63, Fl.cmp_gt, Fl.cmp_eq] at h1
      simp at h1; omega
    · rw [Fl.ord_of hr Fl.read_c63 hi (by omega), Fl.sc_c63, Fl.cmp_lt] at h2
      simpa using h2
  · exfalso
    unfold Ieee.Format.order at h1 h2
    rw [hr, Fl.read_m63] at h1
    rw [hr, Fl.read_c63] at h2
    cases s <;> simp [Ieee.Datum.order] at h1 h2
  · exfalso
    unfold Ieee.Format.order at h1 h2
    rw [hr] at h1
    simp [Ieee.Datum.order] at h1

/-- A float that is a whole number within an int64; and that int. -/
def geB (x : Nat) : Bool := FloatKind.f64.format.order x 14114281232179134464 == some .gt || FloatKind.f64.format.order x 14114281232179134464 == some .eq
def ltB (x : Nat) : Bool := FloatKind.f64.format.order x 4890909195324358656 == some .lt
def isW (x : Nat) : Bool := match Ieee.double.read x with
  | .number s m i => decide (Fl.sc s m i = Fl.sg s (Fl.whole m i) * Fl.U)
  | _ => false
def fint (x : Nat) : Int := match Ieee.double.read x with
  | .number s m i => Fl.sg s (Fl.whole m i)
  | _ => 0
def wholeB (x : Nat) : Bool := geB x && ltB x && isW x

set_option maxHeartbeats 1000000 in
theorem isWhole_any (x : Nat) (w : World) :
    Calls Tryz.prog 90 #[.float .f64 x] w fun e w' => e = .returned (.bool (wholeB x)) ∧ w' = w := by
  by_cases h1 : geB x = true
  · by_cases h2 : ltB x = true
    · obtain ⟨s, m, i, hr, hi, hi2, hm, _, _⟩ := fin_of h1 h2
      have hw : wholeB x = decide (Fl.sc s m i = Fl.sg s (Fl.whole m i) * Fl.U) := by
        unfold wholeB isW; rw [h1, h2, hr]; simp
      have ho := Fl.ord_trunc hr hi hi2 hm
      rw [← hw] at ho
      have hto : (FloatKind.f64.format.order x (Ieee.double.nearest s (Fl.whole m i) 0) == some .eq) = wholeB x := ho
      have H : Hid ((FloatKind.f64.format.order x (Ieee.double.nearest s (Fl.whole m i) 0) == some .eq) = wholeB x) := hto
      have HR : Hid (Ieee.double.read x = .number s m i) := hr
      have g1 : (FloatKind.f64.format.order x 14114281232179134464 == some .gt || FloatKind.f64.format.order x 14114281232179134464 == some .eq) = true := h1
      have g2 : (FloatKind.f64.format.order x 4890909195324358656 == some .lt) = true := h2
      clear hw ho hto hr h1 h2 hi hi2 hm
      go_enter Tryz.func90, Tryz.ntmps90
      go_wp2_with (go_at_call 105; refine (trunc_any x _ s m i HR.out).mono ?_; rintro e w' ⟨rfl, rfl⟩)
      all_goals
        go_ret
        exact ⟨by rw [← H.out]; simp, rfl⟩
    · have g1 : (FloatKind.f64.format.order x 14114281232179134464 == some .gt || FloatKind.f64.format.order x 14114281232179134464 == some .eq) = true := h1
      have g2 : (FloatKind.f64.format.order x 4890909195324358656 == some .lt) = false := (by simpa using h2 : ltB x = false)
      have hw : wholeB x = false := by unfold wholeB; simp at h2; rw [h1, h2]; simp
      rw [hw]
      clear h1 h2 hw
      go_enter Tryz.func90, Tryz.ntmps90
      go_wp2
      all_goals
        go_ret
        exact ⟨rfl, rfl⟩
  · have g1 : (FloatKind.f64.format.order x 14114281232179134464 == some .gt || FloatKind.f64.format.order x 14114281232179134464 == some .eq) = false := (by simpa using h1 : geB x = false)
    have hw : wholeB x = false := by unfold wholeB; simp at h1; rw [h1]; simp
    rw [hw]
    clear h1 hw
    go_enter Tryz.func90, Tryz.ntmps90
    go_wp2
    all_goals
      go_ret
      exact ⟨rfl, rfl⟩
end Go.Proofs.YtnjgebncghdajaaGreatDoor
namespace Go.Proofs.YtnjgebncghdajaaGreatDoor
open Go.RowKit
attribute [local go_sem] run_store_float run_equalIn_float

/-- Where the model's floor hands its argument back. -/
def asIs (x : Nat) : Bool := fnan x || fz x || (FloatKind.f64.format.order x 4890909195324358656 == some .gt || FloatKind.f64.format.order x 4890909195324358656 == some .eq) || (FloatKind.f64.format.order x 14114281232179134464 == some .lt || FloatKind.f64.format.order x 14114281232179134464 == some .eq)

set_option maxHeartbeats 1000000 in
theorem floor_same (x : Nat) (w : World) (h : asIs x = true) :
    Calls Tryz.prog 45 #[.float .f64 x] w fun e w' => e = .returned (.float .f64 x) ∧ w' = w := by
  by_cases h1 : fnan x = true
  · have g1 : (FloatKind.f64.format.order x x != some .eq) = true := h1
    clear h h1
    go_enter Tryz.func45, Tryz.ntmps45
    go_wp2
    go_ret
    exact ⟨rfl, rfl⟩
  have g1 : (FloatKind.f64.format.order x x != some .eq) = false := (by simpa using h1 : fnan x = false)
  by_cases h2 : fz x = true
  · have g2 : (FloatKind.f64.format.order x 0 == some .eq) = true := h2
    clear h h1 h2
    go_enter Tryz.func45, Tryz.ntmps45
    go_wp2
    go_ret
    exact ⟨rfl, rfl⟩
  have g2 : (FloatKind.f64.format.order x 0 == some .eq) = false := (by simpa using h2 : fz x = false)
  by_cases h3 : (FloatKind.f64.format.order x 4890909195324358656 == some .gt || FloatKind.f64.format.order x 4890909195324358656 == some .eq) = true
  · clear h h1 h2
    go_enter Tryz.func45, Tryz.ntmps45
    go_wp2
    go_ret
    exact ⟨rfl, rfl⟩
  have g3 : (FloatKind.f64.format.order x 4890909195324358656 == some .gt || FloatKind.f64.format.order x 4890909195324358656 == some .eq) = false := Bool.eq_false_iff.2 h3
  have g4 : (FloatKind.f64.format.order x 14114281232179134464 == some .lt || FloatKind.f64.format.order x 14114281232179134464 == some .eq) = true := by
    unfold asIs at h
    rw [g3] at h
    have a1 : fnan x = false := Bool.eq_false_iff.2 h1
    have a2 : fz x = false := Bool.eq_false_iff.2 h2
    rw [a1, a2] at h
    simpa using h
  clear h h1 h2 h3
  go_enter Tryz.func45, Tryz.ntmps45
  go_wp2
  go_ret
  exact ⟨rfl, rfl⟩

theorem not_asIs {x : Nat} (h : asIs x = false) : fnan x = false ∧ fz x = false ∧ (FloatKind.f64.format.order x 4890909195324358656 == some .gt || FloatKind.f64.format.order x 4890909195324358656 == some .eq) = false ∧ (FloatKind.f64.format.order x 14114281232179134464 == some .lt || FloatKind.f64.format.order x 14114281232179134464 == some .eq) = false := by
  unfold asIs at h
  simp only [Bool.or_eq_false_iff] at h
  exact ⟨h.1.1.1, h.1.1.2, by simp [h.1.2], by simp [h.2]⟩

theorem num_of {x : Nat} (h : asIs x = false) : ∃ s m i, Ieee.double.read x = .number s m i ∧ -1074 ≤ i ∧ i ≤ 971 ∧ m < 2 ^ 53 ∧ -(9223372036854775808 * Fl.U) ≤ Fl.sc s m i ∧ Fl.sc s m i < 9223372036854775808 * Fl.U := by
  obtain ⟨h1, h2, h3, h4⟩ := not_asIs h
  have h1' : (Ieee.double.order x x != some .eq) = false := h1
  have h3' : (Ieee.double.order x 4890909195324358656 == some .gt || Ieee.double.order x 4890909195324358656 == some .eq) = false := h3
  have h4' : (Ieee.double.order x 14114281232179134464 == some .lt || Ieee.double.order x 14114281232179134464 == some .eq) = false := h4
  rcases Fl.read_cases x with ⟨s, m, i, hr, hi, hi2, hm, _⟩ | ⟨s, hr⟩ | ⟨s, t, hr⟩
  · refine ⟨s, m, i, hr, hi, hi2, hm, ?_, ?_⟩
    · rw [Fl.ord_of hr Fl.read_m63 hi (by omega), Fl.sc_m63, Fl.cmp_lt, Fl.cmp_eq] at h4'
      simp at h4'; omega
    · rw [Fl.ord_of hr Fl.read_c63 hi (by omega), Fl.sc_c63, Fl.cmp_gt, Fl.cmp_eq] at h3'
      simp at h3'; omega
  · exfalso
    unfold Ieee.Format.order at h3' h4'
    rw [hr, Fl.read_c63] at h3'
    rw [hr, Fl.read_m63] at h4'
    cases s <;> simp [Ieee.Datum.order] at h3' h4'
  · exfalso
    unfold Ieee.Format.order at h1'
    rw [hr] at h1'
    simp [Ieee.Datum.order] at h1'

set_option maxHeartbeats 1000000 in
theorem floor_else (x : Nat) (h : asIs x = false) :
    ∃ r, (FloatKind.f64.format.order x r == some .eq) = isW x ∧ ∀ w : World, Calls Tryz.prog 45 #[.float .f64 x] w fun e w' => e = .returned (.float .f64 r) ∧ w' = w := by
  obtain ⟨s, m, i, hr, hi, hi2, hm, hlo, hhi⟩ := num_of h
  obtain ⟨h1, h2, h3, h4⟩ := not_asIs h
  have g1 : (FloatKind.f64.format.order x x != some .eq) = false := h1
  have g2 : (FloatKind.f64.format.order x 0 == some .eq) = false := h2
  have hw : isW x = decide (Fl.sc s m i = Fl.sg s (Fl.whole m i) * Fl.U) := by unfold isW; rw [hr]
  have hint := Fl.toIntVal hr hi hlo hhi
  obtain ⟨o1, o2⟩ := Fl.ord_float hr hi hi2 hm
  have hconv : ∀ w : World, (convert 37 2 (.float .f64 x)).run Tryz.prog w = .ok (.int .i64 (Fl.sg s (Fl.whole m i))) w := fun w => run_convert_float_int w 37 2 .f64 .i64 x _ (by kernel_rfl) Tryz.underlying2 hint
  by_cases hgt : Fl.sc s m i < Fl.sg s (Fl.whole m i) * Fl.U
  · obtain ⟨r, hsub, hne⟩ := Fl.floor_gt hr hi hm hgt
    have hsub' : ∀ w : World, (binOp .sub 37 (.float .f64 (floatOfInt .f64 (Fl.sg s (Fl.whole m i)))) (.float .f64 4607182418800017408)).run Tryz.prog w = .ok (.float .f64 r) w := fun w => run_float_arith w .sub 37 .f64 _ _ r hsub
    have hW : isW x = false := by rw [hw]; simp; omega
    have g5 : (FloatKind.f64.format.order (floatOfInt .f64 (Fl.sg s (Fl.whole m i))) x == some .gt) = true := by
      show (Ieee.double.order (Ieee.double.nearest (decide (Fl.sg s (Fl.whole m i) < 0)) (Fl.sg s (Fl.whole m i)).natAbs 0) x == some .gt) = true
      rw [o2, Fl.cmp_gt]; simpa using hgt
    have HF : Hid ((FloatKind.f64.format.order x r == some .eq) = isW x) := by rw [hW]; exact hne
    refine ⟨r, HF.out, fun w => ?_⟩
    clear hr h1 h2 hw hint o1 o2 hgt hsub hne hW h hlo hhi hi hi2 hm
    generalize Fl.sg s (Fl.whole m i) = n at *
    go_enter Tryz.func45, Tryz.ntmps45
    go_wp2
    go_ret
    exact ⟨rfl, rfl⟩
  · have g5 : (FloatKind.f64.format.order (floatOfInt .f64 (Fl.sg s (Fl.whole m i))) x == some .gt) = false := by
      show (Ieee.double.order (Ieee.double.nearest (decide (Fl.sg s (Fl.whole m i) < 0)) (Fl.sg s (Fl.whole m i)).natAbs 0) x == some .gt) = false
      rw [o2, Fl.cmp_gt]; simpa using hgt
    have HF : Hid ((FloatKind.f64.format.order x (floatOfInt .f64 (Fl.sg s (Fl.whole m i))) == some .eq) = isW x) := by
      show (Ieee.double.order x (Ieee.double.nearest (decide (Fl.sg s (Fl.whole m i) < 0)) (Fl.sg s (Fl.whole m i)).natAbs 0) == some .eq) = isW x
      rw [o1, Fl.cmp_eq, hw]
    refine ⟨_, HF.out, fun w => ?_⟩
    clear hr h1 h2 hw hint o1 o2 hgt h hlo hhi hi hi2 hm
    generalize Fl.sg s (Fl.whole m i) = n at *
    go_enter Tryz.func45, Tryz.ntmps45
    go_wp2
    go_ret
    exact ⟨rfl, rfl⟩

/-- Where the model's floor hands its argument back, a float within the bounds is whole. -/
theorem asIs_whole {x : Nat} (h : asIs x = true) (hn : fnan x = false) (h1 : geB x = true) (h2 : ltB x = true) : isW x = true := by
  obtain ⟨s, m, i, hr, hi, hi2, hm, hlo, hhi⟩ := fin_of h1 h2
  have hw : isW x = decide (Fl.sc s m i = Fl.sg s (Fl.whole m i) * Fl.U) := by unfold isW; rw [hr]
  rw [hw]
  have hb := Fl.whole_bounds m i hi
  have hu := Fl.U_pos
  unfold asIs at h
  rw [hn] at h
  have e1 : fz x = decide (Fl.sc s m i = 0) := by
    show (Ieee.double.order x 0 == some .eq) = _
    rw [Fl.ord_of hr Fl.read_nil hi (by omega), Fl.cmp_eq, Fl.sc_zero]
  have e2 : (FloatKind.f64.format.order x 4890909195324358656 == some .gt || FloatKind.f64.format.order x 4890909195324358656 == some .eq) = false := by
    show (Ieee.double.order x 4890909195324358656 == some .gt || Ieee.double.order x 4890909195324358656 == some .eq) = false
    rw [Fl.ord_of hr Fl.read_c63 hi (by omega), Fl.sc_c63, Fl.cmp_gt, Fl.cmp_eq]
    simp; omega
  have e3 : (FloatKind.f64.format.order x 14114281232179134464 == some .lt || FloatKind.f64.format.order x 14114281232179134464 == some .eq) = decide (Fl.sc s m i = -(9223372036854775808 * Fl.U)) := by
    show (Ieee.double.order x 14114281232179134464 == some .lt || Ieee.double.order x 14114281232179134464 == some .eq) = _
    rw [Fl.ord_of hr Fl.read_m63 hi (by omega), Fl.sc_m63, Fl.cmp_lt, Fl.cmp_eq]
    have : ¬ Fl.sc s m i < -(9223372036854775808 * Fl.U) := by omega
    simp [this]
  rw [e1, e2, e3] at h
  simp at h
  have hk : (Fl.whole m i : Int) = 0 ∨ (s = true ∧ (Fl.whole m i : Int) = 9223372036854775808) := by
    rcases h with h | h
    · left
      have h0 : Fl.sc false m i = 0 := by
        cases s
        · exact h
        · rw [Fl.sc_neg] at h; omega
      rw [h0] at hb
      have := Int.le_of_mul_le_mul_right (show (Fl.whole m i : Int) * Fl.U ≤ 0 * Fl.U from by omega) hu
      omega
    · right
      have hs : s = true := by
        cases s
        · exfalso
          have h0 : 0 ≤ (Fl.whole m i : Int) * Fl.U := Int.mul_nonneg (by omega) (by omega)
          omega
        · rfl
      subst hs
      rw [Fl.sc_neg] at h
      have h0 : Fl.sc false m i = 9223372036854775808 * Fl.U := by omega
      rw [h0] at hb
      have h3 := Int.lt_of_mul_lt_mul_right hb.2 (by omega)
      have h4 := Int.le_of_mul_le_mul_right hb.1 hu
      exact ⟨rfl, by omega⟩
  rcases h with h | h
  · have : (Fl.whole m i : Int) = 0 := by
      rcases hk with k | ⟨k1, k2⟩
      · exact k
      · exfalso; subst k1; rw [Fl.sc_neg] at h; rw [k2] at hb; omega
    have e0 : Fl.whole m i = 0 := by omega
    rw [h, e0]; cases s <;> simp [Fl.sg]
  · rcases hk with k | ⟨k1, k2⟩
    · exfalso
      rw [k] at hb
      have : Fl.sc false m i < Fl.U := by simpa using hb.2
      cases s
      · omega
      · rw [Fl.sc_neg] at h; omega
    · subst k1
      have e0 : Fl.whole m i = 9223372036854775808 := by omega
      rw [h, e0]; simp [Fl.sg, Int.neg_mul]

end Go.Proofs.YtnjgebncghdajaaGreatDoor
namespace Go.Proofs.YtnjgebncghdajaaGreatDoor
open Go.RowKit
attribute [local go_sem] run_store_float run_equalIn_float

theorem below_set6 {B : Nat} {a w : World} (h : Below B a w) (b : Nat) (hb : B ≤ b) (v0 v1 v2 v3 v4 v5 : Value) :
    Below B a ((((((w.setCell ⟨b, 0, none⟩ v0).setCell ⟨b, 1, none⟩ v1).setCell ⟨b, 2, none⟩ v2).setCell ⟨b, 3, none⟩ v3).setCell ⟨b, 4, none⟩ v4).setCell ⟨b, 5, none⟩ v5) :=
  (((((h.setCell (p := ⟨b, 0, none⟩) hb v0).setCell (p := ⟨b, 1, none⟩) hb v1).setCell (p := ⟨b, 2, none⟩) hb v2).setCell (p := ⟨b, 3, none⟩) hb v3).setCell (p := ⟨b, 4, none⟩) hb v4).setCell (p := ⟨b, 5, none⟩) hb v5

theorem below_drewN' {B : Nat} {a w : World} (h : Below B a w) (n : Nat) : Below B a (w.drewN n) := ⟨h.os, h.tape, h.output, h.size, h.block⟩

theorem two_then {B : Nat} {w w1 : World} {o1 o2 : Obj} (hB : B ≤ w.heap.size) (hb : Below ((w.alloc o1).alloc o2).heap.size ((w.alloc o1).alloc o2) w1) : Below B w w1 :=
  (((Below.refl B w).alloc hB o1).alloc (by simp; omega) o2).trans (hb.mono (by simp; omega))

/-- What KeyOf gives. -/
def keyV (kind num : Int) (flt : Nat) (s : ByteArray) (ref : Int) : Value :=
  if validB kind num flt s ref = true then
    if kind = 0 then KV 1 0 0 0 ⟨#[]⟩ 0
    else if kind = 3 then
      if fnan flt = true then KV 1 0 0 0 ⟨#[]⟩ 0
      else if wholeB flt = true then KV 0 2 (fint flt) 0 ⟨#[]⟩ 0
      else KV 0 kind num flt s ref
    else KV 0 kind num flt s ref
  else KV 2 0 0 0 ⟨#[]⟩ 0

set_option maxHeartbeats 1000000 in
theorem skeyA (kind num : Int) (flt : Nat) (s : ByteArray) (ref : Int) (w : World) (hv : validB kind num flt s ref = false) :
    Calls Tryz.prog 29 #[V kind num flt s ref] w fun e w' => e = .returned (KV 2 0 0 0 ⟨#[]⟩ 0) ∧ Below w.heap.size w w' := by
  go_enter Tryz.func29, Tryz.ntmps29
  go_wp2_with (go_at_call 42; refine (valueOk_any kind num flt s ref _).mono ?_; rintro e w1 ⟨rfl, hb⟩; rw [hv]; obtain ⟨hc, hf⟩ := bcell hb; have hz := hb.size; simp at hz)
  exact bodyPost_ret (v := KV 2 0 0 0 ⟨#[]⟩ 0) (by simp [results, Tryz.results29, go_sem, hc]) rfl ⟨rfl, below_set6 (two_then (Nat.le_refl _) hb) _ (by omega) _ _ _ _ _ _⟩

set_option maxHeartbeats 1000000 in
theorem skeyB (num : Int) (flt : Nat) (s : ByteArray) (ref : Int) (w : World) (hv : validB 0 num flt s ref = true) :
    Calls Tryz.prog 29 #[V 0 num flt s ref] w fun e w' => e = .returned (KV 1 0 0 0 ⟨#[]⟩ 0) ∧ Below w.heap.size w w' := by
  go_enter Tryz.func29, Tryz.ntmps29
  go_wp2_with (go_at_call 42; refine (valueOk_any 0 num flt s ref _).mono ?_; rintro e w1 ⟨rfl, hb⟩; rw [hv]; obtain ⟨hc, hf⟩ := bcell hb; have hz := hb.size; simp at hz)
  exact bodyPost_ret (v := KV 1 0 0 0 ⟨#[]⟩ 0) (by simp [results, Tryz.results29, go_sem, hc]) rfl ⟨rfl, below_set6 (two_then (Nat.le_refl _) hb) _ (by omega) _ _ _ _ _ _⟩

set_option maxHeartbeats 1000000 in
theorem skeyC (num : Int) (flt : Nat) (s : ByteArray) (ref : Int) (w : World) (hv : validB 3 num flt s ref = true) (hn : fnan flt = true) :
    Calls Tryz.prog 29 #[V 3 num flt s ref] w fun e w' => e = .returned (KV 1 0 0 0 ⟨#[]⟩ 0) ∧ Below w.heap.size w w' := by
  have g1 : (FloatKind.f64.format.order flt flt != some .eq) = true := hn
  clear hn
  go_enter Tryz.func29, Tryz.ntmps29
  go_wp2_with (first | (go_at_call 42; refine (valueOk_any 3 num flt s ref _).mono ?_; rintro e w1 ⟨rfl, hb⟩; rw [hv]; obtain ⟨hc, hf⟩ := bcell hb; have hz := hb.size; simp at hz) | (go_at_call 44; go_in))
  exact bodyPost_ret (v := KV 1 0 0 0 ⟨#[]⟩ 0) (by simp [results, Tryz.results29, go_sem, hc]) rfl ⟨rfl, below_set6 (two_then (Nat.le_refl _) hb) _ (by omega) _ _ _ _ _ _⟩

set_option maxHeartbeats 1000000 in
theorem skeyF (kind num : Int) (flt : Nat) (s : ByteArray) (ref : Int) (w : World) (hv : validB kind num flt s ref = true) (h0 : (kind == 0) = false) (h3 : (kind == 3) = false) :
    Calls Tryz.prog 29 #[V kind num flt s ref] w fun e w' => e = .returned (KV 0 kind num flt s ref) ∧ Below w.heap.size w w' := by
  go_enter Tryz.func29, Tryz.ntmps29
  go_wp2_with (go_at_call 42; refine (valueOk_any kind num flt s ref _).mono ?_; rintro e w1 ⟨rfl, hb⟩; rw [hv]; obtain ⟨hc, hf⟩ := bcell hb; have hz := hb.size; simp at hz)
  go_quiet (fail)
  go_wp2
  exact bodyPost_ret (v := KV 0 kind num flt s ref) (by simp [results, Tryz.results29, go_sem, hc]) rfl ⟨rfl, below_set6 (below_drewN' (two_then (Nat.le_refl _) hb) _) _ (by omega) _ _ _ _ _ _⟩

set_option maxHeartbeats 2000000 in
/-- kind 3, no NaN, the floor's answer r known: the test comes out as told. -/
theorem skeyE (num : Int) (flt : Nat) (s : ByteArray) (ref : Int) (w : World) (hv : validB 3 num flt s ref = true) (hn : fnan flt = false) (r : Nat)
    (hfl : ∀ w : World, Calls Tryz.prog 45 #[.float .f64 flt] w fun e w' => e = .returned (.float .f64 r) ∧ w' = w)
    (hno : ((FloatKind.f64.format.order flt r == some .eq) && geB flt && ltB flt) = false) :
    Calls Tryz.prog 29 #[V 3 num flt s ref] w fun e w' => e = .returned (KV 0 3 num flt s ref) ∧ Below w.heap.size w w' := by
  have g1 : (FloatKind.f64.format.order flt flt != some .eq) = false := hn
  have HN := hide hno
  have HF := hide hfl
  clear hn hno hfl
  by_cases t1 : (FloatKind.f64.format.order flt r == some .eq) = true
  · by_cases t2 : geB flt = true
    · have t3 : ltB flt = false := by have := unhide HN; rw [t1, t2] at this; simpa using this
      have g2 : (FloatKind.f64.format.order flt 14114281232179134464 == some .gt || FloatKind.f64.format.order flt 14114281232179134464 == some .eq) = true := t2
      have g3 : (FloatKind.f64.format.order flt 4890909195324358656 == some .lt) = false := t3
      clear t2 t3
      go_enter Tryz.func29, Tryz.ntmps29
      go_wp2_with (first | (go_at_call 42; refine (valueOk_any 3 num flt s ref _).mono ?_; rintro e w1 ⟨rfl, hb⟩; rw [hv]; obtain ⟨hc, hf⟩ := bcell hb; have hz := hb.size; simp at hz) | (go_at_call 44; go_in))
      go_quiet ((go_at_call 45; exact Calls.quiet_of_same (unhide HF _)))
      go_wp2
      exact bodyPost_ret (v := KV 0 3 num flt s ref) (by simp [results, Tryz.results29, go_sem, hc]) rfl ⟨rfl, below_set6 (below_drewN' (two_then (Nat.le_refl _) hb) _) _ (by omega) _ _ _ _ _ _⟩
    · have g2 : (FloatKind.f64.format.order flt 14114281232179134464 == some .gt || FloatKind.f64.format.order flt 14114281232179134464 == some .eq) = false := (by simpa using t2 : geB flt = false)
      clear t2
      go_enter Tryz.func29, Tryz.ntmps29
      go_wp2_with (first | (go_at_call 42; refine (valueOk_any 3 num flt s ref _).mono ?_; rintro e w1 ⟨rfl, hb⟩; rw [hv]; obtain ⟨hc, hf⟩ := bcell hb; have hz := hb.size; simp at hz) | (go_at_call 44; go_in))
      go_quiet ((go_at_call 45; exact Calls.quiet_of_same (unhide HF _)))
      go_wp2
      exact bodyPost_ret (v := KV 0 3 num flt s ref) (by simp [results, Tryz.results29, go_sem, hc]) rfl ⟨rfl, below_set6 (below_drewN' (two_then (Nat.le_refl _) hb) _) _ (by omega) _ _ _ _ _ _⟩
  · have t1' : (FloatKind.f64.format.order flt r == some .eq) = false := by simpa using t1
    clear t1
    go_enter Tryz.func29, Tryz.ntmps29
    go_wp2_with (first | (go_at_call 42; refine (valueOk_any 3 num flt s ref _).mono ?_; rintro e w1 ⟨rfl, hb⟩; rw [hv]; obtain ⟨hc, hf⟩ := bcell hb; have hz := hb.size; simp at hz) | (go_at_call 44; go_in))
    go_quiet ((go_at_call 45; exact Calls.quiet_of_same (unhide HF _)))
    go_wp2
    exact bodyPost_ret (v := KV 0 3 num flt s ref) (by simp [results, Tryz.results29, go_sem, hc]) rfl ⟨rfl, below_set6 (below_drewN' (two_then (Nat.le_refl _) hb) _) _ (by omega) _ _ _ _ _ _⟩

set_option maxHeartbeats 400000 in
theorem l1int_any (n : Int) (w : World)  :
    Calls Tryz.prog 46 #[.int .i64 n] w fun e w' => e = .returned (V 2 n 0 ⟨#[]⟩ 0) ∧ Below w.heap.size w w' := by
  go_enter Tryz.func46, Tryz.ntmps46
  go_wp2
  exact bodyPost_ret (v := V 2 n 0 ⟨#[]⟩ 0) (by simp [results, go_sem]) rfl ⟨rfl, (Below.refl _ _).alloc (Nat.le_refl _) _⟩

end Go.Proofs.YtnjgebncghdajaaGreatDoor
namespace Go.Proofs.YtnjgebncghdajaaGreatDoor
open Go.RowKit
attribute [local go_sem] run_store_float run_equalIn_float

theorem fint_conv {x : Nat} (h1 : geB x = true) (h2 : ltB x = true) (w : World) :
    (convert 37 2 (.float .f64 x)).run Tryz.prog w = .ok (.int .i64 (fint x)) w := by
  obtain ⟨s, m, i, hr, hi, hi2, hm, hlo, hhi⟩ := fin_of h1 h2
  have e : fint x = Fl.sg s (Fl.whole m i) := by unfold fint; rw [hr]
  rw [e]
  exact run_convert_float_int w 37 2 .f64 .i64 x _ (by kernel_rfl) Tryz.underlying2 (Fl.toIntVal hr hi hlo hhi)

set_option maxHeartbeats 1000000 in
theorem skeyD (num : Int) (flt : Nat) (s : ByteArray) (ref : Int) (w : World) (hv : validB 3 num flt s ref = true) (hn : fnan flt = false) (r : Nat)
    (hfl : ∀ w : World, Calls Tryz.prog 45 #[.float .f64 flt] w fun e w' => e = .returned (.float .f64 r) ∧ w' = w)
    (t1 : (FloatKind.f64.format.order flt r == some .eq) = true) (t2 : geB flt = true) (t3 : ltB flt = true) :
    Calls Tryz.prog 29 #[V 3 num flt s ref] w fun e w' => e = .returned (KV 0 2 (fint flt) 0 ⟨#[]⟩ 0) ∧ Below w.heap.size w w' := by
  have g1 : (FloatKind.f64.format.order flt flt != some .eq) = false := hn
  have HF := hide hfl
  have g2 : (FloatKind.f64.format.order flt 14114281232179134464 == some .gt || FloatKind.f64.format.order flt 14114281232179134464 == some .eq) = true := t2
  have g3 : (FloatKind.f64.format.order flt 4890909195324358656 == some .lt) = true := t3
  have hcv := fint_conv t2 t3
  clear t2 t3 hn hfl
  generalize fint flt = n at *
  go_enter Tryz.func29, Tryz.ntmps29
  go_wp2_with (first | (go_at_call 42; refine (valueOk_any 3 num flt s ref _).mono ?_; rintro e w1 ⟨rfl, hb⟩; rw [hv]; obtain ⟨hc, hf⟩ := bcell hb; have hz := hb.size; simp at hz) | (go_at_call 44; go_in))
  go_quiet ((go_at_call 45; exact Calls.quiet_of_same (unhide HF _)))
  obtain ⟨w2, hb2, hw2⟩ : ∃ w2, Below _ _ w2 ∧ w1.drewN nq = w2 := ⟨_, below_drewN' hb nq, rfl⟩
  rw [hw2]
  clear hw2 hb hc hf hz
  obtain ⟨hc, hf⟩ := bcell hb2
  have hz := hb2.size
  simp at hz
  have hz1 : w.heap.size + 1 < w2.heap.size := by omega
  have hz0 : w.heap.size < w2.heap.size := by omega
  go_wp2_with (go_at_call 46; refine (l1int_any n _).mono ?_; rintro e w3 ⟨rfl, hb3⟩; obtain ⟨hc3, hf3⟩ := bcell hb3; have hz3 := hb3.size)
  exact bodyPost_ret (v := KV 0 2 n 0 ⟨#[]⟩ 0) (by simp [results, Tryz.results29, go_sem, hc, hc3, hz1]) rfl ⟨rfl, below_set6 ((two_then (Nat.le_refl _) hb2).trans (hb3.mono (by omega))) _ (by omega) _ _ _ _ _ _⟩

theorem skey_any (kind num : Int) (flt : Nat) (s : ByteArray) (ref : Int) (w : World) :
    Calls Tryz.prog 29 #[V kind num flt s ref] w fun e w' => e = .returned (keyV kind num flt s ref) ∧ Below w.heap.size w w' := by
  unfold keyV
  by_cases hv : validB kind num flt s ref = true
  · rw [if_pos hv]
    by_cases h0 : kind = 0
    · subst h0; rw [if_pos rfl]; exact skeyB num flt s ref w hv
    · rw [if_neg h0]
      by_cases h3 : kind = 3
      · subst h3
        rw [if_pos rfl]
        by_cases hn : fnan flt = true
        · rw [if_pos hn]; exact skeyC num flt s ref w hv hn
        · rw [if_neg hn]
          have hn' : fnan flt = false := by simpa using hn
          obtain ⟨r, hr, hfl⟩ : ∃ r, ((FloatKind.f64.format.order flt r == some .eq) && geB flt && ltB flt) = wholeB flt ∧ ∀ w : World, Calls Tryz.prog 45 #[.float .f64 flt] w fun e w' => e = .returned (.float .f64 r) ∧ w' = w := by
            by_cases ha : asIs flt = true
            · refine ⟨flt, ?_, fun w => floor_same flt w ha⟩
              have e : (FloatKind.f64.format.order flt flt == some .eq) = true := by
                have : (FloatKind.f64.format.order flt flt != some .eq) = false := hn'
                simpa using this
              rw [e]
              unfold wholeB
              by_cases g : geB flt = true
              · by_cases l : ltB flt = true
                · rw [asIs_whole ha hn' g l]; simp
                · have : ltB flt = false := by simpa using l
                  rw [this]; simp
              · have : geB flt = false := by simpa using g
                rw [this]; simp
            · have ha' : asIs flt = false := by simpa using ha
              obtain ⟨r, h1, h2⟩ := floor_else flt ha'
              refine ⟨r, ?_, h2⟩
              rw [h1]; unfold wholeB
              cases isW flt <;> cases geB flt <;> cases ltB flt <;> rfl
          by_cases hw : wholeB flt = true
          · rw [if_pos hw]
            rw [hw] at hr
            simp only [Bool.and_eq_true] at hr
            exact skeyD num flt s ref w hv hn' r hfl hr.1.1 hr.1.2 hr.2
          · rw [if_neg hw]
            have hw' : wholeB flt = false := by simpa using hw
            rw [hw'] at hr
            exact skeyE num flt s ref w hv hn' r hfl hr
      · rw [if_neg h3]
        exact skeyF kind num flt s ref w hv (by simp [h0]) (by simp [h3])
  · rw [if_neg hv]; exact skeyA kind num flt s ref w (by simpa using hv)

end Go.Proofs.YtnjgebncghdajaaGreatDoor
namespace Go.Proofs.YtnjgebncghdajaaGreatDoor
open Go.RowKit
attribute [local go_sem] run_store_float run_equalIn_float

set_option maxHeartbeats 400000 in
theorem intValue_any (n : Int) (w : World)  :
    Calls Tryz.prog 91 #[.int .i64 n] w fun e w' => e = .returned (V 2 n 0 ⟨#[]⟩ 0) ∧ Below w.heap.size w w' := by
  go_enter Tryz.func91, Tryz.ntmps91
  go_wp2
  exact bodyPost_ret (v := V 2 n 0 ⟨#[]⟩ 0) (by simp [results, go_sem]) rfl ⟨rfl, (Below.refl _ _).alloc (Nat.le_refl _) _⟩

set_option maxHeartbeats 1000000 in
theorem ikeyA (kind num : Int) (flt : Nat) (s : ByteArray) (ref : Int) (w : World) (hv : validB kind num flt s ref = false) :
    Calls Tryz.prog 63 #[V kind num flt s ref] w fun e w' => e = .returned (KV 2 0 0 0 ⟨#[]⟩ 0) ∧ Below w.heap.size w w' := by
  go_enter Tryz.func63, Tryz.ntmps63
  go_wp2_with (go_at_call 88; refine (isValid_any kind num flt s ref _).mono ?_; rintro e w1 ⟨rfl, hb⟩; rw [hv]; obtain ⟨hc, hf⟩ := bcell hb; have hz := hb.size; simp at hz)
  exact bodyPost_ret (v := KV 2 0 0 0 ⟨#[]⟩ 0) (by simp [results, Tryz.results63, go_sem, hc]) rfl ⟨rfl, below_set6 (two_then (Nat.le_refl _) hb) _ (by omega) _ _ _ _ _ _⟩

set_option maxHeartbeats 1000000 in
theorem ikeyB (num : Int) (flt : Nat) (s : ByteArray) (ref : Int) (w : World) (hv : validB 0 num flt s ref = true) :
    Calls Tryz.prog 63 #[V 0 num flt s ref] w fun e w' => e = .returned (KV 1 0 0 0 ⟨#[]⟩ 0) ∧ Below w.heap.size w w' := by
  go_enter Tryz.func63, Tryz.ntmps63
  go_wp2_with (go_at_call 88; refine (isValid_any 0 num flt s ref _).mono ?_; rintro e w1 ⟨rfl, hb⟩; rw [hv]; obtain ⟨hc, hf⟩ := bcell hb; have hz := hb.size; simp at hz)
  exact bodyPost_ret (v := KV 1 0 0 0 ⟨#[]⟩ 0) (by simp [results, Tryz.results63, go_sem, hc]) rfl ⟨rfl, below_set6 (two_then (Nat.le_refl _) hb) _ (by omega) _ _ _ _ _ _⟩

set_option maxHeartbeats 1000000 in
theorem ikeyC (num : Int) (flt : Nat) (s : ByteArray) (ref : Int) (w : World) (hv : validB 3 num flt s ref = true) (hn : fnan flt = true) :
    Calls Tryz.prog 63 #[V 3 num flt s ref] w fun e w' => e = .returned (KV 1 0 0 0 ⟨#[]⟩ 0) ∧ Below w.heap.size w w' := by
  have g1 : (FloatKind.f64.format.order flt flt != some .eq) = true := hn
  clear hn
  go_enter Tryz.func63, Tryz.ntmps63
  go_wp2_with (first | (go_at_call 88; refine (isValid_any 3 num flt s ref _).mono ?_; rintro e w1 ⟨rfl, hb⟩; rw [hv]; obtain ⟨hc, hf⟩ := bcell hb; have hz := hb.size; simp at hz) | (go_at_call 89; go_in))
  exact bodyPost_ret (v := KV 1 0 0 0 ⟨#[]⟩ 0) (by simp [results, Tryz.results63, go_sem, hc]) rfl ⟨rfl, below_set6 (two_then (Nat.le_refl _) hb) _ (by omega) _ _ _ _ _ _⟩

set_option maxHeartbeats 1000000 in
theorem ikeyF (kind num : Int) (flt : Nat) (s : ByteArray) (ref : Int) (w : World) (hv : validB kind num flt s ref = true) (h0 : (kind == 0) = false) (h3 : (kind == 3) = false) :
    Calls Tryz.prog 63 #[V kind num flt s ref] w fun e w' => e = .returned (KV 0 kind num flt s ref) ∧ Below w.heap.size w w' := by
  go_enter Tryz.func63, Tryz.ntmps63
  go_wp2_with (go_at_call 88; refine (isValid_any kind num flt s ref _).mono ?_; rintro e w1 ⟨rfl, hb⟩; rw [hv]; obtain ⟨hc, hf⟩ := bcell hb; have hz := hb.size; simp at hz)
  exact bodyPost_ret (v := KV 0 kind num flt s ref) (by simp [results, Tryz.results63, go_sem, hc]) rfl ⟨rfl, below_set6 (two_then (Nat.le_refl _) hb) _ (by omega) _ _ _ _ _ _⟩

set_option maxHeartbeats 1000000 in
theorem ikeyE (num : Int) (flt : Nat) (s : ByteArray) (ref : Int) (w : World) (hv : validB 3 num flt s ref = true) (hn : fnan flt = false) (hno : wholeB flt = false) :
    Calls Tryz.prog 63 #[V 3 num flt s ref] w fun e w' => e = .returned (KV 0 3 num flt s ref) ∧ Below w.heap.size w w' := by
  have g1 : (FloatKind.f64.format.order flt flt != some .eq) = false := hn
  clear hn
  go_enter Tryz.func63, Tryz.ntmps63
  go_wp2_with (first | (go_at_call 88; refine (isValid_any 3 num flt s ref _).mono ?_; rintro e w1 ⟨rfl, hb⟩; rw [hv]; obtain ⟨hc, hf⟩ := bcell hb; have hz := hb.size; simp at hz) | (go_at_call 89; go_in) | (go_at_call 90; refine (isWhole_any flt _).mono ?_; rintro e w2 ⟨rfl, rfl⟩; rw [hno]))
  exact bodyPost_ret (v := KV 0 3 num flt s ref) (by simp [results, Tryz.results63, go_sem, hc]) rfl ⟨rfl, below_set6 (two_then (Nat.le_refl _) hb) _ (by omega) _ _ _ _ _ _⟩

set_option maxHeartbeats 1000000 in
theorem ikeyD (num : Int) (flt : Nat) (s : ByteArray) (ref : Int) (w : World) (hv : validB 3 num flt s ref = true) (hn : fnan flt = false) (hw : wholeB flt = true) :
    Calls Tryz.prog 63 #[V 3 num flt s ref] w fun e w' => e = .returned (KV 0 2 (fint flt) 0 ⟨#[]⟩ 0) ∧ Below w.heap.size w w' := by
  have g1 : (FloatKind.f64.format.order flt flt != some .eq) = false := hn
  have hcv : ∀ w : World, (convert 37 2 (.float .f64 flt)).run Tryz.prog w = .ok (.int .i64 (fint flt)) w := by
    unfold wholeB at hw
    simp only [Bool.and_eq_true] at hw
    exact fint_conv hw.1.1 hw.1.2
  clear hn
  generalize fint flt = n at *
  go_enter Tryz.func63, Tryz.ntmps63
  go_wp2_with (first | (go_at_call 88; refine (isValid_any 3 num flt s ref _).mono ?_; rintro e w1 ⟨rfl, hb⟩; rw [hv]; obtain ⟨hc, hf⟩ := bcell hb; have hz := hb.size; simp at hz; have hz1 : w.heap.size + 1 < w1.heap.size := (by omega); have hz0 : w.heap.size < w1.heap.size := (by omega)) | (go_at_call 89; go_in) | (go_at_call 90; refine (isWhole_any flt _).mono ?_; rintro e w2 ⟨rfl, rfl⟩; rw [hw]) | (go_at_call 91; refine (intValue_any n _).mono ?_; rintro e w3 ⟨rfl, hb3⟩; obtain ⟨hc3, hf3⟩ := bcell hb3; have hz3 := hb3.size))
  exact bodyPost_ret (v := KV 0 2 n 0 ⟨#[]⟩ 0) (by simp [results, Tryz.results63, go_sem, hc, hc3, hz1]) rfl ⟨rfl, below_set6 ((two_then (Nat.le_refl _) hb).trans (hb3.mono (by omega))) _ (by omega) _ _ _ _ _ _⟩

theorem ikey_any (kind num : Int) (flt : Nat) (s : ByteArray) (ref : Int) (w : World) :
    Calls Tryz.prog 63 #[V kind num flt s ref] w fun e w' => e = .returned (keyV kind num flt s ref) ∧ Below w.heap.size w w' := by
  unfold keyV
  by_cases hv : validB kind num flt s ref = true
  · rw [if_pos hv]
    by_cases h0 : kind = 0
    · subst h0; rw [if_pos rfl]; exact ikeyB num flt s ref w hv
    · rw [if_neg h0]
      by_cases h3 : kind = 3
      · subst h3
        rw [if_pos rfl]
        by_cases hn : fnan flt = true
        · rw [if_pos hn]; exact ikeyC num flt s ref w hv hn
        · rw [if_neg hn]
          have hn' : fnan flt = false := by simpa using hn
          by_cases hw : wholeB flt = true
          · rw [if_pos hw]; exact ikeyD num flt s ref w hv hn' hw
          · rw [if_neg hw]; exact ikeyE num flt s ref w hv hn' (by simpa using hw)
      · rw [if_neg h3]
        exact ikeyF kind num flt s ref w hv (by simp [h0]) (by simp [h3])
  · rw [if_neg hv]; exact ikeyA kind num flt s ref w (by simpa using hv)
end Go.Proofs.YtnjgebncghdajaaGreatDoor
namespace Go.Proofs.YtnjgebncghdajaaGreatDoor
open Go.RowKit
attribute [local go_sem] run_store_float run_equalIn_float

theorem zero_num {x : Nat} (h : fz x = true) : ∃ s i, Ieee.double.read x = .number s 0 i := by
  have h' : (Ieee.double.order x 0 == some .eq) = true := h
  rcases Fl.read_cases x with ⟨s, m, i, hr, hi, hi2, hm, _⟩ | ⟨s, hr⟩ | ⟨s, t, hr⟩
  · rw [Fl.ord_of hr Fl.read_nil hi (by omega), Fl.cmp_eq, Fl.sc_zero] at h'
    have h0 : Fl.sc s m i = 0 := by simpa using h'
    unfold Fl.sc at h0
    rw [Fl.signed_eq] at h0
    have hp := Fl.pow_pos' (i + 1074).toNat
    have : m = 0 := by
      generalize (2 : Int) ^ (i + 1074).toNat = u at h0 hp
      have h1 : (m : Int) * u = 0 := by
        cases s
        · simpa using h0
        · simpa using h0
      rcases Int.mul_eq_zero.1 h1 with h | h <;> omega
    subst this
    exact ⟨s, i, hr⟩
  · exfalso
    unfold Ieee.Format.order at h'
    rw [hr, Fl.read_nil] at h'
    cases s <;> simp [Ieee.Datum.order] at h'
  · exfalso
    unfold Ieee.Format.order at h'
    rw [hr] at h'
    simp [Ieee.Datum.order] at h'

theorem quo_zero {x : Nat} (h : fz x = true) : ∃ r, floatBits .quo .f64 4607182418800017408 x = some r := by
  obtain ⟨s, i, hr⟩ := zero_num h
  refine ⟨Ieee.double.write (.infinity (false ^^ s)), ?_⟩
  show ((Ieee.double.read 4607182418800017408).quotient _ (Ieee.double.read x)).map Ieee.double.write = _
  rw [hr, Fl.read_one]
  simp [Ieee.Datum.quotient]

set_option maxHeartbeats 1000000 in
theorem sameFloat_self (x : Nat) (w : World) :
    Calls Tryz.prog 57 #[.float .f64 x, .float .f64 x] w fun e w' => e = .returned (.bool true) ∧ w' = w := by
  by_cases h1 : fnan x = true
  · have g1 : (FloatKind.f64.format.order x x != some .eq) = true := h1
    clear h1
    go_enter Tryz.func57, Tryz.ntmps57
    go_wp2
    go_ret
    exact ⟨rfl, rfl⟩
  have g1 : (FloatKind.f64.format.order x x != some .eq) = false := (by simpa using h1 : fnan x = false)
  have g2 : (FloatKind.f64.format.order x x == some .eq) = true := by simpa using g1
  by_cases h2 : fz x = true
  · have g3 : (FloatKind.f64.format.order x 0 == some .eq) = true := h2
    obtain ⟨r, hr⟩ := quo_zero h2
    have hq : ∀ w : World, (binOp .quo 37 (.float .f64 4607182418800017408) (.float .f64 x)).run Tryz.prog w = .ok (.float .f64 r) w := fun w => run_float_arith w .quo 37 .f64 _ _ r hr
    clear h1 h2 hr
    go_enter Tryz.func57, Tryz.ntmps57
    go_wp2
    go_ret
    exact ⟨by simp, rfl⟩
  · have g3 : (FloatKind.f64.format.order x 0 == some .eq) = false := (by simpa using h2 : fz x = false)
    clear h1 h2
    go_enter Tryz.func57, Tryz.ntmps57
    go_wp2
    go_ret
    exact ⟨rfl, rfl⟩

set_option maxHeartbeats 1000000 in
theorem eqValue_self (kind num : Int) (flt : Nat) (s : ByteArray) (ref : Int) (w : World) :
    Calls Tryz.prog 39 #[V kind num flt s ref, V kind num flt s ref] w fun e w' => e = .returned (.bool true) ∧ Below w.heap.size w w' := by
  go_enter Tryz.func39, Tryz.ntmps39
  go_wp2_with (go_at_call 57; refine (sameFloat_self flt _).mono ?_; rintro e w1 ⟨rfl, rfl⟩)
  go_ret
  exact ⟨rfl, ((Below.refl _ _).alloc (Nat.le_refl _) _).alloc (by simp) _⟩

end Go.Proofs.YtnjgebncghdajaaGreatDoor
