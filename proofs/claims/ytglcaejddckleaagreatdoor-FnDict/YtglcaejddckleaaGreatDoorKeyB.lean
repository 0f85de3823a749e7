/-
  KeyOf, of the program and of the model: floats that are whole.
-/
import Derived.Test.YtglcaejddckleaaGreatDoorKeyA
import Derived.Laws.Externs
namespace Go.Proofs.YtglcaejddckleaaGreatDoor
open Go.RowKit
attribute [local go_sem] run_store_float run_equalIn_float

theorem arch_is (x : Nat) (s : Bool) (m : Nat) (i : Int) (h1 : FloatKind.f64.decode x = .number s m i) :
    Extern.MathFloor.toIntegral "math.archTrunc" .zero #[.float .f64 x] = pure (.float .f64 (FloatKind.f64.encode ((Ieee.Datum.number s m i).integral .zero))) := by
  show Extern.MathFloor.toIntegral.match_1 (fun _ => Sem Value) (FloatKind.f64.decode x) (fun s t => _) (fun d => _) = _
  rw [h1]

theorem arch_run (x : Nat) (w : World) (s : Bool) (m : Nat) (i : Int) (hx : Ieee.double.read x = .number s m i) :
    (callFunc 116 #[.float .f64 x]).run Tryz.prog w = .ok (.value (.float .f64 (Ieee.double.nearest s (Fl.whole m i) 0))) w := by
  rw [run_callFunc_extern (e := Extern.MathFloor.toIntegral "math.archTrunc" .zero) Tryz.func116 (by kernel_rfl) (by kernel_rfl) (by kernel_rfl) (by kernel_rfl)]
  rw [arch_is x s m i hx, Fl.integral_number]
  rfl

set_option maxHeartbeats 400000 in
theorem trunc_any (x : Nat) (w : World) (s : Bool) (m : Nat) (i : Int) (hx : Ieee.double.read x = .number s m i) :
    Calls Tryz.prog 93 #[.float .f64 x] w fun e w' => e = .returned (.float .f64 (Ieee.double.nearest s (Fl.whole m i) 0)) ∧ w' = w := by
  have ha := fun w => arch_run x w s m i hx
  clear hx
  go_enter Tryz.func93, Tryz.ntmps93
  go_wp2
  go_ret
  exact ⟨rfl, rfl⟩

theorem fin_of {x : Nat} (h1 : (Ieee.double.order x 14114281232179134464 == some .gt || Ieee.double.order x 14114281232179134464 == some .eq) = true) (h2 : (Ieee.double.order x 4890909195324358656 == some .lt) = true) :
    ∃ s m i, Ieee.double.read x = .number s m i ∧ -1074 ≤ i ∧ i ≤ 971 ∧ m < 2 ^ 53 ∧ -(9223372036854775808 * Fl.U) ≤ Fl.sc s m i ∧ Fl.sc s m i < 9223372036854775808 * Fl.U := by
  rcases Fl.read_cases x with ⟨s, m, i, hr, hi, hi2, hm, _⟩ | ⟨s, hr⟩ | ⟨s, t, hr⟩
  · refine ⟨s, m, i, hr, hi, hi2, hm, ?_, ?_⟩
    · rw [Fl.ord_of hr Fl.read_m63 hi (by omega), Fl.sc_m63, Fl.cmp_gt, Fl.cmp_eq] at h1
      simp at h1; omega
    · rw [Fl.ord_of hr Fl.read_c63 hi (by omega), Fl.sc_c63, Fl.cmp_lt] at h2
      simpa using h2
  · exfalso
    unfold Ieee.Format.order at h1 h2
    rw [hr, Fl.read_m63] at h1
    rw [hr, Fl.read_c63] at h2
    cases s <;> simp [Ieee.Datum.order] at h1 h2
  · exfalso
    unfold Ieee.Format.order at h1 h2
    rw [hr] at h1
    simp [Ieee.Datum.order] at h1

/-- A float that is a whole number within an int64; and that int. -/
def geB (x : Nat) : Bool := FloatKind.f64.format.order x 14114281232179134464 == some .gt || FloatKind.f64.format.order x 14114281232179134464 == some .eq
def ltB (x : Nat) : Bool := FloatKind.f64.format.order x 4890909195324358656 == some .lt
def isW (x : Nat) : Bool := match Ieee.double.read x with
  | .number s m i => decide (Fl.sc s m i = Fl.sg s (Fl.whole m i) * Fl.U)
  | _ => false
def fint (x : Nat) : Int := match Ieee.double.read x with
  | .number s m i => Fl.sg s (Fl.whole m i)
  | _ => 0
def wholeB (x : Nat) : Bool := geB x && ltB x && isW x

set_option maxHeartbeats 1000000 in
theorem isWhole_any (x : Nat) (w : World) :
    Calls Tryz.prog 50 #[.float .f64 x] w fun e w' => e = .returned (.bool (wholeB x)) ∧ w' = w := by
  by_cases h1 : geB x = true
  · by_cases h2 : ltB x = true
    · obtain ⟨s, m, i, hr, hi, hi2, hm, _, _⟩ := fin_of h1 h2
      have hw : wholeB x = decide (Fl.sc s m i = Fl.sg s (Fl.whole m i) * Fl.U) := by
        unfold wholeB isW; rw [h1, h2, hr]; simp
      have ho := Fl.ord_trunc hr hi hi2 hm
      rw [← hw] at ho
      have hto : (FloatKind.f64.format.order x (Ieee.double.nearest s (Fl.whole m i) 0) == some .eq) = wholeB x := ho
      have H : Hid ((FloatKind.f64.format.order x (Ieee.double.nearest s (Fl.whole m i) 0) == some .eq) = wholeB x) := hto
      have HR : Hid (Ieee.double.read x = .number s m i) := hr
      have g1 : (FloatKind.f64.format.order x 14114281232179134464 == some .gt || FloatKind.f64.format.order x 14114281232179134464 == some .eq) = true := h1
      have g2 : (FloatKind.f64.format.order x 4890909195324358656 == some .lt) = true := h2
      clear hw ho hto hr h1 h2 hi hi2 hm
      go_enter Tryz.func50, Tryz.ntmps50
      go_wp2_with (go_at_call 93; refine (trunc_any x _ s m i HR.out).mono ?_; rintro e w' ⟨rfl, rfl⟩)
      all_goals
        go_ret
        exact ⟨by rw [← H.out]; simp, rfl⟩
    · have g1 : (FloatKind.f64.format.order x 14114281232179134464 == some .gt || FloatKind.f64.format.order x 14114281232179134464 == some .eq) = true := h1
      have g2 : (FloatKind.f64.format.order x 4890909195324358656 == some .lt) = false := (by simpa using h2 : ltB x = false)
      have hw : wholeB x = false := by unfold wholeB; simp at h2; rw [h1, h2]; simp
      rw [hw]
      clear h1 h2 hw
      go_enter Tryz.func50, Tryz.ntmps50
      go_wp2
      all_goals
        go_ret
        exact ⟨rfl, rfl⟩
  · have g1 : (FloatKind.f64.format.order x 14114281232179134464 == some .gt || FloatKind.f64.format.order x 14114281232179134464 == some .eq) = false := (by simpa using h1 : geB x = false)
    have hw : wholeB x = false := by unfold wholeB; simp at h1; rw [h1]; simp
    rw [hw]
    clear h1 hw
    go_enter Tryz.func50, Tryz.ntmps50
    go_wp2
    all_goals
      go_ret
      exact ⟨rfl, rfl⟩
end Go.Proofs.YtglcaejddckleaaGreatDoor
