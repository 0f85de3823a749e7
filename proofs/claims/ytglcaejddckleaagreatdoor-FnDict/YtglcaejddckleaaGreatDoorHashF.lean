/-
  The text of a float, of the model: floor at every finite float; doubling, halving.
-/
import Derived.Test.YtglcaejddckleaaGreatDoorFltE
import Derived.Test.YtglcaejddckleaaGreatDoorHashE
import Derived.Test.YtglcaejddckleaaGreatDoorKeyC
namespace Go.Proofs.YtglcaejddckleaaGreatDoor
open Go.RowKit
set_option linter.unusedVariables false

/-- The model's floor at a positive finite float: the same where it is whole. -/
theorem floor_fin (x : Nat) (q : Nat) (l : Int) (hr : Ieee.double.read x = .number false q l) (hl : -1074 ≤ l) (hl2 : l ≤ 971) (hq : q < 2 ^ 53) :
    ∃ r, (FloatKind.f64.format.order x r == some .eq) = isW x ∧ ∀ w : World, Calls Tryz.prog 58 #[.float .f64 x] w fun e w' => e = .returned (.float .f64 r) ∧ w' = w := by
  by_cases ha : asIs x = true
  · refine ⟨x, ?_, fun w => floor_same x w ha⟩
    have e : (FloatKind.f64.format.order x x == some .eq) = true := by
      show (Ieee.double.order x x == some .eq) = true
      rw [Fl.ord_of hr hr hl hl, Fl.cmp_eq]; simp
    have hn : fnan x = false := by
      show (!(FloatKind.f64.format.order x x == some .eq)) = false
      rw [e]; rfl
    rw [e]
    by_cases hlt : ltB x = true
    · have hge : geB x = true := by
        show (Ieee.double.order x 14114281232179134464 == some .gt || Ieee.double.order x 14114281232179134464 == some .eq) = true
        rw [Fl.ord_of hr Fl.read_m63 hl (by omega), Fl.sc_m63, Fl.cmp_gt, Fl.cmp_eq, Fl.sc_false]
        have := Fl.U_pos
        have h0 : (0 : Int) ≤ ((q * 2 ^ (l + 1074).toNat : Nat) : Int) := Int.natCast_nonneg _
        simp only [Bool.or_eq_true, decide_eq_true_eq]
        left; omega
      exact (asIs_whole ha hn hge hlt).symm
    · have hge : 9223372036854775808 * Fl.U ≤ Fl.sc false q l := by
        have h : (Ieee.double.order x 4890909195324358656 == some .lt) = false := (by simpa using hlt : ltB x = false)
        rw [Fl.ord_of hr Fl.read_c63 hl (by omega), Fl.sc_c63, Fl.cmp_lt] at h
        simpa using h
      have hw : isW x = decide (Fl.sc false q l = Fl.sg false (Fl.whole q l) * Fl.U) := by unfold isW; rw [hr]
      rw [hw]
      have hu := Fl.U_pos
      by_cases hne : (Fl.whole q l : Int) * Fl.U = Fl.sc false q l
      · have e : Fl.sg false (Fl.whole q l) = (Fl.whole q l : Int) := rfl
        rw [e, hne]; simp
      · exfalso
        have hs := Fl.whole_small q l hq hne
        have hb := Fl.whole_bounds q l hl
        have : ((Fl.whole q l : Int) + 1) * Fl.U ≤ 9223372036854775808 * Fl.U := Int.mul_le_mul_of_nonneg_right (by omega) (by omega)
        omega
  · have ha' : asIs x = false := by simpa using ha
    exact floor_else x ha'

/-- Whole, told of m * 2^p. -/
def wh (m : Nat) (p : Int) : Prop := ∃ N, m * 2 ^ (p + 1074).toNat = N * 2 ^ ((0 : Int) + 1074).toNat

theorem isW_iff {x m : Nat} {p : Int} (h : Fl.St x m p) : isW x = true ↔ wh m p := by
  obtain ⟨q, l, h1, h2, h3, h4, h6⟩ := h
  have hw : isW x = decide (Fl.sc false q l = Fl.sg false (Fl.whole q l) * Fl.U) := by unfold isW; rw [h1]
  have e : Fl.sg false (Fl.whole q l) = (Fl.whole q l : Int) := rfl
  rw [hw, decide_eq_true_eq, e]
  constructor
  · intro k
    refine ⟨Fl.whole q l, ?_⟩
    rw [← h6]
    have k' := k
    rw [Fl.sc_false, ← e, ← Fl.sc_whole, Fl.sc_false] at k'
    exact Int.ofNat.inj k'
  · rintro ⟨N, hN⟩
    have := Fl.whole_of q l N h2 (h6.trans hN)
    rw [this, ← show Fl.sg false N = (N : Int) from rfl, ← Fl.sc_whole]
    exact Fl.sc_of false q l N 0 (h6.trans hN)

theorem wh_nonneg (m : Nat) (p : Int) (hp : 0 ≤ p) : wh m p := by
  refine ⟨m * 2 ^ p.toNat, ?_⟩
  rw [Fl.pw]; congr 2; omega

/-- The floor of such a float, and whether it is the same. -/
theorem floor_st {x m : Nat} {p : Int} (h : Fl.St x m p) : ∃ r, ((FloatKind.f64.format.order x r == some .eq) = true ↔ wh m p) ∧ ∀ w : World, Calls Tryz.prog 58 #[.float .f64 x] w fun e w' => e = .returned (.float .f64 r) ∧ w' = w := by
  obtain ⟨q, l, h1, h2, h3, h4, h6⟩ := id h
  obtain ⟨r, hr, hc⟩ := floor_fin x q l h1 h2 h3 h4
  exact ⟨r, by rw [hr]; exact isW_iff h, hc⟩

/-- A whole one is a number N; where its half is not whole N is odd. -/
theorem wh_odd {m : Nat} {p : Int} (h : wh m p) (hm : m ≠ 0) (hp : -1073 ≤ p) (hn : ¬ wh m (p - 1)) : ∃ M, m * 2 ^ (p + 1074).toNat = (2 * M + 1) * 2 ^ ((0 : Int) + 1074).toNat := by
  obtain ⟨N, hN⟩ := h
  by_cases hodd : N % 2 = 1
  · exact ⟨N / 2, by rw [hN]; congr 1; omega⟩
  · exfalso; apply hn
    refine ⟨N / 2, ?_⟩
    have e : (p + 1074).toNat = (p - 1 + 1074).toNat + 1 := by omega
    rw [e, ← Fl.pw, Nat.pow_one] at hN
    obtain ⟨K, hK⟩ : ∃ K, N = K * 2 := ⟨N / 2, by omega⟩
    have e3 : N / 2 = K := by omega
    rw [hK, Nat.mul_right_comm K 2] at hN
    rw [e3]
    exact Nat.eq_of_mul_eq_mul_right (by omega) hN

theorem wh_low {m : Nat} {p : Int} (h : wh m p) (hm : m ≠ 0) (hm2 : m < 2 ^ 53) (hp : -1074 ≤ p) : -53 < p := by
  obtain ⟨N, hN⟩ := h
  apply Int.lt_of_not_ge
  intro hle
  have hN0 : N ≠ 0 := by
    intro e; subst e
    rw [Nat.zero_mul] at hN
    have := Nat.two_pow_pos (p + 1074).toNat
    rcases Nat.mul_eq_zero.1 hN with h | h <;> omega
  obtain ⟨c, hc⟩ : ∃ c : Nat, ((0 : Int) + 1074).toNat = (p + 1074).toNat + (53 + c) := ⟨(-p).toNat - 53, by omega⟩
  rw [hc, Nat.add_comm (p + 1074).toNat, ← Fl.pw] at hN
  have h2 := Nat.eq_of_mul_eq_mul_right (Nat.two_pow_pos _) hN
  rw [Nat.pow_add, Nat.mul_comm (2 ^ 53), ← Nat.mul_assoc] at h2
  have : 1 ≤ N * 2 ^ c := Nat.mul_pos (by omega) (Nat.two_pow_pos c)
  have : 1 * 2 ^ 53 ≤ N * 2 ^ c * 2 ^ 53 := Nat.mul_le_mul_right _ this
  omega

theorem odd_of {m : Nat} {i p : Int} {M : Nat} (h : m * 2 ^ (p + 1074).toNat = (2 * M + 1) * 2 ^ ((0 : Int) + 1074).toNat) (hp : -1074 ≤ p) : OddF m i M (i - p) := by
  by_cases h0 : 0 ≤ p
  · refine ⟨p.toNat, 0, ?_, by omega⟩
    rw [show (p + 1074).toNat = p.toNat + ((0 : Int) + 1074).toNat from by omega, ← Fl.pw] at h
    rw [Nat.eq_of_mul_eq_mul_right (Nat.two_pow_pos _) h]; simp
  · refine ⟨0, (-p).toNat, ?_, by omega⟩
    rw [show ((0 : Int) + 1074).toNat = (-p).toNat + (p + 1074).toNat from by omega, ← Fl.pw] at h
    rw [← Nat.eq_of_mul_eq_mul_right (Nat.two_pow_pos _) h]; simp

set_option maxHeartbeats 400000 in
theorem l1nan_no (x : Nat) (w : World) (h : (FloatKind.f64.format.order x x != some .eq) = false) :
    Calls Tryz.prog 57 #[.float .f64 x] w fun e w' => e = .returned (.bool false) ∧ w' = w := by
  go_enter Tryz.func57, Tryz.ntmps57
  go_wp2
  go_ret
  exact ⟨rfl, rfl⟩

set_option maxHeartbeats 400000 in
theorem decimal_neg (n : Nat) (h0 : 0 < n) (hn : n < 9007199254740992) (w : World) :
    Calls Tryz.prog 156 #[.int .i64 (-(n : Int))] w fun e w' => e = .returned (.string ⟨(45 :: Lib.decDigits n).toArray⟩) ∧ Below w.heap.size w w' := by
  have hl := digits_len n (by omega)
  have hlt : (0 : Int) < (n : Int) := by omega
  go_enter Tryz.func156, Tryz.ntmps156
  go_wp2_with (go_at_call 156; refine (decimal_pos n hn _).mono ?_; rintro e w1 ⟨rfl, hb⟩)
  go_ret
  refine ⟨ret_str ?_, hb⟩
  exact ba_append [45] (Lib.decDigits n)

theorem decimal_any (n : Int) (h1 : -9007199254740992 < n) (h2 : n < 9007199254740992) (w : World) :
    Calls Tryz.prog 156 #[.int .i64 n] w fun e w' => e = .returned (.string ⟨(Lib.itoa n).toArray⟩) ∧ Below w.heap.size w w' := by
  by_cases h : n < 0
  · obtain ⟨k, rfl⟩ : ∃ k : Nat, n = -(k : Int) := ⟨n.natAbs, by omega⟩
    have e : Lib.itoa (-(k : Int)) = 45 :: Lib.decDigits k := by unfold Lib.itoa; rw [if_pos h]; simp
    rw [e]
    exact decimal_neg k (by omega) (by omega) w
  · obtain ⟨k, rfl⟩ : ∃ k : Nat, n = (k : Int) := ⟨n.toNat, by omega⟩
    have e : Lib.itoa (k : Int) = Lib.decDigits k := by unfold Lib.itoa; rw [if_neg h]; simp
    rw [e]
    exact decimal_pos k (by omega) w

theorem ftext_eq (s : Bool) (M : Nat) (E : Int) : ftext s (2 * M + 1) E = (if s then [45] else []) ++ Lib.itoa ((2 * M + 1 : Nat) : Int) ++ [112] ++ Lib.itoa E := by
  unfold ftext
  cases s
  · simp [Fl.sg]
  · have e1 : Lib.itoa (Fl.sg true (2 * M + 1)) = 45 :: Lib.decDigits (2 * M + 1) := by
      unfold Lib.itoa Fl.sg
      rw [if_pos rfl, if_pos (by omega)]
      congr 2
    have e2 : Lib.itoa ((2 * M + 1 : Nat) : Int) = Lib.decDigits (2 * M + 1) := by
      unfold Lib.itoa
      rw [if_neg (by omega)]; rfl
    rw [e1, e2]; simp
end Go.Proofs.YtglcaejddckleaaGreatDoor
