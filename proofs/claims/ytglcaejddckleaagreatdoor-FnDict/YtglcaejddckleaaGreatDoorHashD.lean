/-
  The text of a float, of the program.
-/
import Derived.Test.YtglcaejddckleaaGreatDoorFltD
import Derived.Test.YtglcaejddckleaaGreatDoorHashC
import Derived.Lib.ItoaLen
import Derived.Test.YtglcaejddckleaaGreatDoorDigits
namespace Go.Proofs.YtglcaejddckleaaGreatDoor
open Go.RowKit
set_option linter.unusedVariables false

/-- The text of the number M times 2 to the E, with its sign. -/
def ftext (s : Bool) (M : Nat) (E : Int) : List UInt8 := Lib.itoa (Fl.sg s M) ++ [112] ++ Lib.itoa E

set_option maxHeartbeats 1000000 in
theorem ftext_core (x z2 r u t : Nat) (ex a b : Int) (w : World) (hT : Tabs w)
    (h1 : (FloatKind.f64.format.order x 9218868437227405311 == some .gt) = false) (h2 : (FloatKind.f64.format.order (Op.negFloat .f64 x) 9218868437227405311 == some .gt) = false)
    (hF : ∀ w : World, Calls Tryz.prog 140 #[.float .f64 x] w fun e w' => e = .returned (.tuple #[.float .f64 z2, .int .i64 ex]) ∧ w' = w)
    (hm : floatBits .mul .f64 z2 4845873199050653696 = some r) (hc : floatToIntVal .f64 r .i64 = some a)
    (hu : IntKind.u64.wrap a = (u : Int)) (hu0 : u ≠ 0) (hu1 : u < 18446744073709551616) (ht : Lib.ctz 64 u = t) (ht1 : t < 53) (hb : a / 2 ^ t = b)
    (hb1 : -9007199254740992 < b) (hb2 : b < 9007199254740992) (he1 : -1200 < ex) (he2 : ex < 1200) :
    Calls Tryz.prog 119 #[.float .f64 x] w fun e w' => e = .returned (.string ⟨(Lib.itoa b ++ [112] ++ Lib.itoa (ex - 53 + t)).toArray⟩) ∧ Below w.heap.size w w' := by
  have HF : Hid (∀ w : World, Calls Tryz.prog 140 #[.float .f64 x] w fun e w' => e = .returned (.tuple #[.float .f64 z2, .int .i64 ex]) ∧ w' = w) := hF
  have hr : ∀ w : World, (binOp .mul 28 (.float .f64 z2) (.float .f64 4845873199050653696)).run Tryz.prog w = .ok (.float .f64 r) w := fun w => run_float_arith w .mul 28 .f64 _ _ r hm
  have hcv : ∀ w : World, (convert 28 2 (.float .f64 r)).run Tryz.prog w = .ok (.int .i64 a) w := fun w => run_convert_float_int w 28 2 .f64 .i64 r _ (by kernel_rfl) Tryz.underlying2 hc
  have HT : Hid (Lib.ctz 64 u = t) := ht
  have H2 : Hid ((FloatKind.f64.format.order (Op.negFloat .f64 x) 9218868437227405311 == some .gt) = false) := h2
  have H1 : Hid ((FloatKind.f64.format.order x 9218868437227405311 == some .gt) = false) := h1
  clear hF hm hc ht h2 h1
  go_enter Tryz.func119, Tryz.ntmps119
  go_wp2_with fail
  refine (isInf_pos x _).mono ?_
  rintro e w1 ⟨rfl, rfl⟩
  rw [H1.out]
  go_wp2_with fail
  refine (isInf_neg x _).mono ?_
  rintro e w1 ⟨rfl, rfl⟩
  rw [H2.out]
  go_wp2_with fail
  refine (HF.out _).mono ?_
  rintro e w1 ⟨rfl, rfl⟩
  go_wp2_with fail
  refine (tz64_any u hu1 hu0 _ hT).mono ?_
  rintro e w1 ⟨rfl, rfl⟩
  rw [HT.out]
  go_wp2_with fail
  refine (Tryz.strconv_FormatInt_10 b (by omega) (by omega) _ hT.p10).mono ?_
  rintro e w2 ⟨rfl, kk, os, hw2⟩
  have hb2' : Below w1.heap.size w1 w2 := by rw [hw2]; exact Lib.below_grow _ _ (Nat.le_refl _) _ _
  clear hw2
  have hT2 := hT.below hb2' hT.sz
  have hl1 := Lib.itoa_length_le b (by omega) (by omega)
  have hl2 := Lib.itoa_length_le (ex - 53 + t) (by omega) (by omega)
  go_wp2_with fail
  refine (Tryz.strconv_Itoa (ex - 53 + t) (by omega) (by omega) _ hT2.p10).mono ?_
  rintro e w3 ⟨rfl, k3, os3, hw3⟩
  have hb3' : Below w2.heap.size w2 w3 := by rw [hw3]; exact Lib.below_grow _ _ (Nat.le_refl _) _ _
  clear hw3
  go_wp2_with fail
  go_ret
  exact ⟨ret_str (by rw [ba_append, ba_append]), hb2'.trans (hb3'.mono hb2'.size)⟩

/-- m * 2^i is (2 M + 1) * 2^E. -/
def OddF (m : Nat) (i : Int) (M : Nat) (E : Int) : Prop := ∃ a b : Nat, m * 2 ^ a = (2 * M + 1) * 2 ^ b ∧ E = i + b - a

theorem oddF_unique {m : Nat} {i : Int} {M M' : Nat} {E E' : Int} (h : OddF m i M E) (h' : OddF m i M' E') : M = M' ∧ E = E' := by
  obtain ⟨a, b, e1, rfl⟩ := h
  obtain ⟨a', b', e2, rfl⟩ := h'
  have e : 2 ^ (b + a') * (2 * M + 1) = 2 ^ (b' + a) * (2 * M' + 1) := by
    rw [Nat.pow_add, Nat.pow_add, Nat.mul_comm (2 ^ b), Nat.mul_assoc, Nat.mul_comm (2 ^ b), ← e1, Nat.mul_comm (2 ^ b'), Nat.mul_assoc, Nat.mul_comm (2 ^ b'), ← e2]
    rw [Nat.mul_left_comm, Nat.mul_left_comm (2 ^ a), Nat.mul_comm (2 ^ a')]
  obtain ⟨h1, h2⟩ := Fl.odd_unique _ _ _ _ e
  exact ⟨h2, by omega⟩

theorem shift53 (N c d : Nat) (h : d = 52 + c) : N * 4503599627370496 * 2 ^ c = N * 2 ^ d := by
  rw [h, Nat.pow_add, Fl.c52, Nat.mul_assoc]

theorem floatText_num (x : Nat) (hx : x < 18446744073709551616) (s : Bool) (m : Nat) (i : Int) (hr : Ieee.double.read x = .number s m i) (hi : -1074 ≤ i) (hi2 : i ≤ 971) (hm : m < 2 ^ 53) (hm0 : m ≠ 0) :
    ∃ M E, OddF m i M E ∧ ∀ w : World, Tabs w → Calls Tryz.prog 119 #[.float .f64 x] w fun e w' => e = .returned (.string ⟨(ftext s (2 * M + 1) E).toArray⟩) ∧ Below w.heap.size w w' := by
  obtain ⟨ya, y, e0, z, z2, k, j, F⟩ := Fl.frexp_facts x hx s m i hr hm0
  have hN0 : 0 < m * 2 ^ j := by have := F.lo; omega
  obtain ⟨M, hM, ht⟩ := Fl.ctz_spec s (m * 2 ^ j) hN0 F.hi
  -- the product by 2^53
  obtain ⟨r, q, l, hmul, hrd, hl1, hl2, hv⟩ := Fl.mul_exact F.rd Fl.read_p53 (by have := F.lo; omega) (by omega) (m * 2 ^ j) 0 F.hi (by omega) (by omega) (shift53 (m * 2 ^ j) _ _ (by decide))
  rw [Bool.xor_false] at hrd
  have hw := Fl.whole_of q l (m * 2 ^ j) hl1 hv
  have hu := Fl.U_pos
  have hsc : Fl.sc s q l = Fl.sg s (m * 2 ^ j) * Fl.U := by rw [Fl.sc_of s q l (m * 2 ^ j) 0 hv, Fl.sc_whole]
  have hcv : floatToIntVal .f64 r .i64 = some (Fl.sg s (m * 2 ^ j)) := by
    have h := Fl.toIntVal hrd hl1 (by
      rw [hsc]
      have : -9223372036854775808 ≤ Fl.sg s (m * 2 ^ j) := by have := F.hi; cases s <;> simp only [Fl.sg, Bool.false_eq_true, if_false, if_true] <;> omega
      have := Int.mul_le_mul_of_nonneg_right this (Int.le_of_lt hu)
      omega) (by
      rw [hsc]
      have : Fl.sg s (m * 2 ^ j) < 9223372036854775808 := by have := F.hi; cases s <;> simp only [Fl.sg, Bool.false_eq_true, if_false, if_true] <;> omega
      exact Int.mul_lt_mul_of_pos_right this hu)
    rw [hw] at h; exact h
  have hNs' := F.hi
  generalize hN : m * 2 ^ j = N at *
  generalize htt : Lib.ctz 64 (Fl.uw s N) = t at *
  have hNs : N < 9007199254740992 := hNs'
  have hMb : 2 * M + 1 < 9007199254740992 := by
    have : 1 * (2 * M + 1) ≤ 2 ^ t * (2 * M + 1) := Nat.mul_le_mul_right _ (Nat.two_pow_pos t)
    omega
  refine ⟨M, i - j + t, ⟨j, t, by rw [hN, hM, Nat.mul_comm], by omega⟩, fun w hT => ?_⟩
  have hex := F.ex
  have he1 : k + ((e0 : Int) - 1023 + 1) - 53 + t = i - j + t := by omega
  have c := ftext_core x z2 r (Fl.uw s N) t (k + ((e0 : Int) - 1023 + 1)) (Fl.sg s N) (Fl.sg s (2 * M + 1)) w hT
    (Fl.not_above hr hi hi2 hm)
    (Fl.not_above (x := Op.negFloat .f64 x) (s := !s) (m := m) (i := i) (by rw [Fl.read_neg x hx, hr]; rfl) hi hi2 hm)
    (fun w => frexp_pub hr hi hm0 F w) hmul hcv (Fl.uw_wrap s N hN0 hNs')
    (by unfold Fl.uw; split <;> omega) (by unfold Fl.uw; split <;> omega) htt (by omega)
    (by rw [hM]; exact Fl.sg_shift s t M)
    (by cases s <;> simp only [Fl.sg, Bool.false_eq_true, if_false, if_true] <;> omega)
    (by cases s <;> simp only [Fl.sg, Bool.false_eq_true, if_false, if_true] <;> omega)
    (by have := F.hk; have := F.he0; omega) (by have := F.hk2; have := F.he0; omega)
  rw [he1] at c
  exact c

end Go.Proofs.YtglcaejddckleaaGreatDoor
