/-
  The words of doubles by their three fields; products by powers of two; the odd form M * 2^E. Plain mathematics.
-/
import Derived.Test.YtglcaejddckleaaGreatDoorFlt
import Derived.Laws.BitsAllLaws
import Derived.Lib.ItoaNum
import Derived.Lib.TrailingZeros
namespace Go.Proofs.YtglcaejddckleaaGreatDoor.Fl
open Ieee

/-- A word by its fields. -/
theorem fields (x : Nat) (hx : x < 18446744073709551616) : ∃ sb e f : Nat, x = sb * 9223372036854775808 + e * 4503599627370496 + f ∧ sb < 2 ∧ e < 2048 ∧ f < 4503599627370496 :=
  ⟨x / 9223372036854775808, x / 4503599627370496 % 2048, x % 4503599627370496, by omega, by omega, by omega, by omega⟩

theorem read_fields (sb e f : Nat) (h1 : sb < 2) (h2 : e < 2047) (h3 : f < 4503599627370496) :
    double.read (sb * 9223372036854775808 + e * 4503599627370496 + f) = .number (sb == 1) (if e = 0 then f else 4503599627370496 + f) (if e = 0 then -1074 else (e : Int) - 1075) := by
  unfold Format.read
  have hb : double.binade = 4503599627370496 := by decide
  have hr : double.infRung = 9218868437227405312 := by decide
  have hl : double.leastPlace = -1074 := by decide
  have hs : double.signWeight = 9223372036854775808 := by decide
  dsimp only
  rw [hb, hr, hl, hs]
  have e1 : (sb * 9223372036854775808 + e * 4503599627370496 + f) % 9223372036854775808 = e * 4503599627370496 + f := by omega
  have e2 : (sb * 9223372036854775808 + e * 4503599627370496 + f) / 9223372036854775808 % 2 = sb := by omega
  rw [e1, e2]
  by_cases he : e = 0
  · subst he
    rw [if_pos (by omega), if_pos rfl, if_pos rfl]; simp
  · rw [if_neg (by omega), if_pos (by omega), if_neg he, if_neg he]
    congr 1
    · omega
    · have : (e * 4503599627370496 + f) / 4503599627370496 = e := by omega
      rw [this]; omega

theorem read_inf_fields (sb f : Nat) (h1 : sb < 2) (h3 : f < 4503599627370496) :
    double.read (sb * 9223372036854775808 + 2047 * 4503599627370496 + f) = if f = 0 then .infinity (sb == 1) else .nan (sb == 1) f := by
  unfold Format.read
  have hb : double.binade = 4503599627370496 := by decide
  have hr : double.infRung = 9218868437227405312 := by decide
  have hs : double.signWeight = 9223372036854775808 := by decide
  dsimp only
  rw [hb, hr, hs]
  have e1 : (sb * 9223372036854775808 + 2047 * 4503599627370496 + f) % 9223372036854775808 = 9218868437227405312 + f := by omega
  have e2 : (sb * 9223372036854775808 + 2047 * 4503599627370496 + f) / 9223372036854775808 % 2 = sb := by omega
  rw [e1, e2, if_neg (by omega), if_neg (by omega)]
  by_cases hf : f = 0
  · subst hf; simp
  · rw [if_neg (by omega), if_neg hf, show 9218868437227405312 + f - 9218868437227405312 = f from by omega]

theorem c63 : (2 : Nat) ^ 63 = 9223372036854775808 := by decide
theorem c63' : (2 : Nat) ^ 63 - 1 = 9223372036854775807 := by decide
theorem c52 : (2 : Nat) ^ 52 = 4503599627370496 := by decide
theorem c52' : (2 : Nat) ^ 52 - 1 = 4503599627370495 := by decide
theorem c11 : (2 : Nat) ^ 11 = 2048 := by decide
theorem c11' : (2 : Nat) ^ 11 - 1 = 2047 := by decide
theorem sb_mod52 (sb : Nat) : sb * 9223372036854775808 % 2 ^ 52 = 0 := by
  have e : sb * 9223372036854775808 = sb * 2048 * 2 ^ 52 := by rw [c52, Nat.mul_assoc]
  rw [e]; exact Nat.mul_mod_left _ _
/-- The sign goes. -/
theorem andNot_sign (sb e f : Nat) (h1 : sb < 2) (h2 : e < 2048) (h3 : f < 4503599627370496) :
    bits BinOp.andNot IntKind.u64 ((sb * 9223372036854775808 + e * 4503599627370496 + f : Nat) : Int) 9223372036854775808 = ((e * 4503599627370496 + f : Nat) : Int) := by
  have h := u64_andNot_nat (sb * 9223372036854775808 + e * 4503599627370496 + f) 9223372036854775808 (by omega) (by omega)
  refine h.trans ?_
  congr 1
  have := Nat.and_two_pow_sub_one_eq_mod (sb * 9223372036854775808 + e * 4503599627370496 + f) 63
  rw [c63', c63] at this
  rw [show 18446744073709551615 - 9223372036854775808 = 9223372036854775807 from rfl, this]
  omega

theorem andNot_exp (sb e f : Nat) (h1 : sb < 2) (h2 : e < 2048) (h3 : f < 4503599627370496) :
    bits BinOp.andNot IntKind.u64 ((sb * 9223372036854775808 + e * 4503599627370496 + f : Nat) : Int) 9218868437227405312 = ((sb * 9223372036854775808 + f : Nat) : Int) := by
  have h := u64_andNot_nat (sb * 9223372036854775808 + e * 4503599627370496 + f) 9218868437227405312 (by omega) (by omega)
  refine h.trans ?_
  congr 1
  have m1 : 18446744073709551615 - 9218868437227405312 = 9223372036854775808 ||| 4503599627370495 := by decide
  rw [m1, Nat.and_or_distrib_left]
  have a1 := nat_bit 63 (sb * 9223372036854775808 + e * 4503599627370496 + f)
  have a2 := Nat.and_two_pow_sub_one_eq_mod (sb * 9223372036854775808 + e * 4503599627370496 + f) 52
  rw [c63] at a1
  rw [c52', c52] at a2
  rw [a1, a2]
  have e1 : (sb * 9223372036854775808 + e * 4503599627370496 + f) / 9223372036854775808 % 2 = sb := by omega
  have e2 : (sb * 9223372036854775808 + e * 4503599627370496 + f) % 4503599627370496 = f := by omega
  rw [e1, e2, nat_join 52 (sb * 9223372036854775808) f (sb_mod52 sb) (by rw [c52]; omega)]

theorem or_exp (sb f : Nat) (h1 : sb < 2) (h3 : f < 4503599627370496) :
    bits BinOp.or IntKind.u64 ((sb * 9223372036854775808 + f : Nat) : Int) 4602678819172646912 = ((sb * 9223372036854775808 + 1022 * 4503599627370496 + f : Nat) : Int) := by
  have h := u64_or_nat (sb * 9223372036854775808 + f) 4602678819172646912 (by omega) (by omega)
  refine h.trans ?_
  congr 1
  have j1 := nat_join 52 (sb * 9223372036854775808) f (sb_mod52 sb) (by rw [c52]; omega)
  have j2 := nat_join 52 4602678819172646912 f (by rw [c52]) (by rw [c52]; omega)
  have j3 := nat_join 63 (sb * 9223372036854775808) (4602678819172646912 + f) (by rw [c63]; exact Nat.mul_mod_left _ _) (by rw [c63]; omega)
  rw [← j1, Nat.or_assoc, Nat.or_comm f, j2, j3]
  omega

theorem and_exp (e : Nat) (h2 : e < 4096) : bits BinOp.and IntKind.u64 (e : Int) 2047 = ((e % 2048 : Nat) : Int) := by
  have h := u64_and_nat e 2047 (by omega) (by omega)
  refine h.trans ?_
  congr 1
  have := Nat.and_two_pow_sub_one_eq_mod e 11
  rw [c11', c11] at this
  exact this

/-- A product by a power of two that the format has, of a number that stays within it: exact. -/
theorem mul_exact {x y : Nat} {s t : Bool} {m n : Nat} {i j : Int} (hx : double.read x = .number s m i) (hy : double.read y = .number t n j) (h0 : m * n ≠ 0) (hij : -1074 ≤ i + j)
    (m' : Nat) (p : Int) (hm : m' < 2 ^ 53) (hp1 : -1074 ≤ p) (hp2 : p ≤ 971) (he : (m * n) * 2 ^ (i + j + 1074).toNat = m' * 2 ^ (p + 1074).toNat) :
    ∃ r q l, floatBits .mul .f64 x y = some r ∧ double.read r = .number (s ^^ t) q l ∧ -1074 ≤ l ∧ l ≤ 971 ∧ q * 2 ^ (l + 1074).toNat = m' * 2 ^ (p + 1074).toNat := by
  obtain ⟨q, l, h1, h2, h3, h4⟩ := nearest_exact (s ^^ t) (m * n) (i + j) m' p h0 hij hm hp1 hp2 he
  refine ⟨double.nearest (s ^^ t) (m * n) (i + j), q, l, ?_, h1, h2, h3, h4.trans he⟩
  show ((double.read x).product (double.read y)).map double.write = _
  rw [hx, hy]
  rfl

theorem read_max : double.read 9218868437227405311 = .number false 9007199254740991 971 := by decide
theorem read_half : double.read 4602678819172646912 = .number false 4503599627370496 (-53) := by decide
theorem read_two : double.read 4611686018427387904 = .number false 4503599627370496 (-51) := by decide
theorem read_p52 : double.read 4841369599423283200 = .number false 4503599627370496 0 := by decide
theorem read_p53 : double.read 4845873199050653696 = .number false 4503599627370496 1 := by decide
theorem read_least : double.read 4503599627370496 = .number false 4503599627370496 (-1074) := by decide

theorem sc_false (m : Nat) (i : Int) : sc false m i = ((m * 2 ^ (i + 1074).toNat : Nat) : Int) := by
  unfold sc signed
  rw [Nat.shiftLeft_eq]; simp

theorem sc_le_max (s : Bool) (m : Nat) (i : Int) (hm : m < 2 ^ 53) (hi : i ≤ 971) : sc s m i ≤ sc false 9007199254740991 971 := by
  have h1 : sc s m i ≤ sc false m i := by
    cases s
    · exact Int.le_refl _
    · rw [sc_neg, sc_false]; omega
  refine Int.le_trans h1 ?_
  rw [sc_false, sc_false]
  have a : m ≤ 9007199254740991 := by omega
  have b : 2 ^ (i + 1074).toNat ≤ 2 ^ ((971 : Int) + 1074).toNat := Nat.pow_le_pow_right (by omega) (by omega)
  exact Int.ofNat_le.2 (Nat.mul_le_mul a b)

/-- No finite number is above the greatest. -/
theorem not_above {x : Nat} {s : Bool} {m : Nat} {i : Int} (hx : double.read x = .number s m i) (hi : -1074 ≤ i) (hi2 : i ≤ 971) (hm : m < 2 ^ 53) : (double.order x 9218868437227405311 == some .gt) = false := by
  rw [ord_of hx read_max hi (by omega), cmp_gt]
  have := sc_le_max s m i hm hi2
  simp; omega
theorem inf_above {x : Nat} (hx : double.read x = .infinity false) : (double.order x 9218868437227405311 == some .gt) = true := by
  unfold Format.order; rw [hx, read_max]; rfl
theorem ninf_above {x : Nat} (hx : double.read x = .infinity true) : (double.order x 9218868437227405311 == some .gt) = false := by
  unfold Format.order; rw [hx, read_max]; rfl

end Go.Proofs.YtglcaejddckleaaGreatDoor.Fl
