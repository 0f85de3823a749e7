/-
  FltB, FltC, FltD, FltE.
-/
import Derived.Test.YtfceeijdmilieaaGreatDoorFlt
import Derived.Laws.BitsAllLaws
import Derived.Lib.ItoaNum
import Derived.Lib.TrailingZeros
namespace Go.Proofs.YtfceeijdmilieaaGreatDoor.Fl
open Ieee

/-- A word by its fields. -/
theorem fields (x : Nat) (hx : x < 18446744073709551616) : ∃ sb e f : Nat, x = sb * 9223372036854775808 + e * 4503599627370496 + f ∧ sb < 2 ∧ e < 2048 ∧ f < 4503599627370496 :=
  ⟨x / 9223372036854775808, x / 4503599627370496 % 2048, x % 4503599627370496, by omega, by omega, by omega, by omega⟩

theorem read_fields (sb e f : Nat) (h1 : sb < 2) (h2 : e < 2047) (h3 : f < 4503599627370496) :
    double.read (sb * 9223372036854775808 + e * 4503599627370496 + f) = .number (sb == 1) (if e = 0 then f else 4503599627370496 + f) (if e = 0 then -1074 else (e : Int) - 1075) := by
  unfold Format.read
  have hb : double.binade = 4503599627370496 := by decide
  have hr : double.infRung = 9218868437227405312 := by decide
  have hl : double.leastPlace = -1074 := by decide
  have hs : double.signWeight = 9223372036854775808 := by decide
  dsimp only
  rw [hb, hr, hl, hs]
  have e1 : (sb * 9223372036854775808 + e * 4503599627370496 + f) % 9223372036854775808 = e * 4503599627370496 + f := by omega
  have e2 : (sb * 9223372036854775808 + e * 4503599627370496 + f) / 9223372036854775808 % 2 = sb := by omega
  rw [e1, e2]
  by_cases he : e = 0
  · subst he
    rw [if_pos (by omega), if_pos rfl, if_pos rfl]; simp
  · rw [if_neg (by omega), if_pos (by omega), if_neg he, if_neg he]
    congr 1
    · omega
    · have : (e * 4503599627370496 + f) / 4503599627370496 = e := by omega
      rw [this]; omega

theorem read_inf_fields (sb f : Nat) (h1 : sb < 2) (h3 : f < 4503599627370496) :
    double.read (sb * 9223372036854775808 + 2047 * 4503599627370496 + f) = if f = 0 then .infinity (sb == 1) else .nan (sb == 1) f := by
  unfold Format.read
  have hb : double.binade = 4503599627370496 := by decide
  have hr : double.infRung = 9218868437227405312 := by decide
  have hs : double.signWeight = 9223372036854775808 := by decide
  dsimp only
  rw [hb, hr, hs]
  have e1 : (sb * 9223372036854775808 + 2047 * 4503599627370496 + f) % 9223372036854775808 = 9218868437227405312 + f := by omega
  have e2 : (sb * 9223372036854775808 + 2047 * 4503599627370496 + f) / 9223372036854775808 % 2 = sb := by omega
  rw [e1, e2, if_neg (by omega), if_neg (by omega)]
  by_cases hf : f = 0
  · subst hf; simp
  · rw [if_neg (by omega), if_neg hf, show 9218868437227405312 + f - 9218868437227405312 = f from by omega]

theorem c63 : (2 : Nat) ^ 63 = 9223372036854775808 := by decide
theorem c63' : (2 : Nat) ^ 63 - 1 = 9223372036854775807 := by decide
theorem c52 : (2 : Nat) ^ 52 = 4503599627370496 := by decide
theorem c52' : (2 : Nat) ^ 52 - 1 = 4503599627370495 := by decide
theorem c11 : (2 : Nat) ^ 11 = 2048 := by decide
theorem c11' : (2 : Nat) ^ 11 - 1 = 2047 := by decide
theorem sb_mod52 (sb : Nat) : sb * 9223372036854775808 % 2 ^ 52 = 0 := by
  have e : sb * 9223372036854775808 = sb * 2048 * 2 ^ 52 := by rw [c52, Nat.mul_assoc]
  rw [e]; exact Nat.mul_mod_left _ _
/-- The sign goes. -/
theorem andNot_sign (sb e f : Nat) (h1 : sb < 2) (h2 : e < 2048) (h3 : f < 4503599627370496) :
    bits BinOp.andNot IntKind.u64 ((sb * 9223372036854775808 + e * 4503599627370496 + f : Nat) : Int) 9223372036854775808 = ((e * 4503599627370496 + f : Nat) : Int) := by
  have h := u64_andNot_nat (sb * 9223372036854775808 + e * 4503599627370496 + f) 9223372036854775808 (by omega) (by omega)
  refine h.trans ?_
  congr 1
  have := Nat.and_two_pow_sub_one_eq_mod (sb * 9223372036854775808 + e * 4503599627370496 + f) 63
  rw [c63', c63] at this
  rw [show 18446744073709551615 - 9223372036854775808 = 9223372036854775807 from rfl, this]
  omega

theorem andNot_exp (sb e f : Nat) (h1 : sb < 2) (h2 : e < 2048) (h3 : f < 4503599627370496) :
    bits BinOp.andNot IntKind.u64 ((sb * 9223372036854775808 + e * 4503599627370496 + f : Nat) : Int) 9218868437227405312 = ((sb * 9223372036854775808 + f : Nat) : Int) := by
  have h := u64_andNot_nat (sb * 9223372036854775808 + e * 4503599627370496 + f) 9218868437227405312 (by omega) (by omega)
  refine h.trans ?_
  congr 1
  have m1 : 18446744073709551615 - 9218868437227405312 = 9223372036854775808 ||| 4503599627370495 := by decide
  rw [m1, Nat.and_or_distrib_left]
  have a1 := nat_bit 63 (sb * 9223372036854775808 + e * 4503599627370496 + f)
  have a2 := Nat.and_two_pow_sub_one_eq_mod (sb * 9223372036854775808 + e * 4503599627370496 + f) 52
  rw [c63] at a1
  rw [c52', c52] at a2
  rw [a1, a2]
  have e1 : (sb * 9223372036854775808 + e * 4503599627370496 + f) / 9223372036854775808 % 2 = sb := by omega
  have e2 : (sb * 9223372036854775808 + e * 4503599627370496 + f) % 4503599627370496 = f := by omega
  rw [e1, e2, nat_join 52 (sb * 9223372036854775808) f (sb_mod52 sb) (by rw [c52]; omega)]

theorem or_exp (sb f : Nat) (h1 : sb < 2) (h3 : f < 4503599627370496) :
    bits BinOp.or IntKind.u64 ((sb * 9223372036854775808 + f : Nat) : Int) 4602678819172646912 = ((sb * 9223372036854775808 + 1022 * 4503599627370496 + f : Nat) : Int) := by
  have h := u64_or_nat (sb * 9223372036854775808 + f) 4602678819172646912 (by omega) (by omega)
  refine h.trans ?_
  congr 1
  have j1 := nat_join 52 (sb * 9223372036854775808) f (sb_mod52 sb) (by rw [c52]; omega)
  have j2 := nat_join 52 4602678819172646912 f (by rw [c52]) (by rw [c52]; omega)
  have j3 := nat_join 63 (sb * 9223372036854775808) (4602678819172646912 + f) (by rw [c63]; exact Nat.mul_mod_left _ _) (by rw [c63]; omega)
  rw [← j1, Nat.or_assoc, Nat.or_comm f, j2, j3]
  omega

theorem and_exp (e : Nat) (h2 : e < 4096) : bits BinOp.and IntKind.u64 (e : Int) 2047 = ((e % 2048 : Nat) : Int) := by
  have h := u64_and_nat e 2047 (by omega) (by omega)
  refine h.trans ?_
  congr 1
  have := Nat.and_two_pow_sub_one_eq_mod e 11
  rw [c11', c11] at this
  exact this

/-- A product by a power of two that the format has, of a number that stays within it: exact. -/
theorem mul_exact {x y : Nat} {s t : Bool} {m n : Nat} {i j : Int} (hx : double.read x = .number s m i) (hy : double.read y = .number t n j) (h0 : m * n ≠ 0) (hij : -1074 ≤ i + j)
    (m' : Nat) (p : Int) (hm : m' < 2 ^ 53) (hp1 : -1074 ≤ p) (hp2 : p ≤ 971) (he : (m * n) * 2 ^ (i + j + 1074).toNat = m' * 2 ^ (p + 1074).toNat) :
    ∃ r q l, floatBits .mul .f64 x y = some r ∧ double.read r = .number (s ^^ t) q l ∧ -1074 ≤ l ∧ l ≤ 971 ∧ q * 2 ^ (l + 1074).toNat = m' * 2 ^ (p + 1074).toNat := by
  obtain ⟨q, l, h1, h2, h3, h4⟩ := nearest_exact (s ^^ t) (m * n) (i + j) m' p h0 hij hm hp1 hp2 he
  refine ⟨double.nearest (s ^^ t) (m * n) (i + j), q, l, ?_, h1, h2, h3, h4.trans he⟩
  show ((double.read x).product (double.read y)).map double.write = _
  rw [hx, hy]
  rfl

theorem read_max : double.read 9218868437227405311 = .number false 9007199254740991 971 := by decide
theorem read_half : double.read 4602678819172646912 = .number false 4503599627370496 (-53) := by decide
theorem read_two : double.read 4611686018427387904 = .number false 4503599627370496 (-51) := by decide
theorem read_p52 : double.read 4841369599423283200 = .number false 4503599627370496 0 := by decide
theorem read_p53 : double.read 4845873199050653696 = .number false 4503599627370496 1 := by decide
theorem read_least : double.read 4503599627370496 = .number false 4503599627370496 (-1074) := by decide

theorem sc_false (m : Nat) (i : Int) : sc false m i = ((m * 2 ^ (i + 1074).toNat : Nat) : Int) := by
  unfold sc signed
  rw [Nat.shiftLeft_eq]; simp

theorem sc_le_max (s : Bool) (m : Nat) (i : Int) (hm : m < 2 ^ 53) (hi : i ≤ 971) : sc s m i ≤ sc false 9007199254740991 971 := by
  have h1 : sc s m i ≤ sc false m i := by
    cases s
    · exact Int.le_refl _
    · rw [sc_neg, sc_false]; omega
  refine Int.le_trans h1 ?_
  rw [sc_false, sc_false]
  have a : m ≤ 9007199254740991 := by omega
  have b : 2 ^ (i + 1074).toNat ≤ 2 ^ ((971 : Int) + 1074).toNat := Nat.pow_le_pow_right (by omega) (by omega)
  exact Int.ofNat_le.2 (Nat.mul_le_mul a b)

/-- No finite number is above the greatest. -/
theorem not_above {x : Nat} {s : Bool} {m : Nat} {i : Int} (hx : double.read x = .number s m i) (hi : -1074 ≤ i) (hi2 : i ≤ 971) (hm : m < 2 ^ 53) : (double.order x 9218868437227405311 == some .gt) = false := by
  rw [ord_of hx read_max hi (by omega), cmp_gt]
  have := sc_le_max s m i hm hi2
  simp; omega
theorem inf_above {x : Nat} (hx : double.read x = .infinity false) : (double.order x 9218868437227405311 == some .gt) = true := by
  unfold Format.order; rw [hx, read_max]; rfl
theorem ninf_above {x : Nat} (hx : double.read x = .infinity true) : (double.order x 9218868437227405311 == some .gt) = false := by
  unfold Format.order; rw [hx, read_max]; rfl

end Go.Proofs.YtfceeijdmilieaaGreatDoor.Fl
namespace Go.Proofs.YtfceeijdmilieaaGreatDoor.Fl
open Ieee

/-- All that frexp's walk asks at x, and what comes out. -/
structure Fr (x : Nat) (s : Bool) (m : Nat) (i : Int) (ya y e0 z z2 : Nat) (k : Int) (j : Nat) : Prop where
  hk : -60 ≤ k
  hk2 : k ≤ 60
  he0 : e0 < 2048
  habs : bits BinOp.andNot IntKind.u64 (x : Int) 9223372036854775808 = (ya : Int)
  hin : (double.order ya 9218868437227405311 == some .gt) = false
  hnorm : (k = 0 ∧ y = x ∧ (double.order ya 4503599627370496 == some .lt) = false) ∨ (k = -52 ∧ floatBits .mul .f64 x 4841369599423283200 = some y ∧ (double.order ya 4503599627370496 == some .lt) = true)
  h1 : bits BinOp.and IntKind.u64 ((y : Int) / 4503599627370496) 2047 = (e0 : Int)
  h2 : bits BinOp.andNot IntKind.u64 (y : Int) 9218868437227405312 = (z : Int)
  h3 : bits BinOp.or IntKind.u64 (z : Int) 4602678819172646912 = (z2 : Int)
  rd : double.read z2 = .number s (m * 2 ^ j) (-53)
  lo : 2 ^ 52 ≤ m * 2 ^ j
  hi : m * 2 ^ j < 2 ^ 53
  ex : k + ((e0 : Int) - 1023 + 1) - 53 = i - j

theorem sb_beq (sb : Nat) (h : sb < 2) (s : Bool) (e : (sb == 1) = s) : sb = if s then 1 else 0 := by
  cases s <;> simp at e <;> simp <;> omega

theorem frexp_tail (y sb e f : Nat) (hy : y = sb * 9223372036854775808 + e * 4503599627370496 + f) (h1 : sb < 2) (h2 : e < 2048) (h3 : f < 4503599627370496) :
    bits BinOp.and IntKind.u64 ((y : Int) / 4503599627370496) 2047 = (e : Int) ∧
    bits BinOp.andNot IntKind.u64 (y : Int) 9218868437227405312 = ((sb * 9223372036854775808 + f : Nat) : Int) ∧
    bits BinOp.or IntKind.u64 ((sb * 9223372036854775808 + f : Nat) : Int) 4602678819172646912 = ((sb * 9223372036854775808 + 1022 * 4503599627370496 + f : Nat) : Int) := by
  subst hy
  refine ⟨?_, andNot_exp sb e f h1 h2 h3, or_exp sb f h1 h3⟩
  have q : (((sb * 9223372036854775808 + e * 4503599627370496 + f : Nat) : Int) / 4503599627370496) = ((sb * 2048 + e : Nat) : Int) := by omega
  rw [q, and_exp _ (by omega)]
  congr 1; omega

theorem frexp_facts (x : Nat) (hx : x < 18446744073709551616) (s : Bool) (m : Nat) (i : Int) (hr : double.read x = .number s m i) (hm : m ≠ 0) :
    ∃ ya y e0 z z2 k j, Fr x s m i ya y e0 z z2 k j := by
  obtain ⟨sb, e, f, rfl, b1, b2, b3⟩ := fields x hx
  have he : e < 2047 := by
    apply Nat.lt_of_le_of_ne (by omega)
    intro h; subst h
    rw [read_inf_fields sb f b1 b3] at hr
    split at hr <;> cases hr
  rw [read_fields sb e f b1 he b3] at hr
  injection hr with hs hm' hi'
  have ra : double.read (0 * 9223372036854775808 + e * 4503599627370496 + f) = _ := read_fields 0 e f (by omega) he b3
  rw [Nat.zero_mul, Nat.zero_add] at ra
  by_cases h0 : e = 0
  · subst h0
    simp only [if_true] at hm' hi' ra
    subst hm' hi'
    have hx' : double.read (sb * 9223372036854775808 + 0 * 4503599627370496 + f) = .number s f (-1074) := by
      rw [read_fields sb 0 f b1 (by omega) b3]; simp [hs]
    obtain ⟨r, q, l, hmul, hrd, hl1, hl2, hv⟩ := mul_exact hx' read_p52 (by omega) (by omega) f (-1022) (by omega) (by omega) (by omega) (by
      rw [show ((-1074 : Int) + 0 + 1074).toNat = 0 from by decide, show ((-1022 : Int) + 1074).toNat = 52 from by decide, Nat.pow_zero, Nat.mul_one, ← c52])
    rw [show ((-1022 : Int) + 1074).toNat = 52 from by decide] at hv
    have hr64 : r < 18446744073709551616 := by
      have := floatBits_wf hmul
      simpa [Lit.wf] using this
    obtain ⟨sb', e', f', hre, d1, d2, d3⟩ := fields r hr64
    have he' : e' < 2047 := by
      apply Nat.lt_of_le_of_ne (by omega)
      intro h
      rw [hre, h, read_inf_fields sb' f' d1 d3] at hrd
      split at hrd <;> cases hrd
    rw [hre, read_fields sb' e' f' d1 he' d3] at hrd
    injection hrd with g1 g2 g3
    have hne : e' ≠ 0 := by
      intro h; subst h
      simp only [if_true] at g2 g3
      subst g2 g3
      rw [show ((-1074 : Int) + 1074).toNat = 0 from by decide, Nat.pow_zero, Nat.mul_one, c52] at hv
      omega
    rw [if_neg hne] at g2 g3
    subst g2 g3
    rw [Bool.xor_false] at g1
    -- f * 2^j = 2^52 + f'
    obtain ⟨c, hc⟩ : ∃ c : Nat, c = ((e' : Int) - 1075 + 1074).toNat := ⟨_, rfl⟩
    rw [← hc] at hv
    have hc52 : c ≤ 52 := by
      apply Nat.le_of_not_lt
      intro hlt
      have p1 : 2 ^ 53 ≤ 2 ^ c := Nat.pow_le_pow_right (by omega) hlt
      have p2 : (4503599627370496 + f') * 2 ^ 53 ≤ (4503599627370496 + f') * 2 ^ c := Nat.mul_le_mul_left _ p1
      rw [c52] at hv
      omega
    have hj : 4503599627370496 + f' = f * 2 ^ (52 - c) := by
      have e1 : 2 ^ 52 = 2 ^ (52 - c) * 2 ^ c := by rw [← Nat.pow_add]; congr 1; omega
      rw [e1, ← Nat.mul_assoc] at hv
      exact Nat.eq_of_mul_eq_mul_right (Nat.two_pow_pos c) hv
    obtain ⟨t1, t2, t3⟩ := frexp_tail r sb' e' f' hre d1 (by omega) d3
    have hlow : (double.order f 4503599627370496 == some .lt) = true := by
      have ra' : double.read f = .number false f (-1074) := by simpa using ra
      rw [ord_of ra' read_least (by omega) (by omega), cmp_lt, sc_false, sc_false]
      simp
      omega
    refine ⟨f, r, e', _, _, -52, 52 - c, by omega, by omega, by omega, ?_, ?_, .inr ⟨rfl, hmul, hlow⟩, t1, t2, t3, ?_, ?_, ?_, ?_⟩
    · have := andNot_sign sb 0 f b1 (by omega) b3
      simpa using this
    · have ra' : double.read f = .number false f (-1074) := by simpa using ra
      exact not_above ra' (by omega) (by omega) (by omega)
    · rw [read_fields sb' 1022 f' d1 (by omega) d3, if_neg (by omega), if_neg (by omega), g1, hj]
      rfl
    · rw [← hj, c52]; omega
    · rw [← hj]; omega
    · omega
  · rw [if_neg h0] at hm' hi' ra
    rw [if_neg h0] at ra
    subst hm' hi'
    obtain ⟨t1, t2, t3⟩ := frexp_tail _ sb e f rfl b1 (by omega) b3
    have ra' : double.read (e * 4503599627370496 + f) = .number false (4503599627370496 + f) ((e : Int) - 1075) := by simpa using ra
    refine ⟨e * 4503599627370496 + f, _, e, _, _, 0, 0, by omega, by omega, by omega, andNot_sign sb e f b1 b2 b3, ?_, .inl ⟨rfl, rfl, ?_⟩, t1, t2, t3, ?_, ?_, ?_, ?_⟩
    · exact not_above ra' (by omega) (by omega) (by omega)
    · rw [ord_of ra' read_least (by omega) (by omega), cmp_lt, sc_false, sc_false]
      have p : 1 ≤ 2 ^ ((e : Int) - 1075 + 1074).toNat := Nat.two_pow_pos _
      have p2 : (4503599627370496 + f) * 1 ≤ (4503599627370496 + f) * 2 ^ ((e : Int) - 1075 + 1074).toNat := Nat.mul_le_mul_left _ p
      generalize (4503599627370496 + f) * 2 ^ ((e : Int) - 1075 + 1074).toNat = v at p2
      rw [show ((-1074 : Int) + 1074).toNat = 0 from by decide]
      simp; omega
    · rw [read_fields sb 1022 f b1 (by omega) b3, if_neg (by omega), if_neg (by omega), hs]
      simp
    · rw [Nat.pow_zero, c52]; omega
    · rw [Nat.pow_zero]; omega
    · omega
end Go.Proofs.YtfceeijdmilieaaGreatDoor.Fl
namespace Go.Proofs.YtfceeijdmilieaaGreatDoor.Fl
open Ieee

theorem odd_unique : ∀ (a b m n : Nat), 2 ^ a * (2 * m + 1) = 2 ^ b * (2 * n + 1) → a = b ∧ m = n
  | 0, 0, m, n, h => by simp at h; exact ⟨rfl, by omega⟩
  | 0, b + 1, m, n, h => by rw [Nat.pow_succ] at h; simp at h; exfalso; have : (2 * m + 1) % 2 = (2 ^ b * 2 * (2 * n + 1)) % 2 := by rw [h]
                            rw [Nat.mul_assoc, Nat.mul_left_comm, Nat.mul_mod_right] at this; omega
  | a + 1, 0, m, n, h => by rw [Nat.pow_succ] at h; simp at h; exfalso; have : (2 ^ a * 2 * (2 * m + 1)) % 2 = (2 * n + 1) % 2 := by rw [h]
                            rw [Nat.mul_assoc, Nat.mul_left_comm, Nat.mul_mod_right] at this; omega
  | a + 1, b + 1, m, n, h => by
    have h' : 2 ^ a * (2 * m + 1) = 2 ^ b * (2 * n + 1) := by
      rw [Nat.pow_succ, Nat.pow_succ, Nat.mul_comm (2 ^ a), Nat.mul_comm (2 ^ b), Nat.mul_assoc, Nat.mul_assoc] at h
      exact Nat.eq_of_mul_eq_mul_left (by omega) h
    obtain ⟨e1, e2⟩ := odd_unique a b m n h'
    exact ⟨by omega, e2⟩

/-- The word of a number with its sign, as an unsigned one. -/
def uw (s : Bool) (N : Nat) : Nat := if s then 18446744073709551616 - N else N

theorem uw_wrap (s : Bool) (N : Nat) (h0 : 0 < N) (h : N < 2 ^ 53) : IntKind.u64.wrap (sg s N) = ((uw s N : Nat) : Int) := by
  rw [IntKind.wrap_u64]
  cases s
  · simp only [sg, uw, Bool.false_eq_true, if_false]; omega
  · simp only [sg, uw, if_true]; omega

/-- The trailing zeros of N, below 2^53 and above 0: N = 2^t * (2 M + 1); those of its negative are the same. -/
theorem ctz_spec (s : Bool) (N : Nat) (h0 : 0 < N) (h : N < 2 ^ 53) : ∃ M, N = 2 ^ Lib.ctz 64 (uw s N) * (2 * M + 1) ∧ Lib.ctz 64 (uw s N) < 53 := by
  have hN0 : N ≠ 0 := by omega
  obtain ⟨M, hM, hlt⟩ := Lib.ctzFrom_spec 53 N h0 h
  generalize ht : Lib.ctzFrom 53 N = t at hM hlt
  have hu0 : uw s N ≠ 0 := by unfold uw; split <;> omega
  have hu64 : uw s N < 2 ^ 64 := by unfold uw; split <;> omega
  obtain ⟨M', hM', _⟩ := Lib.ctzFrom_spec 64 (uw s N) (by omega) hu64
  have e : Lib.ctz 64 (uw s N) = Lib.ctzFrom 64 (uw s N) := by unfold Lib.ctz; rw [if_neg hu0]
  rw [e]
  generalize Lib.ctzFrom 64 (uw s N) = t' at hM'
  have ht' : t = t' := by
    cases s
    · have : uw false N = N := rfl
      rw [this, hM] at hM'
      exact (odd_unique _ _ _ _ hM').1
    · have hu : uw true N = 18446744073709551616 - N := rfl
      obtain ⟨d, hd⟩ : ∃ d, 64 = t + (d + 1) := ⟨63 - t, by omega⟩
      have h64 : 18446744073709551616 = 2 ^ t * 2 ^ (d + 1) := by rw [← Nat.pow_add, ← hd]
      have hlt2 : 2 * M + 1 < 2 ^ (d + 1) := by
        have : 2 ^ t * (2 * M + 1) < 2 ^ t * 2 ^ (d + 1) := by rw [← hM, ← h64]; omega
        exact Nat.lt_of_mul_lt_mul_left this
      have : uw true N = 2 ^ t * (2 * (2 ^ d - M - 1) + 1) := by
        rw [hu, hM, h64, ← Nat.mul_sub]
        congr 1
        rw [Nat.pow_succ] at hlt2 ⊢
        omega
      rw [this] at hM'
      exact (odd_unique _ _ _ _ hM').1
  subst ht'
  exact ⟨M, hM, hlt⟩

theorem sg_shift (s : Bool) (t M : Nat) : sg s (2 ^ t * (2 * M + 1)) / 2 ^ t = sg s (2 * M + 1) := by
  have hp : (2 : Int) ^ t ≠ 0 := by have := pow_pos' t; omega
  cases s
  · simp only [sg, Bool.false_eq_true, if_false]
    push_cast
    exact Int.mul_ediv_cancel_left _ hp
  · simp only [sg, if_true]
    push_cast
    rw [← Int.mul_neg]
    exact Int.mul_ediv_cancel_left _ hp

theorem whole_of (q : Nat) (l : Int) (N : Nat) (hl : -1074 ≤ l) (h : q * 2 ^ (l + 1074).toNat = N * 2 ^ ((0 : Int) + 1074).toNat) : whole q l = N := by
  have hb := whole_bounds q l hl
  have hu := U_pos
  rw [sc_of false q l N 0 h, sc_whole] at hb
  have e : sg false N = (N : Int) := rfl
  rw [e] at hb
  have h1 := Int.le_of_mul_le_mul_right hb.1 hu
  have h2 := Int.lt_of_mul_lt_mul_right hb.2 (by omega)
  omega

theorem xor_sign (r : Nat) (h : r < 9223372036854775808) : r ^^^ 9223372036854775808 = 9223372036854775808 + r ∧ (9223372036854775808 + r) ^^^ 9223372036854775808 = r := by
  have e : r ^^^ 2 ^ 63 = 2 ^ 63 + r := by
    apply Nat.eq_of_testBit_eq
    intro i
    rw [Nat.testBit_xor, Nat.testBit_two_pow]
    by_cases hi : i = 63
    · subst hi
      rw [Nat.testBit_two_pow_add_eq]
      have : r.testBit 63 = false := Nat.testBit_lt_two_pow (by rw [c63]; exact h)
      simp [this]
    · by_cases hlt : i < 63
      · rw [Nat.testBit_two_pow_add_gt hlt]
        have : (63 : Nat) ≠ i := by omega
        simp [this]
      · have h1 : r.testBit i = false := Nat.testBit_lt_two_pow (Nat.lt_of_lt_of_le (by rw [← c63] at h; exact h) (Nat.pow_le_pow_right (by omega) (by omega)))
        have h2 : (2 ^ 63 + r).testBit i = false := Nat.testBit_lt_two_pow (Nat.lt_of_lt_of_le (show 2 ^ 63 + r < 2 ^ 64 from by rw [c63]; omega) (Nat.pow_le_pow_right (by omega) (by omega)))
        have : (63 : Nat) ≠ i := by omega
        rw [h1, h2]; simp [this]
  rw [c63] at e
  refine ⟨e, ?_⟩
  rw [← e, Nat.xor_assoc, Nat.xor_self, Nat.xor_zero]

theorem neg_is (x : Nat) : Op.negFloat .f64 x = x ^^^ 9223372036854775808 := by
  unfold Op.negFloat
  have : FloatKind.f64.format.exponentBits + FloatKind.f64.format.fractionBits = 63 := rfl
  rw [this, c63]

theorem fields_lt (e f : Nat) (b2 : e < 2048) (b3 : f < 4503599627370496) : e * 4503599627370496 + f < 9223372036854775808 := by
  have h : e * 4503599627370496 ≤ 2047 * 4503599627370496 := Nat.mul_le_mul_right _ (by omega)
  omega

theorem read_neg (x : Nat) (hx : x < 18446744073709551616) : double.read (Op.negFloat .f64 x) = (double.read x).opposite := by
  rw [neg_is]
  obtain ⟨sb, e, f, rfl, b1, b2, b3⟩ := fields x hx
  have hs : sb = 0 ∨ sb = 1 := by omega
  have hb : e * 4503599627370496 + f < 9223372036854775808 := fields_lt e f b2 b3
  have key : (sb * 9223372036854775808 + e * 4503599627370496 + f) ^^^ 9223372036854775808 = (1 - sb) * 9223372036854775808 + e * 4503599627370496 + f := by
    rcases hs with rfl | rfl
    · have := (xor_sign (e * 4503599627370496 + f) hb).1
      rw [show 0 * 9223372036854775808 + e * 4503599627370496 + f = e * 4503599627370496 + f from by rw [Nat.zero_mul, Nat.zero_add], this]
      show _ = 1 * 9223372036854775808 + e * 4503599627370496 + f
      rw [Nat.one_mul, Nat.add_assoc]
    · have := (xor_sign (e * 4503599627370496 + f) hb).2
      rw [show 1 * 9223372036854775808 + e * 4503599627370496 + f = 9223372036854775808 + (e * 4503599627370496 + f) from by rw [Nat.one_mul, Nat.add_assoc], this]
      show _ = 0 * 9223372036854775808 + e * 4503599627370496 + f
      rw [Nat.zero_mul, Nat.zero_add]
  rw [key]
  by_cases he : e < 2047
  · rw [read_fields _ e f (by omega) he b3, read_fields sb e f b1 he b3]
    rcases hs with rfl | rfl <;> rfl
  · have : e = 2047 := by omega
    subst this
    rw [read_inf_fields _ f (by omega) b3, read_inf_fields sb f b1 b3]
    rcases hs with rfl | rfl <;> by_cases hf : f = 0 <;> simp [hf, Datum.opposite]
end Go.Proofs.YtfceeijdmilieaaGreatDoor.Fl
namespace Go.Proofs.YtfceeijdmilieaaGreatDoor.Fl
open Ieee

/-- The same, whatever the place. -/
theorem nearest_exactB (B : Nat) (hB : 1074 ≤ B) (neg : Bool) (mag : Nat) (place : Int) (m : Nat) (p : Int) (h0 : mag ≠ 0) (hpl : -(B : Int) ≤ place) (hm : m < 2 ^ 53) (hp1 : -1074 ≤ p) (hp2 : p ≤ 971)
    (he : mag * 2 ^ (place + (B : Int)).toNat = m * 2 ^ (p + (B : Int)).toNat) :
    ∃ q l, double.read (double.nearest neg mag place) = .number neg q l ∧ -1074 ≤ l ∧ l ≤ 971 ∧ q * 2 ^ (l + (B : Int)).toNat = mag * 2 ^ (place + (B : Int)).toNat := by
  have hl : double.leastPlace = -1074 := by decide
  have hf : double.fractionBits = 52 := rfl
  have hm0 : m ≠ 0 := by
    intro e; subst e
    have := Nat.two_pow_pos (place + (B : Int)).toNat
    rw [Nat.zero_mul] at he
    rcases Nat.mul_eq_zero.1 he with h | h <;> omega
  have hlog : mag.log2 + (place + (B : Int)).toNat = m.log2 + (p + (B : Int)).toNat := by
    rw [← log2_shift mag _ h0, ← log2_shift m _ hm0, he]
  have hm52 : m.log2 ≤ 52 := by
    have := (Nat.log2_lt hm0).2 hm
    omega
  unfold Format.nearest
  rw [if_neg h0]
  dsimp only
  rw [hf]
  obtain ⟨last, hlast⟩ : ∃ last : Int, last = max (place + ↑mag.log2 - ((52 : Nat) : Int)) double.leastPlace := ⟨_, rfl⟩
  rw [← hlast]
  rw [hl] at hlast
  have l1 : -1074 ≤ last := by omega
  have l2 : last ≤ 971 := by omega
  -- what is kept, exactly
  obtain ⟨kept, hk, hv⟩ : ∃ kept, Toward.even.cut neg (mag <<< (place - last).toNat) (last - place).toNat = kept ∧ kept * 2 ^ (last + (B : Int)).toNat = mag * 2 ^ (place + (B : Int)).toNat := by
    by_cases hc : last ≤ place
    · refine ⟨_, rfl, ?_⟩
      have e0 : (last - place).toNat = 0 := by omega
      rw [e0, cut_zero_drop, Nat.shiftLeft_eq, Nat.mul_assoc, ← Nat.pow_add]
      congr 2; omega
    · have e0 : (place - last).toNat = 0 := by omega
      rw [e0, Nat.shiftLeft_zero]
      obtain ⟨d, hd⟩ : ∃ d, d = (last - place).toNat := ⟨_, rfl⟩
      rw [← hd]
      have hd2 : d ≤ mag.log2 + 2 := by omega
      -- 2^d divides mag
      have hdiv : ∃ q, mag = q * 2 ^ d := by
        obtain ⟨c, hcc⟩ : ∃ c, c = (p - place).toNat := ⟨_, rfl⟩
        have e1 : (p + (B : Int)).toNat = c + (place + (B : Int)).toNat := by omega
        rw [e1, Nat.pow_add, ← Nat.mul_assoc] at he
        have e2 := Nat.eq_of_mul_eq_mul_right (Nat.two_pow_pos _) he
        refine ⟨m * 2 ^ (c - d), ?_⟩
        rw [e2, Nat.mul_assoc, ← Nat.pow_add]
        congr 2; omega
      obtain ⟨q, hq⟩ := hdiv
      refine ⟨q, ?_, ?_⟩
      · unfold Toward.cut
        dsimp only
        rw [Nat.min_eq_left hd2, Nat.one_shiftLeft]
        have hpd := Nat.two_pow_pos d
        have m1 : mag / 2 ^ d = q := by rw [hq]; exact Nat.mul_div_cancel _ hpd
        have m2 : mag % 2 ^ d = 0 := by rw [hq]; exact Nat.mul_mod_left _ _
        have m3 : (2 ^ d == 0) = false := by simp
        rw [m1, m2]
        simp
      · rw [hq, Nat.mul_assoc, ← Nat.pow_add]
        congr 2; omega
  rw [hk]
  have hk0 : kept ≠ 0 := by
    intro e; subst e
    have := Nat.two_pow_pos (place + (B : Int)).toNat
    rw [Nat.zero_mul] at hv
    rcases Nat.mul_eq_zero.1 hv.symm with h | h <;> omega
  have hklog : kept.log2 + (last + (B : Int)).toNat = mag.log2 + (place + (B : Int)).toNat := by
    rw [← log2_shift mag _ h0, ← log2_shift kept _ hk0, hv]
  have k1 : kept < 2 ^ 53 := by
    apply (Nat.log2_lt hk0).1; omega
  have k2 : last = -1074 ∨ 2 ^ 52 ≤ kept := by
    by_cases h : last = -1074
    · exact .inl h
    · right
      exact (Nat.le_log2 hk0).1 (by omega)
  exact ⟨kept, last, read_word neg kept last l1 l2 k1 k2, l1, l2, hv⟩



theorem mul_exactB (B : Nat) (hB : 1074 ≤ B) {x y : Nat} {s t : Bool} {m n : Nat} {i j : Int} (hx : double.read x = .number s m i) (hy : double.read y = .number t n j) (h0 : m * n ≠ 0) (hij : -(B : Int) ≤ i + j)
    (m' : Nat) (p : Int) (hm : m' < 2 ^ 53) (hp1 : -1074 ≤ p) (hp2 : p ≤ 971) (he : (m * n) * 2 ^ (i + j + (B : Int)).toNat = m' * 2 ^ (p + (B : Int)).toNat) :
    ∃ r q l, floatBits .mul .f64 x y = some r ∧ double.read r = .number (s ^^ t) q l ∧ -1074 ≤ l ∧ l ≤ 971 ∧ q * 2 ^ (l + 1074).toNat = m' * 2 ^ (p + 1074).toNat := by
  obtain ⟨q, l, h1, h2, h3, h4⟩ := nearest_exactB B hB (s ^^ t) (m * n) (i + j) m' p h0 hij hm hp1 hp2 he
  refine ⟨double.nearest (s ^^ t) (m * n) (i + j), q, l, ?_, h1, h2, h3, ?_⟩
  · show ((double.read x).product (double.read y)).map double.write = _
    rw [hx, hy]
    rfl
  · have h := h4.trans he
    obtain ⟨c, hc⟩ : ∃ c : Nat, B = 1074 + c := ⟨B - 1074, by omega⟩
    have e1 : (l + (B : Int)).toNat = (l + 1074).toNat + c := by omega
    have e2 : (p + (B : Int)).toNat = (p + 1074).toNat + c := by omega
    rw [e1, e2, Nat.pow_add, Nat.pow_add, ← Nat.mul_assoc, ← Nat.mul_assoc] at h
    exact Nat.eq_of_mul_eq_mul_right (Nat.two_pow_pos c) h

/-- x is the positive float m * 2^p. -/
def St (x m : Nat) (p : Int) : Prop := ∃ q l, double.read x = .number false q l ∧ -1074 ≤ l ∧ l ≤ 971 ∧ q < 2 ^ 53 ∧ q * 2 ^ (l + 1074).toNat = m * 2 ^ (p + 1074).toNat

theorem st_of {r q : Nat} {l : Int} {m : Nat} {p : Int} (h1 : double.read r = .number false q l) (h2 : -1074 ≤ l) (h3 : l ≤ 971) (h4 : q * 2 ^ (l + 1074).toNat = m * 2 ^ (p + 1074).toNat) : St r m p := by
  refine ⟨q, l, h1, h2, h3, ?_, h4⟩
  rcases read_cases r with ⟨s, m', i, hr, _, _, hm, _⟩ | ⟨s, hr⟩ | ⟨s, t, hr⟩
  · rw [hr] at h1; injection h1 with _ e _; rw [← e]; exact hm
  · rw [hr] at h1; cases h1
  · rw [hr] at h1; cases h1

theorem st_pos {x m : Nat} {p : Int} (h : St x m p) (hm : m ≠ 0) : ∃ q l, double.read x = .number false q l ∧ -1074 ≤ l ∧ l ≤ 971 ∧ q < 2 ^ 53 ∧ q ≠ 0 ∧ q * 2 ^ (l + 1074).toNat = m * 2 ^ (p + 1074).toNat := by
  obtain ⟨q, l, h1, h2, h3, h4, h5⟩ := h
  refine ⟨q, l, h1, h2, h3, h4, ?_, h5⟩
  intro e; subst e
  rw [Nat.zero_mul] at h5
  have := Nat.two_pow_pos (p + 1074).toNat
  rcases Nat.mul_eq_zero.1 h5.symm with h | h <;> omega

theorem pw (q a b : Nat) : q * 2 ^ a * 2 ^ b = q * 2 ^ (a + b) := by rw [Nat.mul_assoc, ← Nat.pow_add]

/-- Doubled. -/
theorem st_double {x m : Nat} {p : Int} (h : St x m p) (hm : m ≠ 0) (hm2 : m < 2 ^ 53) (hp : -1074 ≤ p) (hp2 : p ≤ 970) : ∃ r, floatBits .mul .f64 x 4611686018427387904 = some r ∧ St r m (p + 1) := by
  obtain ⟨q, l, h1, h2, h3, h4, h5, h6⟩ := st_pos h hm
  obtain ⟨r, q', l', a1, a2, a3, a4, a5⟩ := mul_exactB 1200 (by omega) h1 read_two (by omega) (by omega) m (p + 1) hm2 (by omega) (by omega) (by
    have e1 : (l + -51 + ((1200 : Nat) : Int)).toNat = (l + 1074).toNat + 75 := by omega
    have e2 : (p + 1 + ((1200 : Nat) : Int)).toNat = (p + 1074).toNat + 127 := by omega
    rw [e1, e2, ← pw m, ← h6, ← c52, pw, pw]
    congr 2; omega)
  exact ⟨r, a1, st_of a2 a3 a4 a5⟩

/-- Halved, where the half is a number of the format. -/
theorem st_half {x m : Nat} {p : Int} (h : St x m p) (hm : m ≠ 0) (hm2 : m < 2 ^ 53) (hp : -1073 ≤ p) (hp2 : p ≤ 972) : ∃ r, floatBits .mul .f64 x 4602678819172646912 = some r ∧ St r m (p - 1) := by
  obtain ⟨q, l, h1, h2, h3, h4, h5, h6⟩ := st_pos h hm
  obtain ⟨r, q', l', a1, a2, a3, a4, a5⟩ := mul_exactB 1200 (by omega) h1 read_half (by omega) (by omega) m (p - 1) hm2 (by omega) (by omega) (by
    have e1 : (l + -53 + ((1200 : Nat) : Int)).toNat = (l + 1074).toNat + 73 := by omega
    have e2 : (p - 1 + ((1200 : Nat) : Int)).toNat = (p + 1074).toNat + 125 := by omega
    rw [e1, e2, ← pw m, ← h6, ← c52, pw, pw]
    congr 2; omega)
  exact ⟨r, a1, st_of a2 a3 a4 a5⟩

/-- The order of two such floats. -/
theorem st_order {x y m n : Nat} {p r : Int} (h : St x m p) (k : St y n r) : double.order x y = some (compare ((m * 2 ^ (p + 1074).toNat : Nat) : Int) ((n * 2 ^ (r + 1074).toNat : Nat) : Int)) := by
  obtain ⟨q, l, h1, h2, _, _, h6⟩ := h
  obtain ⟨q', l', k1, k2, _, _, k6⟩ := k
  rw [ord_of h1 k1 h2 k2, sc_false, sc_false, h6, k6]

/-- The half is never the number itself. -/
theorem half_ne {x m : Nat} {p : Int} (h : St x m p) (hm : m ≠ 0) : ∃ r, floatBits .mul .f64 x 4602678819172646912 = some r ∧ (double.order r x == some .eq) = false := by
  obtain ⟨q, l, h1, h2, h3, h4, h5, h6⟩ := st_pos h hm
  have hs : St x q l := ⟨q, l, h1, h2, h3, h4, rfl⟩
  have fin : ∀ r n k, -1074 ≤ k → floatBits .mul .f64 x 4602678819172646912 = some r → St r n k → n * 2 ^ (k + 1074).toNat < q * 2 ^ (l + 1074).toNat → ∃ r, floatBits .mul .f64 x 4602678819172646912 = some r ∧ (double.order r x == some .eq) = false := by
    intro r n k _ hr hst hlt
    refine ⟨r, hr, ?_⟩
    rw [st_order hst hs, cmp_eq]
    generalize n * 2 ^ (k + 1074).toNat = a at *
    generalize q * 2 ^ (l + 1074).toNat = b at *
    simp; omega
  by_cases hl : -1073 ≤ l
  · obtain ⟨r, hr, hst⟩ := st_half hs h5 h4 hl (by omega)
    refine fin r q (l - 1) (by omega) hr hst ?_
    have e : (l + 1074).toNat = (l - 1 + 1074).toNat + 1 := by omega
    rw [e, ← pw]
    have : 0 < q * 2 ^ (l - 1 + 1074).toNat := Nat.mul_pos (by omega) (Nat.two_pow_pos _)
    omega
  · have hl' : l = -1074 := by omega
    subst hl'
    -- a subnormal: rounded to even
    have hz : ((-1074 : Int) + 1074).toNat = 0 := by decide
    refine ⟨double.nearest (false ^^ false) (q * 4503599627370496) (-1074 + -53), ?_, ?_⟩
    · show ((double.read x).product (double.read 4602678819172646912)).map double.write = _
      rw [h1, read_half]; rfl
    · have hq : q * 4503599627370496 ≠ 0 := by omega
      have hlog : (q * 4503599627370496).log2 = q.log2 + 52 := by
        have := log2_shift q 52 h5
        rw [c52] at this; exact this
      have hq53 : q.log2 < 53 := (Nat.log2_lt h5).2 h4
      have key : double.read (double.nearest (false ^^ false) (q * 4503599627370496) (-1074 + -53)) = .number false (q / 2 + (decide (q % 2 = 1) && (q / 2 % 2 == 1)).toNat) (-1074) := by
        unfold Format.nearest
        rw [if_neg hq]
        dsimp only
        have hf : double.fractionBits = 52 := rfl
        have hlp : double.leastPlace = -1074 := by decide
        rw [hf, hlp, hlog]
        have hlast : max (-1074 + -53 + ((q.log2 + 52 : Nat) : Int) - ((52 : Nat) : Int)) (-1074) = -1074 := by omega
        rw [hlast]
        have hcut : Toward.even.cut (false ^^ false) ((q * 4503599627370496) <<< (-1074 + -53 - -1074 : Int).toNat) (-1074 - (-1074 + -53) : Int).toNat = q / 2 + (decide (q % 2 = 1) && (q / 2 % 2 == 1)).toNat := by
          rw [show (-1074 + -53 - -1074 : Int).toNat = 0 from by decide, show (-1074 - (-1074 + -53) : Int).toNat = 53 from by decide, Nat.shiftLeft_zero]
          unfold Toward.cut
          dsimp only
          rw [hlog, Nat.min_eq_left (by omega), Nat.one_shiftLeft, show (2 : Nat) ^ 53 = 9007199254740992 from by decide]
          have d1 : q * 4503599627370496 / 9007199254740992 = q / 2 := by omega
          have d2 : q * 4503599627370496 % 9007199254740992 = q % 2 * 4503599627370496 := by omega
          rw [d1, d2]
          have hb : q % 2 = 0 ∨ q % 2 = 1 := by omega
          rcases hb with h | h <;> simp [h]
        rw [hcut]
        have hrw := read_word (false ^^ false) (q / 2 + (decide (q % 2 = 1) && (q / 2 % 2 == 1)).toNat) (-1074) (by omega) (by omega) (by
          have : (decide (q % 2 = 1) && (q / 2 % 2 == 1)).toNat ≤ 1 := Bool.toNat_le _
          omega) (.inl rfl)
        rw [hlp] at hrw
        exact hrw
      rw [ord_of key h1 (by omega) (by omega), cmp_eq, sc_false, sc_false, hz, Nat.pow_zero, Nat.mul_one, Nat.mul_one]
      have hne : q / 2 + (decide (q % 2 = 1) && (q / 2 % 2 == 1)).toNat ≠ q := by
        by_cases h1 : q = 1
        · subst h1; decide
        · have : (decide (q % 2 = 1) && (q / 2 % 2 == 1)).toNat ≤ 1 := Bool.toNat_le _
          have hb : q % 2 = 0 ∨ q % 2 = 1 := by omega
          rcases hb with h | h
          · have : (decide (q % 2 = 1) && (q / 2 % 2 == 1)).toNat = 0 := by simp [h]
            omega
          · omega
      simp only [decide_eq_false_iff_not]
      omega
end Go.Proofs.YtfceeijdmilieaaGreatDoor.Fl
