/-
  What Frexp comes to: the facts that its walk asks. The odd form of a number. Plain mathematics.
-/
import Derived.Test.YtglcaejddckleaaGreatDoorFltB
namespace Go.Proofs.YtglcaejddckleaaGreatDoor.Fl
open Ieee

/-- All that frexp's walk asks at x, and what comes out. -/
structure Fr (x : Nat) (s : Bool) (m : Nat) (i : Int) (ya y e0 z z2 : Nat) (k : Int) (j : Nat) : Prop where
  hk : -60 ≤ k
  hk2 : k ≤ 60
  he0 : e0 < 2048
  habs : bits BinOp.andNot IntKind.u64 (x : Int) 9223372036854775808 = (ya : Int)
  hin : (double.order ya 9218868437227405311 == some .gt) = false
  hnorm : (k = 0 ∧ y = x ∧ (double.order ya 4503599627370496 == some .lt) = false) ∨ (k = -52 ∧ floatBits .mul .f64 x 4841369599423283200 = some y ∧ (double.order ya 4503599627370496 == some .lt) = true)
  h1 : bits BinOp.and IntKind.u64 ((y : Int) / 4503599627370496) 2047 = (e0 : Int)
  h2 : bits BinOp.andNot IntKind.u64 (y : Int) 9218868437227405312 = (z : Int)
  h3 : bits BinOp.or IntKind.u64 (z : Int) 4602678819172646912 = (z2 : Int)
  rd : double.read z2 = .number s (m * 2 ^ j) (-53)
  lo : 2 ^ 52 ≤ m * 2 ^ j
  hi : m * 2 ^ j < 2 ^ 53
  ex : k + ((e0 : Int) - 1023 + 1) - 53 = i - j

theorem sb_beq (sb : Nat) (h : sb < 2) (s : Bool) (e : (sb == 1) = s) : sb = if s then 1 else 0 := by
  cases s <;> simp at e <;> simp <;> omega

theorem frexp_tail (y sb e f : Nat) (hy : y = sb * 9223372036854775808 + e * 4503599627370496 + f) (h1 : sb < 2) (h2 : e < 2048) (h3 : f < 4503599627370496) :
    bits BinOp.and IntKind.u64 ((y : Int) / 4503599627370496) 2047 = (e : Int) ∧
    bits BinOp.andNot IntKind.u64 (y : Int) 9218868437227405312 = ((sb * 9223372036854775808 + f : Nat) : Int) ∧
    bits BinOp.or IntKind.u64 ((sb * 9223372036854775808 + f : Nat) : Int) 4602678819172646912 = ((sb * 9223372036854775808 + 1022 * 4503599627370496 + f : Nat) : Int) := by
  subst hy
  refine ⟨?_, andNot_exp sb e f h1 h2 h3, or_exp sb f h1 h3⟩
  have q : (((sb * 9223372036854775808 + e * 4503599627370496 + f : Nat) : Int) / 4503599627370496) = ((sb * 2048 + e : Nat) : Int) := by omega
  rw [q, and_exp _ (by omega)]
  congr 1; omega

theorem frexp_facts (x : Nat) (hx : x < 18446744073709551616) (s : Bool) (m : Nat) (i : Int) (hr : double.read x = .number s m i) (hm : m ≠ 0) :
    ∃ ya y e0 z z2 k j, Fr x s m i ya y e0 z z2 k j := by
  obtain ⟨sb, e, f, rfl, b1, b2, b3⟩ := fields x hx
  have he : e < 2047 := by
    apply Nat.lt_of_le_of_ne (by omega)
    intro h; subst h
    rw [read_inf_fields sb f b1 b3] at hr
    split at hr <;> cases hr
  rw [read_fields sb e f b1 he b3] at hr
  injection hr with hs hm' hi'
  have ra : double.read (0 * 9223372036854775808 + e * 4503599627370496 + f) = _ := read_fields 0 e f (by omega) he b3
  rw [Nat.zero_mul, Nat.zero_add] at ra
  by_cases h0 : e = 0
  · subst h0
    simp only [if_true] at hm' hi' ra
    subst hm' hi'
    have hx' : double.read (sb * 9223372036854775808 + 0 * 4503599627370496 + f) = .number s f (-1074) := by
      rw [read_fields sb 0 f b1 (by omega) b3]; simp [hs]
    obtain ⟨r, q, l, hmul, hrd, hl1, hl2, hv⟩ := mul_exact hx' read_p52 (by omega) (by omega) f (-1022) (by omega) (by omega) (by omega) (by
      rw [show ((-1074 : Int) + 0 + 1074).toNat = 0 from by decide, show ((-1022 : Int) + 1074).toNat = 52 from by decide, Nat.pow_zero, Nat.mul_one, ← c52])
    rw [show ((-1022 : Int) + 1074).toNat = 52 from by decide] at hv
    have hr64 : r < 18446744073709551616 := by
      have := floatBits_wf hmul
      simpa [Lit.wf] using this
    obtain ⟨sb', e', f', hre, d1, d2, d3⟩ := fields r hr64
    have he' : e' < 2047 := by
      apply Nat.lt_of_le_of_ne (by omega)
      intro h
      rw [hre, h, read_inf_fields sb' f' d1 d3] at hrd
      split at hrd <;> cases hrd
    rw [hre, read_fields sb' e' f' d1 he' d3] at hrd
    injection hrd with g1 g2 g3
    have hne : e' ≠ 0 := by
      intro h; subst h
      simp only [if_true] at g2 g3
      subst g2 g3
      rw [show ((-1074 : Int) + 1074).toNat = 0 from by decide, Nat.pow_zero, Nat.mul_one, c52] at hv
      omega
    rw [if_neg hne] at g2 g3
    subst g2 g3
    rw [Bool.xor_false] at g1
    -- f * 2^j = 2^52 + f'
    obtain ⟨c, hc⟩ : ∃ c : Nat, c = ((e' : Int) - 1075 + 1074).toNat := ⟨_, rfl⟩
    rw [← hc] at hv
    have hc52 : c ≤ 52 := by
      apply Nat.le_of_not_lt
      intro hlt
      have p1 : 2 ^ 53 ≤ 2 ^ c := Nat.pow_le_pow_right (by omega) hlt
      have p2 : (4503599627370496 + f') * 2 ^ 53 ≤ (4503599627370496 + f') * 2 ^ c := Nat.mul_le_mul_left _ p1
      rw [c52] at hv
      omega
    have hj : 4503599627370496 + f' = f * 2 ^ (52 - c) := by
      have e1 : 2 ^ 52 = 2 ^ (52 - c) * 2 ^ c := by rw [← Nat.pow_add]; congr 1; omega
      rw [e1, ← Nat.mul_assoc] at hv
      exact Nat.eq_of_mul_eq_mul_right (Nat.two_pow_pos c) hv
    obtain ⟨t1, t2, t3⟩ := frexp_tail r sb' e' f' hre d1 (by omega) d3
    have hlow : (double.order f 4503599627370496 == some .lt) = true := by
      have ra' : double.read f = .number false f (-1074) := by simpa using ra
      rw [ord_of ra' read_least (by omega) (by omega), cmp_lt, sc_false, sc_false]
      simp
      omega
    refine ⟨f, r, e', _, _, -52, 52 - c, by omega, by omega, by omega, ?_, ?_, .inr ⟨rfl, hmul, hlow⟩, t1, t2, t3, ?_, ?_, ?_, ?_⟩
    · have := andNot_sign sb 0 f b1 (by omega) b3
      simpa using this
    · have ra' : double.read f = .number false f (-1074) := by simpa using ra
      exact not_above ra' (by omega) (by omega) (by omega)
    · rw [read_fields sb' 1022 f' d1 (by omega) d3, if_neg (by omega), if_neg (by omega), g1, hj]
      rfl
    · rw [← hj, c52]; omega
    · rw [← hj]; omega
    · omega
  · rw [if_neg h0] at hm' hi' ra
    rw [if_neg h0] at ra
    subst hm' hi'
    obtain ⟨t1, t2, t3⟩ := frexp_tail _ sb e f rfl b1 (by omega) b3
    have ra' : double.read (e * 4503599627370496 + f) = .number false (4503599627370496 + f) ((e : Int) - 1075) := by simpa using ra
    refine ⟨e * 4503599627370496 + f, _, e, _, _, 0, 0, by omega, by omega, by omega, andNot_sign sb e f b1 b2 b3, ?_, .inl ⟨rfl, rfl, ?_⟩, t1, t2, t3, ?_, ?_, ?_, ?_⟩
    · exact not_above ra' (by omega) (by omega) (by omega)
    · rw [ord_of ra' read_least (by omega) (by omega), cmp_lt, sc_false, sc_false]
      have p : 1 ≤ 2 ^ ((e : Int) - 1075 + 1074).toNat := Nat.two_pow_pos _
      have p2 : (4503599627370496 + f) * 1 ≤ (4503599627370496 + f) * 2 ^ ((e : Int) - 1075 + 1074).toNat := Nat.mul_le_mul_left _ p
      generalize (4503599627370496 + f) * 2 ^ ((e : Int) - 1075 + 1074).toNat = v at p2
      rw [show ((-1074 : Int) + 1074).toNat = 0 from by decide]
      simp; omega
    · rw [read_fields sb 1022 f b1 (by omega) b3, if_neg (by omega), if_neg (by omega), hs]
      simp
    · rw [Nat.pow_zero, c52]; omega
    · rw [Nat.pow_zero]; omega
    · omega
end Go.Proofs.YtglcaejddckleaaGreatDoor.Fl
