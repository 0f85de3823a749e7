/-
  Products by two and by a half, of whatever place; doubling and halving a float. Plain mathematics.
-/
import Derived.Test.YtglcaejddckleaaGreatDoorFltD
namespace Go.Proofs.YtglcaejddckleaaGreatDoor.Fl
open Ieee

/-- The same, whatever the place. -/
theorem nearest_exactB (B : Nat) (hB : 1074 ≤ B) (neg : Bool) (mag : Nat) (place : Int) (m : Nat) (p : Int) (h0 : mag ≠ 0) (hpl : -(B : Int) ≤ place) (hm : m < 2 ^ 53) (hp1 : -1074 ≤ p) (hp2 : p ≤ 971)
    (he : mag * 2 ^ (place + (B : Int)).toNat = m * 2 ^ (p + (B : Int)).toNat) :
    ∃ q l, double.read (double.nearest neg mag place) = .number neg q l ∧ -1074 ≤ l ∧ l ≤ 971 ∧ q * 2 ^ (l + (B : Int)).toNat = mag * 2 ^ (place + (B : Int)).toNat := by
  have hl : double.leastPlace = -1074 := by decide
  have hf : double.fractionBits = 52 := rfl
  have hm0 : m ≠ 0 := by
    intro e; subst e
    have := Nat.two_pow_pos (place + (B : Int)).toNat
    rw [Nat.zero_mul] at he
    rcases Nat.mul_eq_zero.1 he with h | h <;> omega
  have hlog : mag.log2 + (place + (B : Int)).toNat = m.log2 + (p + (B : Int)).toNat := by
    rw [← log2_shift mag _ h0, ← log2_shift m _ hm0, he]
  have hm52 : m.log2 ≤ 52 := by
    have := (Nat.log2_lt hm0).2 hm
    omega
  unfold Format.nearest
  rw [if_neg h0]
  dsimp only
  rw [hf]
  obtain ⟨last, hlast⟩ : ∃ last : Int, last = max (place + ↑mag.log2 - ((52 : Nat) : Int)) double.leastPlace := ⟨_, rfl⟩
  rw [← hlast]
  rw [hl] at hlast
  have l1 : -1074 ≤ last := by omega
  have l2 : last ≤ 971 := by omega
  -- what is kept, exactly
  obtain ⟨kept, hk, hv⟩ : ∃ kept, Toward.even.cut neg (mag <<< (place - last).toNat) (last - place).toNat = kept ∧ kept * 2 ^ (last + (B : Int)).toNat = mag * 2 ^ (place + (B : Int)).toNat := by
    by_cases hc : last ≤ place
    · refine ⟨_, rfl, ?_⟩
      have e0 : (last - place).toNat = 0 := by omega
      rw [e0, cut_zero_drop, Nat.shiftLeft_eq, Nat.mul_assoc, ← Nat.pow_add]
      congr 2; omega
    · have e0 : (place - last).toNat = 0 := by omega
      rw [e0, Nat.shiftLeft_zero]
      obtain ⟨d, hd⟩ : ∃ d, d = (last - place).toNat := ⟨_, rfl⟩
      rw [← hd]
      have hd2 : d ≤ mag.log2 + 2 := by omega
      -- 2^d divides mag
      have hdiv : ∃ q, mag = q * 2 ^ d := by
        obtain ⟨c, hcc⟩ : ∃ c, c = (p - place).toNat := ⟨_, rfl⟩
        have e1 : (p + (B : Int)).toNat = c + (place + (B : Int)).toNat := by omega
        rw [e1, Nat.pow_add, ← Nat.mul_assoc] at he
        have e2 := Nat.eq_of_mul_eq_mul_right (Nat.two_pow_pos _) he
        refine ⟨m * 2 ^ (c - d), ?_⟩
        rw [e2, Nat.mul_assoc, ← Nat.pow_add]
        congr 2; omega
      obtain ⟨q, hq⟩ := hdiv
      refine ⟨q, ?_, ?_⟩
      · unfold Toward.cut
        dsimp only
        rw [Nat.min_eq_left hd2, Nat.one_shiftLeft]
        have hpd := Nat.two_pow_pos d
        have m1 : mag / 2 ^ d = q := by rw [hq]; exact Nat.mul_div_cancel _ hpd
        have m2 : mag % 2 ^ d = 0 := by rw [hq]; exact Nat.mul_mod_left _ _
        have m3 : (2 ^ d == 0) = false := by simp
        rw [m1, m2]
        simp
      · rw [hq, Nat.mul_assoc, ← Nat.pow_add]
        congr 2; omega
  rw [hk]
  have hk0 : kept ≠ 0 := by
    intro e; subst e
    have := Nat.two_pow_pos (place + (B : Int)).toNat
    rw [Nat.zero_mul] at hv
    rcases Nat.mul_eq_zero.1 hv.symm with h | h <;> omega
  have hklog : kept.log2 + (last + (B : Int)).toNat = mag.log2 + (place + (B : Int)).toNat := by
    rw [← log2_shift mag _ h0, ← log2_shift kept _ hk0, hv]
  have k1 : kept < 2 ^ 53 := by
    apply (Nat.log2_lt hk0).1; omega
  have k2 : last = -1074 ∨ 2 ^ 52 ≤ kept := by
    by_cases h : last = -1074
    · exact .inl h
    · right
      exact (Nat.le_log2 hk0).1 (by omega)
  exact ⟨kept, last, read_word neg kept last l1 l2 k1 k2, l1, l2, hv⟩



theorem mul_exactB (B : Nat) (hB : 1074 ≤ B) {x y : Nat} {s t : Bool} {m n : Nat} {i j : Int} (hx : double.read x = .number s m i) (hy : double.read y = .number t n j) (h0 : m * n ≠ 0) (hij : -(B : Int) ≤ i + j)
    (m' : Nat) (p : Int) (hm : m' < 2 ^ 53) (hp1 : -1074 ≤ p) (hp2 : p ≤ 971) (he : (m * n) * 2 ^ (i + j + (B : Int)).toNat = m' * 2 ^ (p + (B : Int)).toNat) :
    ∃ r q l, floatBits .mul .f64 x y = some r ∧ double.read r = .number (s ^^ t) q l ∧ -1074 ≤ l ∧ l ≤ 971 ∧ q * 2 ^ (l + 1074).toNat = m' * 2 ^ (p + 1074).toNat := by
  obtain ⟨q, l, h1, h2, h3, h4⟩ := nearest_exactB B hB (s ^^ t) (m * n) (i + j) m' p h0 hij hm hp1 hp2 he
  refine ⟨double.nearest (s ^^ t) (m * n) (i + j), q, l, ?_, h1, h2, h3, ?_⟩
  · show ((double.read x).product (double.read y)).map double.write = _
    rw [hx, hy]
    rfl
  · have h := h4.trans he
    obtain ⟨c, hc⟩ : ∃ c : Nat, B = 1074 + c := ⟨B - 1074, by omega⟩
    have e1 : (l + (B : Int)).toNat = (l + 1074).toNat + c := by omega
    have e2 : (p + (B : Int)).toNat = (p + 1074).toNat + c := by omega
    rw [e1, e2, Nat.pow_add, Nat.pow_add, ← Nat.mul_assoc, ← Nat.mul_assoc] at h
    exact Nat.eq_of_mul_eq_mul_right (Nat.two_pow_pos c) h

/-- x is the positive float m * 2^p. -/
def St (x m : Nat) (p : Int) : Prop := ∃ q l, double.read x = .number false q l ∧ -1074 ≤ l ∧ l ≤ 971 ∧ q < 2 ^ 53 ∧ q * 2 ^ (l + 1074).toNat = m * 2 ^ (p + 1074).toNat

theorem st_of {r q : Nat} {l : Int} {m : Nat} {p : Int} (h1 : double.read r = .number false q l) (h2 : -1074 ≤ l) (h3 : l ≤ 971) (h4 : q * 2 ^ (l + 1074).toNat = m * 2 ^ (p + 1074).toNat) : St r m p := by
  refine ⟨q, l, h1, h2, h3, ?_, h4⟩
  rcases read_cases r with ⟨s, m', i, hr, _, _, hm, _⟩ | ⟨s, hr⟩ | ⟨s, t, hr⟩
  · rw [hr] at h1; injection h1 with _ e _; rw [← e]; exact hm
  · rw [hr] at h1; cases h1
  · rw [hr] at h1; cases h1

theorem st_pos {x m : Nat} {p : Int} (h : St x m p) (hm : m ≠ 0) : ∃ q l, double.read x = .number false q l ∧ -1074 ≤ l ∧ l ≤ 971 ∧ q < 2 ^ 53 ∧ q ≠ 0 ∧ q * 2 ^ (l + 1074).toNat = m * 2 ^ (p + 1074).toNat := by
  obtain ⟨q, l, h1, h2, h3, h4, h5⟩ := h
  refine ⟨q, l, h1, h2, h3, h4, ?_, h5⟩
  intro e; subst e
  rw [Nat.zero_mul] at h5
  have := Nat.two_pow_pos (p + 1074).toNat
  rcases Nat.mul_eq_zero.1 h5.symm with h | h <;> omega

theorem pw (q a b : Nat) : q * 2 ^ a * 2 ^ b = q * 2 ^ (a + b) := by rw [Nat.mul_assoc, ← Nat.pow_add]

/-- Doubled. -/
theorem st_double {x m : Nat} {p : Int} (h : St x m p) (hm : m ≠ 0) (hm2 : m < 2 ^ 53) (hp : -1074 ≤ p) (hp2 : p ≤ 970) : ∃ r, floatBits .mul .f64 x 4611686018427387904 = some r ∧ St r m (p + 1) := by
  obtain ⟨q, l, h1, h2, h3, h4, h5, h6⟩ := st_pos h hm
  obtain ⟨r, q', l', a1, a2, a3, a4, a5⟩ := mul_exactB 1200 (by omega) h1 read_two (by omega) (by omega) m (p + 1) hm2 (by omega) (by omega) (by
    have e1 : (l + -51 + ((1200 : Nat) : Int)).toNat = (l + 1074).toNat + 75 := by omega
    have e2 : (p + 1 + ((1200 : Nat) : Int)).toNat = (p + 1074).toNat + 127 := by omega
    rw [e1, e2, ← pw m, ← h6, ← c52, pw, pw]
    congr 2; omega)
  exact ⟨r, a1, st_of a2 a3 a4 a5⟩

/-- Halved, where the half is a number of the format. -/
theorem st_half {x m : Nat} {p : Int} (h : St x m p) (hm : m ≠ 0) (hm2 : m < 2 ^ 53) (hp : -1073 ≤ p) (hp2 : p ≤ 972) : ∃ r, floatBits .mul .f64 x 4602678819172646912 = some r ∧ St r m (p - 1) := by
  obtain ⟨q, l, h1, h2, h3, h4, h5, h6⟩ := st_pos h hm
  obtain ⟨r, q', l', a1, a2, a3, a4, a5⟩ := mul_exactB 1200 (by omega) h1 read_half (by omega) (by omega) m (p - 1) hm2 (by omega) (by omega) (by
    have e1 : (l + -53 + ((1200 : Nat) : Int)).toNat = (l + 1074).toNat + 73 := by omega
    have e2 : (p - 1 + ((1200 : Nat) : Int)).toNat = (p + 1074).toNat + 125 := by omega
    rw [e1, e2, ← pw m, ← h6, ← c52, pw, pw]
    congr 2; omega)
  exact ⟨r, a1, st_of a2 a3 a4 a5⟩

/-- The order of two such floats. -/
theorem st_order {x y m n : Nat} {p r : Int} (h : St x m p) (k : St y n r) : double.order x y = some (compare ((m * 2 ^ (p + 1074).toNat : Nat) : Int) ((n * 2 ^ (r + 1074).toNat : Nat) : Int)) := by
  obtain ⟨q, l, h1, h2, _, _, h6⟩ := h
  obtain ⟨q', l', k1, k2, _, _, k6⟩ := k
  rw [ord_of h1 k1 h2 k2, sc_false, sc_false, h6, k6]

/-- The half is never the number itself. -/
theorem half_ne {x m : Nat} {p : Int} (h : St x m p) (hm : m ≠ 0) : ∃ r, floatBits .mul .f64 x 4602678819172646912 = some r ∧ (double.order r x == some .eq) = false := by
  obtain ⟨q, l, h1, h2, h3, h4, h5, h6⟩ := st_pos h hm
  have hs : St x q l := ⟨q, l, h1, h2, h3, h4, rfl⟩
  have fin : ∀ r n k, -1074 ≤ k → floatBits .mul .f64 x 4602678819172646912 = some r → St r n k → n * 2 ^ (k + 1074).toNat < q * 2 ^ (l + 1074).toNat → ∃ r, floatBits .mul .f64 x 4602678819172646912 = some r ∧ (double.order r x == some .eq) = false := by
    intro r n k _ hr hst hlt
    refine ⟨r, hr, ?_⟩
    rw [st_order hst hs, cmp_eq]
    generalize n * 2 ^ (k + 1074).toNat = a at *
    generalize q * 2 ^ (l + 1074).toNat = b at *
    simp; omega
  by_cases hl : -1073 ≤ l
  · obtain ⟨r, hr, hst⟩ := st_half hs h5 h4 hl (by omega)
    refine fin r q (l - 1) (by omega) hr hst ?_
    have e : (l + 1074).toNat = (l - 1 + 1074).toNat + 1 := by omega
    rw [e, ← pw]
    have : 0 < q * 2 ^ (l - 1 + 1074).toNat := Nat.mul_pos (by omega) (Nat.two_pow_pos _)
    omega
  · have hl' : l = -1074 := by omega
    subst hl'
    -- a subnormal: rounded to even
    have hz : ((-1074 : Int) + 1074).toNat = 0 := by decide
    refine ⟨double.nearest (false ^^ false) (q * 4503599627370496) (-1074 + -53), ?_, ?_⟩
    · show ((double.read x).product (double.read 4602678819172646912)).map double.write = _
      rw [h1, read_half]; rfl
    · have hq : q * 4503599627370496 ≠ 0 := by omega
      have hlog : (q * 4503599627370496).log2 = q.log2 + 52 := by
        have := log2_shift q 52 h5
        rw [c52] at this; exact this
      have hq53 : q.log2 < 53 := (Nat.log2_lt h5).2 h4
      have key : double.read (double.nearest (false ^^ false) (q * 4503599627370496) (-1074 + -53)) = .number false (q / 2 + (decide (q % 2 = 1) && (q / 2 % 2 == 1)).toNat) (-1074) := by
        unfold Format.nearest
        rw [if_neg hq]
        dsimp only
        have hf : double.fractionBits = 52 := rfl
        have hlp : double.leastPlace = -1074 := by decide
        rw [hf, hlp, hlog]
        have hlast : max (-1074 + -53 + ((q.log2 + 52 : Nat) : Int) - ((52 : Nat) : Int)) (-1074) = -1074 := by omega
        rw [hlast]
        have hcut : Toward.even.cut (false ^^ false) ((q * 4503599627370496) <<< (-1074 + -53 - -1074 : Int).toNat) (-1074 - (-1074 + -53) : Int).toNat = q / 2 + (decide (q % 2 = 1) && (q / 2 % 2 == 1)).toNat := by
          rw [show (-1074 + -53 - -1074 : Int).toNat = 0 from by decide, show (-1074 - (-1074 + -53) : Int).toNat = 53 from by decide, Nat.shiftLeft_zero]
          unfold Toward.cut
          dsimp only
          rw [hlog, Nat.min_eq_left (by omega), Nat.one_shiftLeft, show (2 : Nat) ^ 53 = 9007199254740992 from by decide]
          have d1 : q * 4503599627370496 / 9007199254740992 = q / 2 := by omega
          have d2 : q * 4503599627370496 % 9007199254740992 = q % 2 * 4503599627370496 := by omega
          rw [d1, d2]
          have hb : q % 2 = 0 ∨ q % 2 = 1 := by omega
          rcases hb with h | h <;> simp [h]
        rw [hcut]
        have hrw := read_word (false ^^ false) (q / 2 + (decide (q % 2 = 1) && (q / 2 % 2 == 1)).toNat) (-1074) (by omega) (by omega) (by
          have : (decide (q % 2 = 1) && (q / 2 % 2 == 1)).toNat ≤ 1 := Bool.toNat_le _
          omega) (.inl rfl)
        rw [hlp] at hrw
        exact hrw
      rw [ord_of key h1 (by omega) (by omega), cmp_eq, sc_false, sc_false, hz, Nat.pow_zero, Nat.mul_one, Nat.mul_one]
      have hne : q / 2 + (decide (q % 2 = 1) && (q / 2 % 2 == 1)).toNat ≠ q := by
        by_cases h1 : q = 1
        · subst h1; decide
        · have : (decide (q % 2 = 1) && (q / 2 % 2 == 1)).toNat ≤ 1 := Bool.toNat_le _
          have hb : q % 2 = 0 ∨ q % 2 = 1 := by omega
          rcases hb with h | h
          · have : (decide (q % 2 = 1) && (q / 2 % 2 == 1)).toNat = 0 := by simp [h]
            omega
          · omega
      simp only [decide_eq_false_iff_not]
      omega
end Go.Proofs.YtglcaejddckleaaGreatDoor.Fl
