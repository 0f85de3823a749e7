/-
  Doubles as whole multiples of 2^-1074: order, what is written exactly, cutting to a whole number. Plain mathematics over Ieee; nothing of the program.
-/
import Derived.Laws.FloatArith
namespace Go.Proofs.YtnjgebncghdajaaGreatDoor.Fl
open Ieee

/-- The value of a finite datum in units of 2^-1074. -/
def sc (s : Bool) (m : Nat) (i : Int) : Int := signed s m (i + 1074).toNat

theorem signed_eq (s : Bool) (m k : Nat) : signed s m k = (if s then -1 else 1) * ((m : Int) * (2 : Int) ^ k) := by
  unfold signed
  rw [Nat.shiftLeft_eq]
  cases s <;> simp <;> norm_cast

theorem pow_pos' (k : Nat) : (0 : Int) < (2 : Int) ^ k := Int.pow_pos (by omega)

theorem signed_scale (s : Bool) (m k c : Nat) : signed s m (k + c) = signed s m k * (2 : Int) ^ c := by
  rw [signed_eq, signed_eq, Int.pow_add]
  simp only [Int.mul_assoc]

theorem compare_scale (a b : Int) (c : Nat) : compare (a * (2 : Int) ^ c) (b * (2 : Int) ^ c) = compare a b := by
  have h := pow_pos' c
  simp only [compare, compareOfLessAndEq]
  have h1 : a * (2 : Int) ^ c < b * (2 : Int) ^ c ↔ a < b := Int.mul_lt_mul_right h
  have h2 : a * (2 : Int) ^ c = b * (2 : Int) ^ c ↔ a = b := Int.mul_eq_mul_right_iff (by omega)
  simp only [h1, h2]

theorem order_number (s t : Bool) (m n : Nat) (i j : Int) (hi : -1074 ≤ i) (hj : -1074 ≤ j) :
    Datum.order (.number s m i) (.number t n j) = some (compare (sc s m i) (sc t n j)) := by
  show some (compare (signed s m (i - min i j).toNat) (signed t n (j - min i j).toNat)) = _
  unfold sc
  obtain ⟨c, hc⟩ : ∃ c : Nat, c = (min i j + 1074).toNat := ⟨_, rfl⟩
  have e1 : (i + 1074).toNat = (i - min i j).toNat + c := by omega
  have e2 : (j + 1074).toNat = (j - min i j).toNat + c := by omega
  rw [e1, e2, signed_scale, signed_scale, compare_scale]

theorem cmp_eq (a b : Int) : (some (compare a b) == some Ordering.eq) = decide (a = b) := by
  simp only [compare, compareOfLessAndEq]
  by_cases h : a < b
  · have : ¬ a = b := by omega
    simp [h, this]
  · by_cases h2 : a = b <;> simp [h, h2]
theorem cmp_lt (a b : Int) : (some (compare a b) == some Ordering.lt) = decide (a < b) := by
  simp only [compare, compareOfLessAndEq]
  by_cases h : a < b
  · simp [h]
  · by_cases h2 : a = b <;> simp [h, h2]
theorem cmp_gt (a b : Int) : (some (compare a b) == some Ordering.gt) = decide (b < a) := by
  simp only [compare, compareOfLessAndEq]
  by_cases h : a < b
  · have : ¬ b < a := by omega
    simp [h, this]
  · by_cases h2 : a = b
    · simp [h2]
    · have : b < a := by omega
      simp [h, h2, this]

/-- What a word of 64 bits reads as. -/
theorem read_cases (x : Nat) : (∃ s m i, double.read x = .number s m i ∧ -1074 ≤ i ∧ i ≤ 971 ∧ m < 2 ^ 53 ∧ (i = -1074 ∨ 2 ^ 52 ≤ m)) ∨ (∃ s, double.read x = .infinity s) ∨ (∃ s t, double.read x = .nan s t) := by
  unfold Format.read
  have hb : double.binade = 4503599627370496 := by decide
  have hr : double.infRung = 9218868437227405312 := by decide
  have hl : double.leastPlace = -1074 := by decide
  dsimp only
  rw [hb, hr, hl]
  generalize x % double.signWeight = r
  generalize (x / double.signWeight % 2 == 1) = s
  by_cases h1 : r < 4503599627370496
  · left
    exact ⟨s, r, -1074, by rw [if_pos h1], by omega, by omega, by omega, .inl rfl⟩
  · by_cases h2 : r < 9218868437227405312
    · left
      refine ⟨s, _, _, by rw [if_neg h1, if_pos h2], by omega, by omega, by omega, .inr (by omega)⟩
    · by_cases h3 : r = 9218868437227405312
      · right; left; exact ⟨s, by rw [if_neg h1, if_neg h2, if_pos h3]⟩
      · right; right; exact ⟨s, _, by rw [if_neg h1, if_neg h2, if_neg h3]⟩


theorem log2_shift (m k : Nat) (h : m ≠ 0) : (m * 2 ^ k).log2 = m.log2 + k := by
  induction k with
  | zero => simp
  | succ k ih =>
    rw [Nat.pow_succ, ← Nat.mul_assoc, Nat.mul_comm _ 2, Nat.log2_two_mul (Nat.mul_ne_zero h (by have := Nat.two_pow_pos k; omega)), ih]
    omega

theorem cut_zero_drop (way : Toward) (neg : Bool) (n : Nat) : way.cut neg n 0 = n := by
  unfold Toward.cut
  cases way <;> simp [Nat.mod_one]

/-- The rung of a number that the format has, read again. -/
theorem read_word (neg : Bool) (kept : Nat) (last : Int) (h1 : -1074 ≤ last) (h2 : last ≤ 971) (h3 : kept < 2 ^ 53) (h4 : last = -1074 ∨ 2 ^ 52 ≤ kept) :
    double.read (double.word neg (min ((last - double.leastPlace).toNat * double.binade + kept) double.infRung)) = .number neg kept last := by
  have hb : double.binade = 4503599627370496 := by decide
  have hr : double.infRung = 9218868437227405312 := by decide
  have hl : double.leastPlace = -1074 := by decide
  have hs : double.signWeight = 9223372036854775808 := by decide
  rw [hl, hb, hr]
  obtain ⟨p, hp⟩ : ∃ p : Nat, p = (last - -1074).toNat := ⟨_, rfl⟩
  rw [← hp]
  have hlast : last = (p : Int) - 1074 := by omega
  have hmin : min (p * 4503599627370496 + kept) 9218868437227405312 = p * 4503599627370496 + kept := by
    apply Nat.min_eq_left; omega
  rw [hmin]
  unfold Format.read Format.word
  dsimp only
  rw [hb, hr, hl, hs]
  have hw : ∀ r : Nat, r < 9223372036854775808 → (if neg = true then 9223372036854775808 + r else r) % 9223372036854775808 = r := by
    intro r h; cases neg <;> simp <;> omega
  have hn : ∀ r : Nat, r < 9223372036854775808 → ((if neg = true then 9223372036854775808 + r else r) / 9223372036854775808 % 2 == 1) = neg := by
    intro r h
    cases neg
    · have : r / 9223372036854775808 % 2 = 0 := by omega
      simp [this]
    · have : (9223372036854775808 + r) / 9223372036854775808 % 2 = 1 := by omega
      rw [if_pos rfl, this]; rfl
  rw [hw _ (by omega), hn _ (by omega)]
  by_cases hz : p * 4503599627370496 + kept < 4503599627370496
  · rw [if_pos hz]
    have : p = 0 := by omega
    subst this
    simp [hlast]
  · rw [if_neg hz, if_pos (by omega)]
    congr 1
    · omega
    · omega

/-- A number that the format has is written exactly: what is read again has the same value and sign. -/
theorem nearest_exact (neg : Bool) (mag : Nat) (place : Int) (m : Nat) (p : Int) (h0 : mag ≠ 0) (hpl : -1074 ≤ place) (hm : m < 2 ^ 53) (hp1 : -1074 ≤ p) (hp2 : p ≤ 971)
    (he : mag * 2 ^ (place + 1074).toNat = m * 2 ^ (p + 1074).toNat) :
    ∃ q l, double.read (double.nearest neg mag place) = .number neg q l ∧ -1074 ≤ l ∧ l ≤ 971 ∧ q * 2 ^ (l + 1074).toNat = mag * 2 ^ (place + 1074).toNat := by
  have hl : double.leastPlace = -1074 := by decide
  have hf : double.fractionBits = 52 := rfl
  have hm0 : m ≠ 0 := by
    intro e; subst e
    have := Nat.two_pow_pos (place + 1074).toNat
    rw [Nat.zero_mul] at he
    rcases Nat.mul_eq_zero.1 he with h | h <;> omega
  have hlog : mag.log2 + (place + 1074).toNat = m.log2 + (p + 1074).toNat := by
    rw [← log2_shift mag _ h0, ← log2_shift m _ hm0, he]
  have hm52 : m.log2 ≤ 52 := by
    have := (Nat.log2_lt hm0).2 hm
    omega
  unfold Format.nearest
  rw [if_neg h0]
  dsimp only
  rw [hf]
  obtain ⟨last, hlast⟩ : ∃ last : Int, last = max (place + ↑mag.log2 - ((52 : Nat) : Int)) double.leastPlace := ⟨_, rfl⟩
  rw [← hlast]
  rw [hl] at hlast
  have l1 : -1074 ≤ last := by omega
  have l2 : last ≤ 971 := by omega
  -- what is kept, exactly
  obtain ⟨kept, hk, hv⟩ : ∃ kept, Toward.even.cut neg (mag <<< (place - last).toNat) (last - place).toNat = kept ∧ kept * 2 ^ (last + 1074).toNat = mag * 2 ^ (place + 1074).toNat := by
    by_cases hc : last ≤ place
    · refine ⟨_, rfl, ?_⟩
      have e0 : (last - place).toNat = 0 := by omega
      rw [e0, cut_zero_drop, Nat.shiftLeft_eq, Nat.mul_assoc, ← Nat.pow_add]
      congr 2; omega
    · have e0 : (place - last).toNat = 0 := by omega
      rw [e0, Nat.shiftLeft_zero]
      obtain ⟨d, hd⟩ : ∃ d, d = (last - place).toNat := ⟨_, rfl⟩
      rw [← hd]
      have hd2 : d ≤ mag.log2 + 2 := by omega
      -- 2^d divides mag
      have hdiv : ∃ q, mag = q * 2 ^ d := by
        obtain ⟨c, hcc⟩ : ∃ c, c = (p - place).toNat := ⟨_, rfl⟩
        have e1 : (p + 1074).toNat = c + (place + 1074).toNat := by omega
        rw [e1, Nat.pow_add, ← Nat.mul_assoc] at he
        have e2 := Nat.eq_of_mul_eq_mul_right (Nat.two_pow_pos _) he
        refine ⟨m * 2 ^ (c - d), ?_⟩
        rw [e2, Nat.mul_assoc, ← Nat.pow_add]
        congr 2; omega
      obtain ⟨q, hq⟩ := hdiv
      refine ⟨q, ?_, ?_⟩
      · unfold Toward.cut
        dsimp only
        rw [Nat.min_eq_left hd2, Nat.one_shiftLeft]
        have hpd := Nat.two_pow_pos d
        have m1 : mag / 2 ^ d = q := by rw [hq]; exact Nat.mul_div_cancel _ hpd
        have m2 : mag % 2 ^ d = 0 := by rw [hq]; exact Nat.mul_mod_left _ _
        have m3 : (2 ^ d == 0) = false := by simp
        rw [m1, m2]
        simp
      · rw [hq, Nat.mul_assoc, ← Nat.pow_add]
        congr 2; omega
  rw [hk]
  have hk0 : kept ≠ 0 := by
    intro e; subst e
    have := Nat.two_pow_pos (place + 1074).toNat
    rw [Nat.zero_mul] at hv
    rcases Nat.mul_eq_zero.1 hv.symm with h | h <;> omega
  have hklog : kept.log2 + (last + 1074).toNat = mag.log2 + (place + 1074).toNat := by
    rw [← log2_shift mag _ h0, ← log2_shift kept _ hk0, hv]
  have k1 : kept < 2 ^ 53 := by
    apply (Nat.log2_lt hk0).1; omega
  have k2 : last = -1074 ∨ 2 ^ 52 ≤ kept := by
    by_cases h : last = -1074
    · exact .inl h
    · right
      exact (Nat.le_log2 hk0).1 (by omega)
  exact ⟨kept, last, read_word neg kept last l1 l2 k1 k2, l1, l2, hv⟩


theorem nearest_zero (neg : Bool) (place : Int) : double.read (double.nearest neg 0 place) = .number neg 0 (-1074) := by
  cases neg <;> (unfold Format.nearest; rw [if_pos rfl]; decide)

theorem sc_of (s : Bool) (q : Nat) (l : Int) (mag : Nat) (place : Int) (h : q * 2 ^ (l + 1074).toNat = mag * 2 ^ (place + 1074).toNat) : sc s q l = sc s mag place := by
  unfold sc signed
  rw [Nat.shiftLeft_eq, Nat.shiftLeft_eq, h]

theorem sc_zero (s : Bool) (i : Int) : sc s 0 i = 0 := by
  unfold sc signed
  rw [Nat.shiftLeft_eq, Nat.zero_mul]
  cases s <;> rfl

/-- The unit: 1 in units of 2^-1074. -/
def U : Int := (2 : Int) ^ 1074
theorem U_pos : 0 < U := pow_pos' _

/-- A whole number with its sign. -/
def sg (s : Bool) (n : Nat) : Int := if s then -(n : Int) else n
theorem sc_whole (s : Bool) (n : Nat) : sc s n 0 = sg s n * U := by
  unfold sc sg U
  rw [signed_eq]
  have : ((0 : Int) + 1074).toNat = 1074 := by decide
  rw [this]
  generalize (2 : Int) ^ 1074 = u
  cases s
  · simp
  · simp [Int.neg_mul]

/-- A whole number that is written exactly: |n| is q * 2^c with q below 2^53 and c at most 971. -/
def Fits (n : Nat) : Prop := ∃ q c : Nat, n = q * 2 ^ c ∧ q < 2 ^ 53 ∧ c ≤ 971
theorem fits_small {n : Nat} (h : n < 2 ^ 53) : Fits n := ⟨n, 0, by simp, h, by omega⟩

theorem nearest_whole (neg : Bool) (n : Nat) (h : Fits n) : ∃ q l, double.read (double.nearest neg n 0) = .number neg q l ∧ -1074 ≤ l ∧ sc neg q l = sg neg n * U := by
  by_cases h0 : n = 0
  · subst h0
    exact ⟨0, -1074, nearest_zero _ _, by omega, by rw [sc_zero]; cases neg <;> simp [sg]⟩
  · obtain ⟨q, c, rfl, hq, hc⟩ := h
    obtain ⟨q', l, hr, h1, _, hv⟩ := nearest_exact neg (q * 2 ^ c) 0 q c h0 (by omega) hq (by omega) (by omega) (by
      rw [Nat.mul_assoc, ← Nat.pow_add]; congr 2)
    exact ⟨q', l, hr, h1, by rw [sc_of neg q' l _ 0 hv, sc_whole]⟩

/-- The whole part, towards zero. -/
def whole (m : Nat) (i : Int) : Nat := if 0 ≤ i then m * 2 ^ i.toNat else m / 2 ^ (-i).toNat

theorem cut_whole (s : Bool) (m : Nat) (i : Int) : Toward.zero.cut s (m <<< i.toNat) (-i).toNat = whole m i := by
  unfold whole
  by_cases h : 0 ≤ i
  · have e : (-i).toNat = 0 := by omega
    rw [if_pos h, e, cut_zero_drop, Nat.shiftLeft_eq]
  · have e : i.toNat = 0 := by omega
    rw [if_neg h, e, Nat.shiftLeft_zero]
    unfold Toward.cut
    dsimp only
    generalize (-i).toNat = d
    rw [Nat.one_shiftLeft]
    by_cases hd : d ≤ m.log2 + 2
    · rw [Nat.min_eq_left hd]; simp
    · rw [Nat.min_eq_right (by omega)]
      have h1 : m < 2 ^ (m.log2 + 2) := by
        by_cases h0 : m = 0
        · subst h0; simp
        · exact (Nat.log2_lt h0).1 (by omega)
      have h2 : m < 2 ^ d := Nat.lt_of_lt_of_le h1 (Nat.pow_le_pow_right (by omega) (by omega))
      rw [Nat.div_eq_of_lt h1, Nat.div_eq_of_lt h2]; simp

theorem toInt_number (s : Bool) (m : Nat) (i : Int) : (Datum.number s m i).toInt .zero = some (sg s (whole m i)) := by
  show some (signed s (Toward.zero.cut s (m <<< i.toNat) (-i).toNat) 0) = _
  rw [cut_whole]
  unfold signed sg
  cases s <;> simp

theorem integral_number (s : Bool) (m : Nat) (i : Int) : (Datum.number s m i).integral .zero = .number s (whole m i) 0 := by
  show Datum.number s (Toward.zero.cut s (m <<< i.toNat) (-i).toNat) 0 = _
  rw [cut_whole]

theorem fits_whole (m : Nat) (i : Int) (hm : m < 2 ^ 53) (hi : i ≤ 971) : Fits (whole m i) := by
  unfold whole
  by_cases h : 0 ≤ i
  · rw [if_pos h]; exact ⟨m, i.toNat, rfl, hm, by omega⟩
  · rw [if_neg h]
    exact fits_small (Nat.lt_of_le_of_lt (Nat.div_le_self _ _) hm)

/-- The whole part lies between zero and the number, less than one away; and where it is another number the number is small. -/
theorem whole_bounds (m : Nat) (i : Int) (hi : -1074 ≤ i) : (whole m i : Int) * U ≤ sc false m i ∧ sc false m i < ((whole m i : Int) + 1) * U := by
  unfold sc U whole
  rw [signed_eq]
  by_cases h : 0 ≤ i
  · rw [if_pos h]
    have e : (i + 1074).toNat = i.toNat + 1074 := by omega
    rw [e, Int.pow_add]
    have hp := pow_pos' 1074
    generalize (2 : Int) ^ 1074 = u at hp
    have e2 : ((m * 2 ^ i.toNat : Nat) : Int) = (m : Int) * 2 ^ i.toNat := by norm_cast
    rw [e2]
    simp only [Bool.false_eq_true, if_false, Int.one_mul, ← Int.mul_assoc, Int.add_mul]
    generalize (m : Int) * 2 ^ i.toNat * u = z
    omega
  · rw [if_neg h]
    obtain ⟨d, hd⟩ : ∃ d, d = (-i).toNat := ⟨_, rfl⟩
    rw [← hd]
    obtain ⟨kk, hkk⟩ : ∃ kk : Nat, kk = 1074 := ⟨_, rfl⟩
    rw [← hkk]
    have e : kk = (i + (kk : Int)).toNat + d := by omega
    have e' : ((1074 : Int)) = (kk : Int) := by omega
    rw [e']
    generalize (i + (kk : Int)).toNat = k at e
    rw [e, Int.pow_add]
    have h1 := Nat.div_add_mod m (2 ^ d)
    have h2 := Nat.mod_lt m (Nat.two_pow_pos d)
    generalize m / 2 ^ d = q at h1
    have hk := pow_pos' k
    simp only [Bool.false_eq_true, if_false, Int.one_mul]
    have e1 : (q : Int) * ((2 : Int) ^ k * 2 ^ d) = ((2 ^ d * q : Nat) : Int) * 2 ^ k := by
      push_cast; rw [Int.mul_comm ((2 : Int) ^ k), ← Int.mul_assoc, Int.mul_comm (q : Int)]
    have e2 : ((q : Int) + 1) * ((2 : Int) ^ k * 2 ^ d) = ((2 ^ d * q + 2 ^ d : Nat) : Int) * 2 ^ k := by
      rw [Int.add_mul, e1]; push_cast; rw [Int.add_mul, Int.one_mul, Int.mul_comm ((2 : Int) ^ k)]
    rw [e1, e2]
    exact ⟨Int.mul_le_mul_of_nonneg_right (by omega) (by omega), Int.mul_lt_mul_of_pos_right (by omega) hk⟩

theorem sc_neg (m : Nat) (i : Int) : sc true m i = - sc false m i := by
  unfold sc signed; simp

theorem whole_small (m : Nat) (i : Int) (hm : m < 2 ^ 53) (hne : (whole m i : Int) * U ≠ sc false m i) : whole m i < 2 ^ 52 := by
  by_cases h : 0 ≤ i
  · exfalso; apply hne
    unfold sc U whole
    rw [signed_eq, if_pos h]
    have e : (i + 1074).toNat = i.toNat + 1074 := by omega
    rw [e, Int.pow_add]
    generalize (2 : Int) ^ 1074 = u
    push_cast
    simp [Int.mul_assoc]
  · unfold whole
    rw [if_neg h]
    obtain ⟨d, hd⟩ : ∃ d, (-i).toNat = d + 1 := ⟨(-i).toNat - 1, by omega⟩
    rw [hd, Nat.pow_succ, Nat.mul_comm, ← Nat.div_div_eq_div_mul]
    refine Nat.lt_of_le_of_lt (Nat.div_le_self _ _) (by omega)


theorem sg_natAbs (s : Bool) (k : Nat) : (sg s k).natAbs = k := by cases s <;> simp [sg]
theorem sg_again (n : Int) : sg (decide (n < 0)) n.natAbs = n := by
  by_cases h : n < 0 <;> simp [sg, h] <;> omega

theorem ord_of {x y : Nat} {s t : Bool} {m n : Nat} {i j : Int} (hx : double.read x = .number s m i) (hy : double.read y = .number t n j) (hi : -1074 ≤ i) (hj : -1074 ≤ j) :
    double.order x y = some (compare (sc s m i) (sc t n j)) := by
  unfold Format.order
  rw [hx, hy, order_number s t m n i j hi hj]

theorem read_c63 : double.read 4890909195324358656 = .number false 4503599627370496 11 := by decide
theorem read_m63 : double.read 14114281232179134464 = .number true 4503599627370496 11 := by decide
theorem read_one : double.read 4607182418800017408 = .number false 4503599627370496 (-52) := by decide
theorem read_nil : double.read 0 = .number false 0 (-1074) := by decide

theorem sc_c63 : sc false 4503599627370496 11 = 9223372036854775808 * U := by
  unfold sc U
  rw [signed_eq]
  have : ((11 : Int) + 1074).toNat = 11 + 1074 := by decide
  rw [this, Int.pow_add]
  generalize (2 : Int) ^ 1074 = u
  simp; omega
theorem sc_m63 : sc true 4503599627370496 11 = -(9223372036854775808 * U) := by rw [sc_neg, sc_c63]
theorem sc_one : sc false 4503599627370496 (-52) = U := by
  unfold sc U
  rw [signed_eq]
  have h : ((-52 : Int) + 1074).toNat = 1022 := by decide
  have h2 : (1074 : Nat) = 52 + 1022 := by decide
  rw [h, h2, Int.pow_add]
  generalize (2 : Int) ^ 1022 = u
  simp

/-- x is a whole number. -/
def IsW (s : Bool) (m : Nat) (i : Int) : Prop := sc s m i = sg s (whole m i) * U

theorem toIntVal {x : Nat} {s : Bool} {m : Nat} {i : Int} (hx : double.read x = .number s m i) (hi : -1074 ≤ i) (h1 : -(9223372036854775808 * U) ≤ sc s m i) (h2 : sc s m i < 9223372036854775808 * U) :
    floatToIntVal .f64 x .i64 = some (sg s (whole m i)) := by
  have hd : (FloatKind.f64.decode x).toInt .zero = some (sg s (whole m i)) := by
    show (double.read x).toInt .zero = _
    rw [hx, toInt_number]
  have hb := whole_bounds m i hi
  have hu := U_pos
  have key : IntKind.i64.min ≤ sg s (whole m i) ∧ sg s (whole m i) ≤ IntKind.i64.max := by
    have e1 : IntKind.i64.min = -9223372036854775808 := by decide
    have e2 : IntKind.i64.max = 9223372036854775807 := by decide
    rw [e1, e2]
    generalize whole m i = k at *
    cases s
    · have hlt : (k : Int) * U < 9223372036854775808 * U := by omega
      have := Int.lt_of_mul_lt_mul_right hlt (by omega)
      simp only [sg, Bool.false_eq_true, if_false]; omega
    · rw [sc_neg] at h1
      have hlt : (k : Int) * U ≤ 9223372036854775808 * U := by omega
      have := Int.le_of_mul_le_mul_right hlt hu
      simp only [sg, if_true]; omega
  unfold floatToIntVal
  rw [hd]
  simp only
  rw [if_pos key]

/-- The trunc's word, held against the number. -/
theorem ord_trunc {x : Nat} {s : Bool} {m : Nat} {i : Int} (hx : double.read x = .number s m i) (hi : -1074 ≤ i) (hi2 : i ≤ 971) (hm : m < 2 ^ 53) :
    (double.order x (double.nearest s (whole m i) 0) == some .eq) = decide (sc s m i = sg s (whole m i) * U) := by
  obtain ⟨q, l, hr, hl, hv⟩ := nearest_whole s (whole m i) (fits_whole m i hm hi2)
  rw [ord_of hx hr hi hl, cmp_eq, hv]

theorem ord_float {x : Nat} {s : Bool} {m : Nat} {i : Int} (hx : double.read x = .number s m i) (hi : -1074 ≤ i) (hi2 : i ≤ 971) (hm : m < 2 ^ 53) :
    double.order x (double.nearest (decide (sg s (whole m i) < 0)) (sg s (whole m i)).natAbs 0) = some (compare (sc s m i) (sg s (whole m i) * U)) ∧
    double.order (double.nearest (decide (sg s (whole m i) < 0)) (sg s (whole m i)).natAbs 0) x = some (compare (sg s (whole m i) * U) (sc s m i)) := by
  obtain ⟨q, l, hr, hl, hv⟩ := nearest_whole (decide (sg s (whole m i) < 0)) (sg s (whole m i)).natAbs (by rw [sg_natAbs]; exact fits_whole m i hm hi2)
  rw [sg_again] at hv
  exact ⟨by rw [ord_of hx hr hi hl, hv], by rw [ord_of hr hx hl hi, hv]⟩

/-- 1 less, exactly, of a whole number that is not great. -/
theorem sub_one (n : Int) (h : -(2 ^ 52) < n) (h2 : n < 2 ^ 52) : ∃ r q l b, double.sub (double.nearest (decide (n < 0)) n.natAbs 0) 4607182418800017408 = some r ∧ double.read r = .number b q l ∧ -1074 ≤ l ∧ sc b q l = (n - 1) * U := by
  obtain ⟨q, l, hr, hl, hv⟩ := nearest_whole (decide (n < 0)) n.natAbs (fits_small (by omega))
  rw [sg_again] at hv
  unfold Format.sub
  rw [hr, read_one]
  simp only [Datum.opposite, Datum.sum, Option.map_some]
  obtain ⟨base, hbase⟩ : ∃ base : Int, base = min l (-52) := ⟨_, rfl⟩
  rw [← hbase]
  obtain ⟨tot, htot⟩ : ∃ tot : Int, tot = signed (decide (n < 0)) q (l - base).toNat + signed (!false) 4503599627370496 (-52 - base).toNat := ⟨_, rfl⟩
  rw [← htot]
  have hs : tot * (2 : Int) ^ (base + 1074).toNat = (n - 1) * U := by
    have e1 : signed (decide (n < 0)) q (l - base).toNat * (2 : Int) ^ (base + 1074).toNat = sc (decide (n < 0)) q l := by
      unfold sc; rw [← signed_scale]; congr 1; omega
    have e2 : signed (!false) 4503599627370496 (-52 - base).toNat * (2 : Int) ^ (base + 1074).toNat = -U := by
      rw [← sc_one, ← sc_neg]; unfold sc; rw [← signed_scale]; congr 1; omega
    rw [htot, Int.add_mul, e1, e2, hv, Int.sub_mul]; omega
  by_cases h0 : tot = 0
  · rw [h0, Int.zero_mul] at hs
    refine ⟨_, 0, -1074, (if tot = 0 then decide (n < 0) && !false else decide (tot < 0)), rfl, ?_, by omega, ?_⟩
    · show double.read (double.nearest _ tot.natAbs base) = _
      rw [show tot.natAbs = 0 from by omega]; exact nearest_zero _ _
    · rw [sc_zero, hs]
  · have hn1 : n - 1 ≠ 0 := by
      intro e; rw [e, Int.zero_mul] at hs
      have := pow_pos' (base + 1074).toNat
      rcases Int.mul_eq_zero.1 hs with h | h <;> omega
    have habs : tot.natAbs * 2 ^ (base + 1074).toNat = (n - 1).natAbs * 2 ^ ((0 : Int) + 1074).toNat := by
      have e : (tot * (2 : Int) ^ (base + 1074).toNat).natAbs = ((n - 1) * U).natAbs := by rw [hs]
      rw [Int.natAbs_mul, Int.natAbs_mul] at e
      have e0 : ((0 : Int) + 1074).toNat = 1074 := by decide
      rw [e0]
      unfold U at e
      have e3 : (2 : Int).natAbs = 2 := rfl
      rw [Int.natAbs_pow, Int.natAbs_pow, e3] at e
      exact e
    obtain ⟨q', l', hr', hl', _, hv'⟩ := nearest_exact (decide (tot < 0)) tot.natAbs base (n - 1).natAbs 0 (by omega) (by omega) (by omega) (by omega) (by omega) habs
    refine ⟨_, q', l', decide (tot < 0), rfl, ?_, hl', ?_⟩
    · show double.read (double.nearest (if tot = 0 then decide (n < 0) && !false else decide (tot < 0)) tot.natAbs base) = _
      rw [if_neg h0]; exact hr'
    · rw [sc_of _ q' l' _ base hv']
      unfold sc
      rw [← hs]
      rw [signed_eq]
      rw [← Int.mul_assoc]
      congr 1
      by_cases hneg : tot < 0 <;> simp [hneg] <;> omega

theorem floor_gt {x : Nat} {s : Bool} {m : Nat} {i : Int} (hx : double.read x = .number s m i) (hi : -1074 ≤ i) (hm : m < 2 ^ 53)
    (hgt : sc s m i < sg s (whole m i) * U) :
    ∃ r, floatBits .sub .f64 (double.nearest (decide (sg s (whole m i) < 0)) (sg s (whole m i)).natAbs 0) 4607182418800017408 = some r ∧ (double.order x r == some .eq) = false := by
  have hb := whole_bounds m i hi
  have hu := U_pos
  have hs : s = true := by
    cases s
    · exfalso; simp only [sg, Bool.false_eq_true, if_false] at hgt; omega
    · rfl
  subst hs
  have hsm := whole_small m i hm (by
    intro e; rw [sc_neg] at hgt
    simp only [sg, if_true] at hgt
    rw [Int.neg_mul] at hgt
    omega)
  obtain ⟨r, q, l, b, h1, h2, h3, h4⟩ := sub_one (sg true (whole m i)) (by simp only [sg, if_true]; omega) (by simp only [sg, if_true]; omega)
  refine ⟨r, h1, ?_⟩
  rw [ord_of hx h2 hi h3, cmp_eq, h4, sc_neg]
  simp only [sg, if_true]
  have e : (-(whole m i : Int) - 1) * U = -(((whole m i : Int) + 1) * U) := by rw [← Int.neg_mul]; congr 1; omega
  rw [e]
  simp; omega

end Go.Proofs.YtnjgebncghdajaaGreatDoor.Fl
