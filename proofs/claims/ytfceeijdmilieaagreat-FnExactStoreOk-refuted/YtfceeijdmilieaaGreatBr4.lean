/-
  HashF, HashG, HashH, HashI, HashJ, HashK.
-/
import Derived.Test.YtfceeijdmilieaaGreatBr2
import Derived.Test.YtfceeijdmilieaaGreatBr3
import Derived.Test.YtfceeijdmilieaaGreatBr0
import Derived.Test.YtfceeijdmilieaaGreatBr1
namespace Go.Proofs.YtfceeijdmilieaaGreat
open Go.RowKit
set_option linter.unusedVariables false

/-- The model's floor at a positive finite float: the same where it is whole. -/
theorem floor_fin (x : Nat) (q : Nat) (l : Int) (hr : Ieee.double.read x = .number false q l) (hl : -1074 ≤ l) (hl2 : l ≤ 971) (hq : q < 2 ^ 53) :
    ∃ r, (FloatKind.f64.format.order x r == some .eq) = isW x ∧ ∀ w : World, Calls Tryz.prog 86 #[.float .f64 x] w fun e w' => e = .returned (.float .f64 r) ∧ w' = w := by
  by_cases ha : asIs x = true
  · refine ⟨x, ?_, fun w => floor_same x w ha⟩
    have e : (FloatKind.f64.format.order x x == some .eq) = true := by
      show (Ieee.double.order x x == some .eq) = true
      rw [Fl.ord_of hr hr hl hl, Fl.cmp_eq]; simp
    have hn : fnan x = false := by
      show (!(FloatKind.f64.format.order x x == some .eq)) = false
      rw [e]; rfl
    rw [e]
    by_cases hlt : ltB x = true
    · have hge : geB x = true := by
        show (Ieee.double.order x 14114281232179134464 == some .gt || Ieee.double.order x 14114281232179134464 == some .eq) = true
        rw [Fl.ord_of hr Fl.read_m63 hl (by omega), Fl.sc_m63, Fl.cmp_gt, Fl.cmp_eq, Fl.sc_false]
        have := Fl.U_pos
        have h0 : (0 : Int) ≤ ((q * 2 ^ (l + 1074).toNat : Nat) : Int) := Int.natCast_nonneg _
        simp only [Bool.or_eq_true, decide_eq_true_eq]
        left; omega
      exact (asIs_whole ha hn hge hlt).symm
    · have hge : 9223372036854775808 * Fl.U ≤ Fl.sc false q l := by
        have h : (Ieee.double.order x 4890909195324358656 == some .lt) = false := (by simpa using hlt : ltB x = false)
        rw [Fl.ord_of hr Fl.read_c63 hl (by omega), Fl.sc_c63, Fl.cmp_lt] at h
        simpa using h
      have hw : isW x = decide (Fl.sc false q l = Fl.sg false (Fl.whole q l) * Fl.U) := by unfold isW; rw [hr]
      rw [hw]
      have hu := Fl.U_pos
      by_cases hne : (Fl.whole q l : Int) * Fl.U = Fl.sc false q l
      · have e : Fl.sg false (Fl.whole q l) = (Fl.whole q l : Int) := rfl
        rw [e, hne]; simp
      · exfalso
        have hs := Fl.whole_small q l hq hne
        have hb := Fl.whole_bounds q l hl
        have : ((Fl.whole q l : Int) + 1) * Fl.U ≤ 9223372036854775808 * Fl.U := Int.mul_le_mul_of_nonneg_right (by omega) (by omega)
        omega
  · have ha' : asIs x = false := by simpa using ha
    exact floor_else x ha'

/-- Whole, told of m * 2^p. -/
def wh (m : Nat) (p : Int) : Prop := ∃ N, m * 2 ^ (p + 1074).toNat = N * 2 ^ ((0 : Int) + 1074).toNat

theorem isW_iff {x m : Nat} {p : Int} (h : Fl.St x m p) : isW x = true ↔ wh m p := by
  obtain ⟨q, l, h1, h2, h3, h4, h6⟩ := h
  have hw : isW x = decide (Fl.sc false q l = Fl.sg false (Fl.whole q l) * Fl.U) := by unfold isW; rw [h1]
  have e : Fl.sg false (Fl.whole q l) = (Fl.whole q l : Int) := rfl
  rw [hw, decide_eq_true_eq, e]
  constructor
  · intro k
    refine ⟨Fl.whole q l, ?_⟩
    rw [← h6]
    have k' := k
    rw [Fl.sc_false, ← e, ← Fl.sc_whole, Fl.sc_false] at k'
    exact Int.ofNat.inj k'
  · rintro ⟨N, hN⟩
    have := Fl.whole_of q l N h2 (h6.trans hN)
    rw [this, ← show Fl.sg false N = (N : Int) from rfl, ← Fl.sc_whole]
    exact Fl.sc_of false q l N 0 (h6.trans hN)

theorem wh_nonneg (m : Nat) (p : Int) (hp : 0 ≤ p) : wh m p := by
  refine ⟨m * 2 ^ p.toNat, ?_⟩
  rw [Fl.pw]; congr 2; omega

/-- The floor of such a float, and whether it is the same. -/
theorem floor_st {x m : Nat} {p : Int} (h : Fl.St x m p) : ∃ r, ((FloatKind.f64.format.order x r == some .eq) = true ↔ wh m p) ∧ ∀ w : World, Calls Tryz.prog 86 #[.float .f64 x] w fun e w' => e = .returned (.float .f64 r) ∧ w' = w := by
  obtain ⟨q, l, h1, h2, h3, h4, h6⟩ := id h
  obtain ⟨r, hr, hc⟩ := floor_fin x q l h1 h2 h3 h4
  exact ⟨r, by rw [hr]; exact isW_iff h, hc⟩

/-- A whole one is a number N; where its half is not whole N is odd. -/
theorem wh_odd {m : Nat} {p : Int} (h : wh m p) (hm : m ≠ 0) (hp : -1073 ≤ p) (hn : ¬ wh m (p - 1)) : ∃ M, m * 2 ^ (p + 1074).toNat = (2 * M + 1) * 2 ^ ((0 : Int) + 1074).toNat := by
  obtain ⟨N, hN⟩ := h
  by_cases hodd : N % 2 = 1
  · exact ⟨N / 2, by rw [hN]; congr 1; omega⟩
  · exfalso; apply hn
    refine ⟨N / 2, ?_⟩
    have e : (p + 1074).toNat = (p - 1 + 1074).toNat + 1 := by omega
    rw [e, ← Fl.pw, Nat.pow_one] at hN
    obtain ⟨K, hK⟩ : ∃ K, N = K * 2 := ⟨N / 2, by omega⟩
    have e3 : N / 2 = K := by omega
    rw [hK, Nat.mul_right_comm K 2] at hN
    rw [e3]
    exact Nat.eq_of_mul_eq_mul_right (by omega) hN

theorem wh_low {m : Nat} {p : Int} (h : wh m p) (hm : m ≠ 0) (hm2 : m < 2 ^ 53) (hp : -1074 ≤ p) : -53 < p := by
  obtain ⟨N, hN⟩ := h
  apply Int.lt_of_not_ge
  intro hle
  have hN0 : N ≠ 0 := by
    intro e; subst e
    rw [Nat.zero_mul] at hN
    have := Nat.two_pow_pos (p + 1074).toNat
    rcases Nat.mul_eq_zero.1 hN with h | h <;> omega
  obtain ⟨c, hc⟩ : ∃ c : Nat, ((0 : Int) + 1074).toNat = (p + 1074).toNat + (53 + c) := ⟨(-p).toNat - 53, by omega⟩
  rw [hc, Nat.add_comm (p + 1074).toNat, ← Fl.pw] at hN
  have h2 := Nat.eq_of_mul_eq_mul_right (Nat.two_pow_pos _) hN
  rw [Nat.pow_add, Nat.mul_comm (2 ^ 53), ← Nat.mul_assoc] at h2
  have : 1 ≤ N * 2 ^ c := Nat.mul_pos (by omega) (Nat.two_pow_pos c)
  have : 1 * 2 ^ 53 ≤ N * 2 ^ c * 2 ^ 53 := Nat.mul_le_mul_right _ this
  omega

theorem odd_of {m : Nat} {i p : Int} {M : Nat} (h : m * 2 ^ (p + 1074).toNat = (2 * M + 1) * 2 ^ ((0 : Int) + 1074).toNat) (hp : -1074 ≤ p) : OddF m i M (i - p) := by
  by_cases h0 : 0 ≤ p
  · refine ⟨p.toNat, 0, ?_, by omega⟩
    rw [show (p + 1074).toNat = p.toNat + ((0 : Int) + 1074).toNat from by omega, ← Fl.pw] at h
    rw [Nat.eq_of_mul_eq_mul_right (Nat.two_pow_pos _) h]; simp
  · refine ⟨0, (-p).toNat, ?_, by omega⟩
    rw [show ((0 : Int) + 1074).toNat = (-p).toNat + (p + 1074).toNat from by omega, ← Fl.pw] at h
    rw [← Nat.eq_of_mul_eq_mul_right (Nat.two_pow_pos _) h]; simp

set_option maxHeartbeats 400000 in
theorem l1nan_no (x : Nat) (w : World) (h : (FloatKind.f64.format.order x x != some .eq) = false) :
    Calls Tryz.prog 85 #[.float .f64 x] w fun e w' => e = .returned (.bool false) ∧ w' = w := by
  go_enter Tryz.func85, Tryz.ntmps85
  go_wp2
  go_ret
  exact ⟨rfl, rfl⟩

set_option maxHeartbeats 400000 in
theorem decimal_neg (n : Nat) (h0 : 0 < n) (hn : n < 9007199254740992) (w : World) :
    Calls Tryz.prog 93 #[.int .i64 (-(n : Int))] w fun e w' => e = .returned (.string ⟨(45 :: Lib.decDigits n).toArray⟩) ∧ Below w.heap.size w w' := by
  have hl := digits_len n (by omega)
  have hlt : (0 : Int) < (n : Int) := by omega
  go_enter Tryz.func93, Tryz.ntmps93
  go_wp2_with (go_at_call 93; refine (decimal_pos n hn _).mono ?_; rintro e w1 ⟨rfl, hb⟩)
  go_ret
  refine ⟨ret_str ?_, hb⟩
  exact ba_append [45] (Lib.decDigits n)

theorem decimal_any (n : Int) (h1 : -9007199254740992 < n) (h2 : n < 9007199254740992) (w : World) :
    Calls Tryz.prog 93 #[.int .i64 n] w fun e w' => e = .returned (.string ⟨(Lib.itoa n).toArray⟩) ∧ Below w.heap.size w w' := by
  by_cases h : n < 0
  · obtain ⟨k, rfl⟩ : ∃ k : Nat, n = -(k : Int) := ⟨n.natAbs, by omega⟩
    have e : Lib.itoa (-(k : Int)) = 45 :: Lib.decDigits k := by unfold Lib.itoa; rw [if_pos h]; simp
    rw [e]
    exact decimal_neg k (by omega) (by omega) w
  · obtain ⟨k, rfl⟩ : ∃ k : Nat, n = (k : Int) := ⟨n.toNat, by omega⟩
    have e : Lib.itoa (k : Int) = Lib.decDigits k := by unfold Lib.itoa; rw [if_neg h]; simp
    rw [e]
    exact decimal_pos k (by omega) w

theorem ftext_eq (s : Bool) (M : Nat) (E : Int) : ftext s (2 * M + 1) E = (if s then [45] else []) ++ Lib.itoa ((2 * M + 1 : Nat) : Int) ++ [112] ++ Lib.itoa E := by
  unfold ftext
  cases s
  · simp [Fl.sg]
  · have e1 : Lib.itoa (Fl.sg true (2 * M + 1)) = 45 :: Lib.decDigits (2 * M + 1) := by
      unfold Lib.itoa Fl.sg
      rw [if_pos rfl, if_pos (by omega)]
      congr 2
    have e2 : Lib.itoa ((2 * M + 1 : Nat) : Int) = Lib.decDigits (2 * M + 1) := by
      unfold Lib.itoa
      rw [if_neg (by omega)]; rfl
    rw [e1, e2]; simp
end Go.Proofs.YtfceeijdmilieaaGreat
namespace Go.Proofs.YtfceeijdmilieaaGreat
open Go.RowKit
set_option linter.unusedVariables false

set_option maxRecDepth 100000 in
set_option maxHeartbeats 4000000 in
theorem spec_text_pos (x y m r0 : Nat) (i : Int) (w : World) (hy : y = x) (hst : Fl.St y m i) (hm : m ≠ 0) (hm2 : m < 2 ^ 53) (hi : -1074 ≤ i) (hi2 : i ≤ 971)
    (g1 : (FloatKind.f64.format.order x x != some .eq) = false) (g2 : (FloatKind.f64.format.order x 0 == some .lt) = false) (g3 : (FloatKind.f64.format.order x 0 == some .eq) = false) (g4 : (FloatKind.f64.format.order y 0 == some .eq) = false)
    (hr0 : floatBits .mul .f64 y 4602678819172646912 = some r0) (g5 : (FloatKind.f64.format.order r0 y == some .eq) = false) :
    Calls Tryz.prog 91 #[.float .f64 x] w fun e w' => (∃ M E, OddF m i M E ∧ e = .returned (.string ⟨([] ++ Lib.itoa ((2 * M + 1 : Nat) : Int) ++ [112] ++ Lib.itoa E).toArray⟩)) ∧ Below w.heap.size w w' := by
  have hmul0 : ∀ w : World, (binOp .mul 83 (.float .f64 y) (.float .f64 4602678819172646912)).run Tryz.prog w = .ok (.float .f64 r0) w := fun w => run_float_arith w .mul 83 .f64 _ _ r0 hr0
  subst hy
  have G1 : Hid ((FloatKind.f64.format.order y y != some .eq) = false) := g1
  clear hr0
  go_enter Tryz.func91, Tryz.ntmps91
  go_wp2_with (go_at_call 85; refine (l1nan_no y _ G1.out).mono ?_; rintro e w1 ⟨rfl, rfl⟩)
  clear hmul0 g1 g2 g3 g4 g5 G1
  go_loop [0, 4] (fun f e => ∃ k v : Nat, k ≤ 1074 ∧ f = .float .f64 v ∧ e = .int .i64 (k : Int) ∧ Fl.St v m (i + k) ∧ i + k ≤ 971) (fun _ e => (-(i + intOf e)).toNat)
  case atStart => exact ⟨0, y, by omega, rfl, rfl, by simpa using hst, by omega⟩
  case round =>
    obtain ⟨k, v, hk, rfl, rfl, hs, hb⟩ := hrel
    obtain ⟨r, hiff, hc⟩ := floor_st hs
    have HC : Hid (∀ w : World, Calls Tryz.prog 86 #[.float .f64 v] w fun e w' => e = .returned (.float .f64 r) ∧ w' = w) := hc
    have HS : Hid (Fl.St v m (i + k)) := hs
    clear hc hs
    by_cases hwh : wh m (i + k)
    · have t1 : (FloatKind.f64.format.order v r != some .eq) = false := by simpa using hiff.2 hwh
      have HW : Hid (wh m (i + k)) := hwh
      clear hiff hwh
      go_wp2_with (go_at_call 86; refine (HC.out _).mono ?_; rintro e w1 ⟨rfl, rfl⟩)
      clear t1
      go_loop [0, 4] (fun f e => ∃ (v : Nat) (E : Int), f = .float .f64 v ∧ e = .int .i64 E ∧ Fl.St v m (i - E) ∧ wh m (i - E) ∧ i - E ≤ 971) (fun _ e => (i - intOf e + 60).toNat)
      case atStart => exact ⟨v, -(k : Int), rfl, by go_num, by rw [show i - -(k : Int) = i + k from by omega]; exact HS.out, by rw [show i - -(k : Int) = i + k from by omega]; exact HW.out, by omega⟩
      case round =>
        clear HC HS HW
        obtain ⟨v, E, rfl, rfl, hs, hw, hb⟩ := hrel
        have hlow := wh_low hw hm hm2 (by
          obtain ⟨N, hN⟩ := hw
          apply Int.le_of_not_gt
          intro hlt
          obtain ⟨q, l, _, _, _, hq, hq0, hv⟩ := Fl.st_pos hs hm
          have e0 : (i - E + 1074).toNat = 0 := by omega
          rw [e0, Nat.pow_zero, Nat.mul_one] at hN
          have hN0 : N ≠ 0 := by intro e; subst e; omega
          have : 1 * 2 ^ ((0 : Int) + 1074).toNat ≤ N * 2 ^ ((0 : Int) + 1074).toNat := Nat.mul_le_mul_right _ (by omega)
          have h53 : 2 ^ 53 ≤ 2 ^ ((0 : Int) + 1074).toNat := Nat.pow_le_pow_right (by omega) (by decide)
          omega)
        have hE1 : -3000 < E := by omega
        have hE2 : E < 3000 := by omega
        obtain ⟨h, hmul, sth⟩ := Fl.st_half hs hm hm2 (by omega) (by omega)
        have hmulr : ∀ w : World, (binOp .mul 83 (.float .f64 v) (.float .f64 4602678819172646912)).run Tryz.prog w = .ok (.float .f64 h) w := fun w => run_float_arith w .mul 83 .f64 _ _ h hmul
        obtain ⟨r, hiff, hc⟩ := floor_st sth
        have HC : Hid (∀ w : World, Calls Tryz.prog 86 #[.float .f64 h] w fun e w' => e = .returned (.float .f64 r) ∧ w' = w) := hc
        have HS : Hid (Fl.St v m (i - E)) := hs
        have HW : Hid (wh m (i - E)) := hw
        have HH : Hid (Fl.St h m (i - E - 1)) := sth
        clear hc hs sth hmul hw
        by_cases hwh : wh m (i - E - 1)
        · have t1 : (FloatKind.f64.format.order h r == some .eq) = true := hiff.2 hwh
          have HW2 : Hid (wh m (i - E - 1)) := hwh
          clear hiff hwh
          go_wp2_with (go_at_call 86; refine (HC.out _).mono ?_; rintro e w1 ⟨rfl, rfl⟩)
          go_round
          case rel => exact ⟨h, E + 1, rfl, by go_num, by rw [show i - (E + 1) = i - E - 1 from by omega]; exact HH.out, by rw [show i - (E + 1) = i - E - 1 from by omega]; exact HW2.out, by omega⟩
          case measure => simp [intOf]; omega
        · have t1 : (FloatKind.f64.format.order h r == some .eq) = false := by
            rw [Bool.eq_false_iff]; intro k; exact hwh (hiff.1 k)
          obtain ⟨M, hM⟩ := wh_odd HW.out hm (by omega) hwh
          have HO : Hid (OddF m i M E) := by
            have := odd_of (i := i) hM (by omega)
            rw [show i - (i - E) = E from by omega] at this
            exact this
          obtain ⟨q, l, hrd, hl1, hl2, hq, hq0, hv⟩ := Fl.st_pos HS.out hm
          have hwn := Fl.whole_of q l (2 * M + 1) hl1 (hv.trans hM)
          have hM53 : 2 * M + 1 < 9007199254740992 := by
            by_cases hl0 : 0 < l
            · exfalso
              unfold Fl.whole at hwn
              rw [if_pos (by omega)] at hwn
              obtain ⟨c, hc⟩ : ∃ c, l.toNat = c + 1 := ⟨l.toNat - 1, by omega⟩
              rw [hc, Nat.pow_succ, ← Nat.mul_assoc] at hwn
              omega
            · have : Fl.whole q l ≤ q := by
                unfold Fl.whole
                split
                · have : l = 0 := by omega
                  subst this; simp
                · exact Nat.div_le_self _ _
              omega
          have hcv : ∀ w : World, (convert 83 2 (.float .f64 v)).run Tryz.prog w = .ok (.int .i64 ((2 * M + 1 : Nat) : Int)) w := by
            intro w
            have hsc : Fl.sc false q l = ((2 * M + 1 : Nat) : Int) * Fl.U := by rw [Fl.sc_of false q l (2 * M + 1) 0 (hv.trans hM), Fl.sc_whole]; rfl
            have hu := Fl.U_pos
            have := Fl.toIntVal hrd hl1 (by
              rw [hsc]
              have : (0 : Int) ≤ ((2 * M + 1 : Nat) : Int) * Fl.U := Int.mul_nonneg (by omega) (by omega)
              omega) (by
              rw [hsc]
              exact Int.mul_lt_mul_of_pos_right (by omega) hu)
            rw [hwn] at this
            exact run_convert_float_int w 83 2 .f64 .i64 v _ (by kernel_rfl) Tryz.underlying2 this
          clear hiff hwh hv hrd hwn hM hq hq0 hl1 hl2
          generalize hMM : 2 * M + 1 = D at hcv hM53
          have HMM : Hid (2 * M + 1 = D) := hMM
          clear hMM
          have hd1 := Lib.itoa_length_le (D : Int) (by omega) (by omega)
          have hd2 := Lib.itoa_length_le E (by omega) (by omega)
          go_wp2_with (go_at_call 86; refine (HC.out _).mono ?_; rintro e w1 ⟨rfl, rfl⟩)
          refine (decimal_any (D : Int) (by omega) (by omega) _).mono ?_
          rintro e w2 ⟨rfl, hb2⟩
          go_wp2_with fail
          refine (decimal_any E (by omega) (by omega) _).mono ?_
          rintro e w3 ⟨rfl, hb3⟩
          go_wp2_with fail
          go_ret
          refine ⟨⟨M, E, HO.out, ret_str ?_⟩, hb2.trans (hb3.mono hb2.size)⟩
          have e0 : (⟨#[]⟩ : ByteArray) ++ ⟨(Lib.itoa (D : Int)).toArray⟩ = ⟨(Lib.itoa (D : Int)).toArray⟩ := ba_append [] _
          rw [HMM.out, e0, ba_append, ba_append]
    · have t1 : (FloatKind.f64.format.order v r != some .eq) = true := by
        rw [bne_iff_ne]; intro e; apply hwh; apply hiff.1; rw [e]; rfl
      have hp0 : i + k < 0 := by
        apply Int.lt_of_not_ge; intro h; exact hwh (wh_nonneg m _ h)
      obtain ⟨v2, hmul, st2⟩ := Fl.st_double HS.out hm hm2 (by omega) (by omega)
      have hmulr : ∀ w : World, (binOp .mul 83 (.float .f64 v) (.float .f64 4611686018427387904)).run Tryz.prog w = .ok (.float .f64 v2) w := fun w => run_float_arith w .mul 83 .f64 _ _ v2 hmul
      have H2 : Hid (Fl.St v2 m (i + k + 1)) := st2
      clear hiff hwh hmul st2
      go_wp2_with (go_at_call 86; refine (HC.out _).mono ?_; rintro e w1 ⟨rfl, rfl⟩)
      go_round
      case rel => exact ⟨k + 1, v2, by omega, rfl, by go_num, by rw [show i + ((k + 1 : Nat) : Int) = i + k + 1 from by omega]; exact H2.out, by omega⟩
      case measure => simp [intOf]; omega
end Go.Proofs.YtfceeijdmilieaaGreat
namespace Go.Proofs.YtfceeijdmilieaaGreat
open Go.RowKit
set_option linter.unusedVariables false

set_option maxRecDepth 100000 in
set_option maxHeartbeats 4000000 in
theorem spec_text_neg (x y m r0 : Nat) (i : Int) (w : World) (hy : y = Op.negFloat .f64 x) (hst : Fl.St y m i) (hm : m ≠ 0) (hm2 : m < 2 ^ 53) (hi : -1074 ≤ i) (hi2 : i ≤ 971)
    (g1 : (FloatKind.f64.format.order x x != some .eq) = false) (g2 : (FloatKind.f64.format.order x 0 == some .lt) = true) (g3 : (FloatKind.f64.format.order x 0 == some .eq) = false) (g4 : (FloatKind.f64.format.order y 0 == some .eq) = false)
    (hr0 : floatBits .mul .f64 y 4602678819172646912 = some r0) (g5 : (FloatKind.f64.format.order r0 y == some .eq) = false) :
    Calls Tryz.prog 91 #[.float .f64 x] w fun e w' => (∃ M E, OddF m i M E ∧ e = .returned (.string ⟨([45] ++ Lib.itoa ((2 * M + 1 : Nat) : Int) ++ [112] ++ Lib.itoa E).toArray⟩)) ∧ Below w.heap.size w w' := by
  have hmul0 : ∀ w : World, (binOp .mul 83 (.float .f64 y) (.float .f64 4602678819172646912)).run Tryz.prog w = .ok (.float .f64 r0) w := fun w => run_float_arith w .mul 83 .f64 _ _ r0 hr0
  subst hy
  have hneg : ∀ w : World, (Op.unary .neg (.float .f64 x)).run Tryz.prog w = .ok (.float .f64 (Op.negFloat .f64 x)) w := fun _ => rfl
  have G1 : Hid ((FloatKind.f64.format.order x x != some .eq) = false) := g1
  clear hr0
  go_enter Tryz.func91, Tryz.ntmps91
  go_wp2_with (go_at_call 85; refine (l1nan_no x _ G1.out).mono ?_; rintro e w1 ⟨rfl, rfl⟩)
  clear hmul0 hneg g1 g2 g3 g4 g5 G1
  go_loop [0, 4] (fun f e => ∃ k v : Nat, k ≤ 1074 ∧ f = .float .f64 v ∧ e = .int .i64 (k : Int) ∧ Fl.St v m (i + k) ∧ i + k ≤ 971) (fun _ e => (-(i + intOf e)).toNat)
  case atStart => exact ⟨0, Op.negFloat .f64 x, by omega, rfl, rfl, by simpa using hst, by omega⟩
  case round =>
    obtain ⟨k, v, hk, rfl, rfl, hs, hb⟩ := hrel
    obtain ⟨r, hiff, hc⟩ := floor_st hs
    have HC : Hid (∀ w : World, Calls Tryz.prog 86 #[.float .f64 v] w fun e w' => e = .returned (.float .f64 r) ∧ w' = w) := hc
    have HS : Hid (Fl.St v m (i + k)) := hs
    clear hc hs
    by_cases hwh : wh m (i + k)
    · have t1 : (FloatKind.f64.format.order v r != some .eq) = false := by simpa using hiff.2 hwh
      have HW : Hid (wh m (i + k)) := hwh
      clear hiff hwh
      go_wp2_with (go_at_call 86; refine (HC.out _).mono ?_; rintro e w1 ⟨rfl, rfl⟩)
      clear t1
      go_loop [0, 4] (fun f e => ∃ (v : Nat) (E : Int), f = .float .f64 v ∧ e = .int .i64 E ∧ Fl.St v m (i - E) ∧ wh m (i - E) ∧ i - E ≤ 971) (fun _ e => (i - intOf e + 60).toNat)
      case atStart => exact ⟨v, -(k : Int), rfl, by go_num, by rw [show i - -(k : Int) = i + k from by omega]; exact HS.out, by rw [show i - -(k : Int) = i + k from by omega]; exact HW.out, by omega⟩
      case round =>
        clear HC HS HW
        obtain ⟨v, E, rfl, rfl, hs, hw, hb⟩ := hrel
        have hlow := wh_low hw hm hm2 (by
          obtain ⟨N, hN⟩ := hw
          apply Int.le_of_not_gt
          intro hlt
          obtain ⟨q, l, _, _, _, hq, hq0, hv⟩ := Fl.st_pos hs hm
          have e0 : (i - E + 1074).toNat = 0 := by omega
          rw [e0, Nat.pow_zero, Nat.mul_one] at hN
          have hN0 : N ≠ 0 := by intro e; subst e; omega
          have : 1 * 2 ^ ((0 : Int) + 1074).toNat ≤ N * 2 ^ ((0 : Int) + 1074).toNat := Nat.mul_le_mul_right _ (by omega)
          have h53 : 2 ^ 53 ≤ 2 ^ ((0 : Int) + 1074).toNat := Nat.pow_le_pow_right (by omega) (by decide)
          omega)
        have hE1 : -3000 < E := by omega
        have hE2 : E < 3000 := by omega
        obtain ⟨h, hmul, sth⟩ := Fl.st_half hs hm hm2 (by omega) (by omega)
        have hmulr : ∀ w : World, (binOp .mul 83 (.float .f64 v) (.float .f64 4602678819172646912)).run Tryz.prog w = .ok (.float .f64 h) w := fun w => run_float_arith w .mul 83 .f64 _ _ h hmul
        obtain ⟨r, hiff, hc⟩ := floor_st sth
        have HC : Hid (∀ w : World, Calls Tryz.prog 86 #[.float .f64 h] w fun e w' => e = .returned (.float .f64 r) ∧ w' = w) := hc
        have HS : Hid (Fl.St v m (i - E)) := hs
        have HW : Hid (wh m (i - E)) := hw
        have HH : Hid (Fl.St h m (i - E - 1)) := sth
        clear hc hs sth hmul hw
        by_cases hwh : wh m (i - E - 1)
        · have t1 : (FloatKind.f64.format.order h r == some .eq) = true := hiff.2 hwh
          have HW2 : Hid (wh m (i - E - 1)) := hwh
          clear hiff hwh
          go_wp2_with (go_at_call 86; refine (HC.out _).mono ?_; rintro e w1 ⟨rfl, rfl⟩)
          go_round
          case rel => exact ⟨h, E + 1, rfl, by go_num, by rw [show i - (E + 1) = i - E - 1 from by omega]; exact HH.out, by rw [show i - (E + 1) = i - E - 1 from by omega]; exact HW2.out, by omega⟩
          case measure => simp [intOf]; omega
        · have t1 : (FloatKind.f64.format.order h r == some .eq) = false := by
            rw [Bool.eq_false_iff]; intro k; exact hwh (hiff.1 k)
          obtain ⟨M, hM⟩ := wh_odd HW.out hm (by omega) hwh
          have HO : Hid (OddF m i M E) := by
            have := odd_of (i := i) hM (by omega)
            rw [show i - (i - E) = E from by omega] at this
            exact this
          obtain ⟨q, l, hrd, hl1, hl2, hq, hq0, hv⟩ := Fl.st_pos HS.out hm
          have hwn := Fl.whole_of q l (2 * M + 1) hl1 (hv.trans hM)
          have hM53 : 2 * M + 1 < 9007199254740992 := by
            by_cases hl0 : 0 < l
            · exfalso
              unfold Fl.whole at hwn
              rw [if_pos (by omega)] at hwn
              obtain ⟨c, hc⟩ : ∃ c, l.toNat = c + 1 := ⟨l.toNat - 1, by omega⟩
              rw [hc, Nat.pow_succ, ← Nat.mul_assoc] at hwn
              omega
            · have : Fl.whole q l ≤ q := by
                unfold Fl.whole
                split
                · have : l = 0 := by omega
                  subst this; simp
                · exact Nat.div_le_self _ _
              omega
          have hcv : ∀ w : World, (convert 83 2 (.float .f64 v)).run Tryz.prog w = .ok (.int .i64 ((2 * M + 1 : Nat) : Int)) w := by
            intro w
            have hsc : Fl.sc false q l = ((2 * M + 1 : Nat) : Int) * Fl.U := by rw [Fl.sc_of false q l (2 * M + 1) 0 (hv.trans hM), Fl.sc_whole]; rfl
            have hu := Fl.U_pos
            have := Fl.toIntVal hrd hl1 (by
              rw [hsc]
              have : (0 : Int) ≤ ((2 * M + 1 : Nat) : Int) * Fl.U := Int.mul_nonneg (by omega) (by omega)
              omega) (by
              rw [hsc]
              exact Int.mul_lt_mul_of_pos_right (by omega) hu)
            rw [hwn] at this
            exact run_convert_float_int w 83 2 .f64 .i64 v _ (by kernel_rfl) Tryz.underlying2 this
          clear hiff hwh hv hrd hwn hM hq hq0 hl1 hl2
          generalize hMM : 2 * M + 1 = D at hcv hM53
          have HMM : Hid (2 * M + 1 = D) := hMM
          clear hMM
          have hd1 := Lib.itoa_length_le (D : Int) (by omega) (by omega)
          have hd2 := Lib.itoa_length_le E (by omega) (by omega)
          go_wp2_with (go_at_call 86; refine (HC.out _).mono ?_; rintro e w1 ⟨rfl, rfl⟩)
          refine (decimal_any (D : Int) (by omega) (by omega) _).mono ?_
          rintro e w2 ⟨rfl, hb2⟩
          go_wp2_with fail
          refine (decimal_any E (by omega) (by omega) _).mono ?_
          rintro e w3 ⟨rfl, hb3⟩
          go_wp2_with fail
          go_ret
          refine ⟨⟨M, E, HO.out, ret_str ?_⟩, hb2.trans (hb3.mono hb2.size)⟩
          rw [HMM.out, ba_append, ba_append, ba_append]
          simp
    · have t1 : (FloatKind.f64.format.order v r != some .eq) = true := by
        rw [bne_iff_ne]; intro e; apply hwh; apply hiff.1; rw [e]; rfl
      have hp0 : i + k < 0 := by
        apply Int.lt_of_not_ge; intro h; exact hwh (wh_nonneg m _ h)
      obtain ⟨v2, hmul, st2⟩ := Fl.st_double HS.out hm hm2 (by omega) (by omega)
      have hmulr : ∀ w : World, (binOp .mul 83 (.float .f64 v) (.float .f64 4611686018427387904)).run Tryz.prog w = .ok (.float .f64 v2) w := fun w => run_float_arith w .mul 83 .f64 _ _ v2 hmul
      have H2 : Hid (Fl.St v2 m (i + k + 1)) := st2
      clear hiff hwh hmul st2
      go_wp2_with (go_at_call 86; refine (HC.out _).mono ?_; rintro e w1 ⟨rfl, rfl⟩)
      go_round
      case rel => exact ⟨k + 1, v2, by omega, rfl, by go_num, by rw [show i + ((k + 1 : Nat) : Int) = i + k + 1 from by omega]; exact H2.out, by omega⟩
      case measure => simp [intOf]; omega
end Go.Proofs.YtfceeijdmilieaaGreat
namespace Go.Proofs.YtfceeijdmilieaaGreat
open Go.RowKit
set_option linter.unusedVariables false

/-- The text of a float that is no NaN and no zero. -/
def ftOf (x : Nat) : List UInt8 := match Ieee.double.read x with
  | .infinity s => (if s then [45] else []) ++ [105, 110, 102]
  | .number s m i => ftext s (2 * (m / 2 ^ Lib.ctz 64 m / 2) + 1) (i + Lib.ctz 64 m)
  | _ => []

theorem oddF_ctz (m : Nat) (i : Int) (hm0 : m ≠ 0) (hm : m < 2 ^ 53) : OddF m i (m / 2 ^ Lib.ctz 64 m / 2) (i + Lib.ctz 64 m) := by
  obtain ⟨M, h1, _⟩ := Fl.ctz_spec false m (by omega) hm
  have e : Fl.uw false m = m := rfl
  rw [e] at h1
  refine ⟨0, Lib.ctz 64 m, ?_, by omega⟩
  generalize Lib.ctz 64 m = t at h1
  have : m / 2 ^ t = 2 * M + 1 := by rw [h1]; exact Nat.mul_div_cancel_left _ (Nat.two_pow_pos t)
  rw [this, show 2 * ((2 * M + 1) / 2) + 1 = 2 * M + 1 from by omega, Nat.pow_zero, Nat.mul_one, Nat.mul_comm]
  exact h1

set_option maxHeartbeats 400000 in
theorem itext_inf (x : Nat) (w : World) (h : (FloatKind.f64.format.order x 9218868437227405311 == some .gt) = true) :
    Calls Tryz.prog 143 #[.float .f64 x] w fun e w' => e = .returned (.string ⟨#[105, 110, 102]⟩) ∧ w' = w := by
  have H : Hid ((FloatKind.f64.format.order x 9218868437227405311 == some .gt) = true) := h
  clear h
  go_enter Tryz.func143, Tryz.ntmps143
  go_wp2_with fail
  refine (isInf_pos x _).mono ?_
  rintro e w1 ⟨rfl, rfl⟩
  rw [H.out]
  go_wp2_with fail
  go_ret
  exact ⟨rfl, rfl⟩

set_option maxHeartbeats 400000 in
theorem itext_ninf (x : Nat) (w : World) (h : (FloatKind.f64.format.order x 9218868437227405311 == some .gt) = false) (h2 : (FloatKind.f64.format.order (Op.negFloat .f64 x) 9218868437227405311 == some .gt) = true) :
    Calls Tryz.prog 143 #[.float .f64 x] w fun e w' => e = .returned (.string ⟨#[45, 105, 110, 102]⟩) ∧ w' = w := by
  have H : Hid ((FloatKind.f64.format.order x 9218868437227405311 == some .gt) = false) := h
  have H2 : Hid ((FloatKind.f64.format.order (Op.negFloat .f64 x) 9218868437227405311 == some .gt) = true) := h2
  clear h h2
  go_enter Tryz.func143, Tryz.ntmps143
  go_wp2_with fail
  refine (isInf_pos x _).mono ?_
  rintro e w1 ⟨rfl, rfl⟩
  rw [H.out]
  go_wp2_with fail
  refine (isInf_neg x _).mono ?_
  rintro e w1 ⟨rfl, rfl⟩
  rw [H2.out]
  go_wp2_with fail
  go_ret
  exact ⟨rfl, rfl⟩

set_option maxHeartbeats 1000000 in
theorem stext_inf (x r0 : Nat) (w : World)
    (g1 : (FloatKind.f64.format.order x x != some .eq) = false) (g2 : (FloatKind.f64.format.order x 0 == some .lt) = false) (g3 : (FloatKind.f64.format.order x 0 == some .eq) = false)
    (hr0 : floatBits .mul .f64 x 4602678819172646912 = some r0) (g5 : (FloatKind.f64.format.order r0 x == some .eq) = true) :
    Calls Tryz.prog 91 #[.float .f64 x] w fun e w' => e = .returned (.string ⟨#[105, 110, 102]⟩) ∧ w' = w := by
  have hmul0 : ∀ w : World, (binOp .mul 83 (.float .f64 x) (.float .f64 4602678819172646912)).run Tryz.prog w = .ok (.float .f64 r0) w := fun w => run_float_arith w .mul 83 .f64 _ _ r0 hr0
  have G1 : Hid ((FloatKind.f64.format.order x x != some .eq) = false) := g1
  clear hr0
  go_enter Tryz.func91, Tryz.ntmps91
  go_wp2_with (go_at_call 85; refine (l1nan_no x _ G1.out).mono ?_; rintro e w1 ⟨rfl, rfl⟩)
  go_ret
  exact ⟨ret_str (ba_append [] _), rfl⟩

set_option maxHeartbeats 1000000 in
theorem stext_ninf (x r0 : Nat) (w : World)
    (g1 : (FloatKind.f64.format.order x x != some .eq) = false) (g2 : (FloatKind.f64.format.order x 0 == some .lt) = true) (g4 : (FloatKind.f64.format.order (Op.negFloat .f64 x) 0 == some .eq) = false)
    (hr0 : floatBits .mul .f64 (Op.negFloat .f64 x) 4602678819172646912 = some r0) (g5 : (FloatKind.f64.format.order r0 (Op.negFloat .f64 x) == some .eq) = true) :
    Calls Tryz.prog 91 #[.float .f64 x] w fun e w' => e = .returned (.string ⟨#[45, 105, 110, 102]⟩) ∧ w' = w := by
  have hmul0 : ∀ w : World, (binOp .mul 83 (.float .f64 (Op.negFloat .f64 x)) (.float .f64 4602678819172646912)).run Tryz.prog w = .ok (.float .f64 r0) w := fun w => run_float_arith w .mul 83 .f64 _ _ r0 hr0
  have hneg : ∀ w : World, (Op.unary .neg (.float .f64 x)).run Tryz.prog w = .ok (.float .f64 (Op.negFloat .f64 x)) w := fun _ => rfl
  have G1 : Hid ((FloatKind.f64.format.order x x != some .eq) = false) := g1
  clear hr0
  go_enter Tryz.func91, Tryz.ntmps91
  go_wp2_with (go_at_call 85; refine (l1nan_no x _ G1.out).mono ?_; rintro e w1 ⟨rfl, rfl⟩)
  go_ret
  exact ⟨ret_str (ba_append [45] [105, 110, 102]), rfl⟩

theorem inf_half {x : Nat} (hx : Ieee.double.read x = .infinity false) : ∃ r0, floatBits .mul .f64 x 4602678819172646912 = some r0 ∧ (Ieee.double.order r0 x == some .eq) = true := by
  refine ⟨Ieee.double.write (.infinity (false ^^ false)), ?_, ?_⟩
  · show ((Ieee.double.read x).product (Ieee.double.read 4602678819172646912)).map Ieee.double.write = _
    rw [hx, Fl.read_half]; rfl
  · unfold Ieee.Format.order
    have : Ieee.double.read (Ieee.double.write (.infinity (false ^^ false))) = .infinity false := by decide
    rw [this, hx]; rfl

theorem st_zero_ne {y m : Nat} {i : Int} (h : Fl.St y m i) (hm : m ≠ 0) : (FloatKind.f64.format.order y 0 == some .eq) = false ∧ (FloatKind.f64.format.order y 0 == some .lt) = false ∧ (FloatKind.f64.format.order y y != some .eq) = false := by
  obtain ⟨q, l, h1, h2, h3, h4, h5, h6⟩ := Fl.st_pos h hm
  have hpos : (0 : Int) < ((q * 2 ^ (l + 1074).toNat : Nat) : Int) := Int.ofNat_lt.2 (Nat.mul_pos (by omega) (Nat.two_pow_pos _))
  refine ⟨?_, ?_, ?_⟩
  · show (Ieee.double.order y 0 == some .eq) = false
    rw [Fl.ord_of h1 Fl.read_nil h2 (by omega), Fl.cmp_eq, Fl.sc_zero, Fl.sc_false]
    simp only [decide_eq_false_iff_not]; omega
  · show (Ieee.double.order y 0 == some .lt) = false
    rw [Fl.ord_of h1 Fl.read_nil h2 (by omega), Fl.cmp_lt, Fl.sc_zero, Fl.sc_false]
    simp only [decide_eq_false_iff_not]; omega
  · show (!(Ieee.double.order y y == some .eq)) = false
    rw [Fl.ord_of h1 h1 h2 h2, Fl.cmp_eq]; simp
end Go.Proofs.YtfceeijdmilieaaGreat
namespace Go.Proofs.YtfceeijdmilieaaGreat
open Go.RowKit
set_option linter.unusedVariables false

theorem num_ne {x : Nat} {s : Bool} {m : Nat} {i : Int} (hr : Ieee.double.read x = .number s m i) (hi : -1074 ≤ i) (hz : fz x = false) : m ≠ 0 := by
  intro e; subst e
  have h : (Ieee.double.order x 0 == some .eq) = false := hz
  rw [Fl.ord_of hr Fl.read_nil hi (by omega), Fl.cmp_eq, Fl.sc_zero, Fl.sc_zero] at h
  simp at h

theorem itext_any (x : Nat) (hx : x < 18446744073709551616) (hn : fnan x = false) (hz : fz x = false) (w : World) (hT : Tabs w) :
    Calls Tryz.prog 143 #[.float .f64 x] w fun e w' => e = .returned (.string ⟨(ftOf x).toArray⟩) ∧ Below w.heap.size w w' := by
  rcases Fl.read_cases x with ⟨s, m, i, hr, hi, hi2, hm, _⟩ | ⟨s, hr⟩ | ⟨s, t, hr⟩
  · have hm0 := num_ne hr hi hz
    obtain ⟨M, E, hO, hc⟩ := floatText_num x hx s m i hr hi hi2 hm hm0
    obtain ⟨e1, e2⟩ := oddF_unique hO (oddF_ctz m i hm0 hm)
    have e : ftOf x = ftext s (2 * M + 1) E := by unfold ftOf; rw [hr, e1, e2]
    rw [e]; exact hc w hT
  · cases s
    · have e : ftOf x = [105, 110, 102] := by unfold ftOf; rw [hr]; rfl
      rw [e]
      exact (itext_inf x w (Fl.inf_above hr)).mono fun e w' ⟨h1, h2⟩ => ⟨h1, h2 ▸ Below.refl _ _⟩
    · have e : ftOf x = [45, 105, 110, 102] := by unfold ftOf; rw [hr]; rfl
      rw [e]
      exact (itext_ninf x w (Fl.ninf_above hr) (Fl.inf_above (by rw [Fl.read_neg x hx, hr]; rfl))).mono fun e w' ⟨h1, h2⟩ => ⟨h1, h2 ▸ Below.refl _ _⟩
  · exfalso
    have h : (!(Ieee.double.order x x == some .eq)) = false := hn
    unfold Ieee.Format.order at h
    rw [hr] at h
    simp [Ieee.Datum.order] at h

theorem stext_any (x : Nat) (hx : x < 18446744073709551616) (hn : fnan x = false) (hz : fz x = false) (w : World) :
    Calls Tryz.prog 91 #[.float .f64 x] w fun e w' => e = .returned (.string ⟨(ftOf x).toArray⟩) ∧ Below w.heap.size w w' := by
  rcases Fl.read_cases x with ⟨s, m, i, hr, hi, hi2, hm, _⟩ | ⟨s, hr⟩ | ⟨s, t, hr⟩
  · have hm0 := num_ne hr hi hz
    have fin : ∀ M E, OddF m i M E → ftOf x = (if s then [45] else []) ++ Lib.itoa ((2 * M + 1 : Nat) : Int) ++ [112] ++ Lib.itoa E := by
      intro M E hO
      obtain ⟨e1, e2⟩ := oddF_unique hO (oddF_ctz m i hm0 hm)
      rw [← ftext_eq]; unfold ftOf; rw [hr, e1, e2]
    cases s
    · have hst : Fl.St x m i := ⟨m, i, hr, hi, hi2, hm, rfl⟩
      obtain ⟨g3, g2, g1⟩ := st_zero_ne hst hm0
      obtain ⟨r0, hr0, g5⟩ := Fl.half_ne hst hm0
      refine (spec_text_pos x x m r0 i w rfl hst hm0 hm hi hi2 g1 g2 g3 g3 hr0 g5).mono ?_
      rintro e w' ⟨⟨M, E, hO, rfl⟩, hb⟩
      refine ⟨?_, hb⟩
      rw [fin M E hO]; rfl
    · have hrn : Ieee.double.read (Op.negFloat .f64 x) = .number false m i := by rw [Fl.read_neg x hx, hr]; rfl
      have hst : Fl.St (Op.negFloat .f64 x) m i := ⟨m, i, hrn, hi, hi2, hm, rfl⟩
      obtain ⟨g4, _, _⟩ := st_zero_ne hst hm0
      obtain ⟨r0, hr0, g5⟩ := Fl.half_ne hst hm0
      have hpos : (0 : Int) < ((m * 2 ^ (i + 1074).toNat : Nat) : Int) := Int.ofNat_lt.2 (Nat.mul_pos (by omega) (Nat.two_pow_pos _))
      have g2 : (FloatKind.f64.format.order x 0 == some .lt) = true := by
        show (Ieee.double.order x 0 == some .lt) = true
        rw [Fl.ord_of hr Fl.read_nil hi (by omega), Fl.cmp_lt, Fl.sc_zero, Fl.sc_neg, Fl.sc_false]
        simp only [decide_eq_true_eq]; omega
      refine (spec_text_neg x (Op.negFloat .f64 x) m r0 i w rfl hst hm0 hm hi hi2 hn g2 hz g4 hr0 g5).mono ?_
      rintro e w' ⟨⟨M, E, hO, rfl⟩, hb⟩
      refine ⟨?_, hb⟩
      rw [fin M E hO]; rfl
  · cases s
    · have e : ftOf x = [105, 110, 102] := by unfold ftOf; rw [hr]; rfl
      rw [e]
      obtain ⟨r0, h1, h2⟩ := inf_half hr
      have g2 : (FloatKind.f64.format.order x 0 == some .lt) = false := by
        show (Ieee.double.order x 0 == some .lt) = false
        unfold Ieee.Format.order; rw [hr, Fl.read_nil]; rfl
      exact (stext_inf x r0 w hn g2 hz h1 h2).mono fun e w' ⟨h1, h2⟩ => ⟨h1, h2 ▸ Below.refl _ _⟩
    · have e : ftOf x = [45, 105, 110, 102] := by unfold ftOf; rw [hr]; rfl
      rw [e]
      have hrn : Ieee.double.read (Op.negFloat .f64 x) = .infinity false := by rw [Fl.read_neg x hx, hr]; rfl
      obtain ⟨r0, h1, h2⟩ := inf_half hrn
      have g2 : (FloatKind.f64.format.order x 0 == some .lt) = true := by
        show (Ieee.double.order x 0 == some .lt) = true
        unfold Ieee.Format.order; rw [hr, Fl.read_nil]; rfl
      have g4 : (FloatKind.f64.format.order (Op.negFloat .f64 x) 0 == some .eq) = false := by
        show (Ieee.double.order _ 0 == some .eq) = false
        unfold Ieee.Format.order; rw [hrn, Fl.read_nil]; rfl
      exact (stext_ninf x r0 w hn g2 g4 h1 h2).mono fun e w' ⟨h1, h2⟩ => ⟨h1, h2 ▸ Below.refl _ _⟩
  · exfalso
    have h : (!(Ieee.double.order x x == some .eq)) = false := hn
    unfold Ieee.Format.order at h
    rw [hr] at h
    simp [Ieee.Datum.order] at h

theorem ctz_le (x : Nat) (h0 : x ≠ 0) (h : x < 2 ^ 53) : Lib.ctz 64 x ≤ 53 := by
  obtain ⟨M, _, h2⟩ := Fl.ctz_spec false x (by omega) h
  have : Fl.uw false x = x := rfl
  rw [this] at h2
  omega

theorem ftOf_len (x : Nat) (hn : fnan x = false) (hz : fz x = false) : (ftOf x).length ≤ 60 := by
  rcases Fl.read_cases x with ⟨s, m, i, hr, hi, hi2, hm, _⟩ | ⟨s, hr⟩ | ⟨s, t, hr⟩
  · have hm0 := num_ne hr hi hz
    have hc := ctz_le m hm0 hm
    unfold ftOf; rw [hr]
    unfold ftext
    have hM : m / 2 ^ Lib.ctz 64 m / 2 ≤ m := Nat.le_trans (Nat.div_le_self _ _) (Nat.div_le_self _ _)
    have h1 := Lib.itoa_length_le (Fl.sg s (2 * (m / 2 ^ Lib.ctz 64 m / 2) + 1)) (by cases s <;> simp only [Fl.sg, Bool.false_eq_true, if_false, if_true] <;> omega) (by cases s <;> simp only [Fl.sg, Bool.false_eq_true, if_false, if_true] <;> omega)
    have h2 := Lib.itoa_length_le (i + Lib.ctz 64 m) (by omega) (by omega)
    simp only [List.length_append, List.length_cons, List.length_nil]
    omega
  · unfold ftOf; rw [hr]; cases s <;> decide
  · unfold ftOf; rw [hr]; exact Nat.zero_le _

/-- The hash of a key as it stands. -/
def hashI (kind num : Int) (flt : Nat) (s : ByteArray) (ref : Int) : Int :=
  if kind = 4 then fnv s.data.toList
  else if kind = 3 then fnv (ftOf flt)
  else if kind = 2 then mixI (IntKind.u64.wrap num)
  else mixI (IntKind.u64.wrap (IntKind.u64.wrap (kind * 1099511627776 + IntKind.u64.wrap num) + IntKind.u64.wrap ref))

/-- What is asked of a key that is hashed: its string is one; its float is one, no NaN and no zero; its kind is small. -/
structure HK (kind : Int) (flt : Nat) (s : ByteArray) : Prop where
  str : s.size ≤ maxLen
  klo : 0 ≤ kind
  khi : kind ≤ 8
  flt : kind = 3 → flt < 18446744073709551616 ∧ fnan flt = false ∧ fz flt = false

set_option maxHeartbeats 1000000 in
theorem hashKey_any (kind num : Int) (flt : Nat) (s : ByteArray) (ref : Int) (w : World) (h : HK kind flt s) (hT : Tabs w) :
    Calls Tryz.prog 137 #[V kind num flt s ref] w fun e w' => e = .returned (.int .u64 (hashI kind num flt s ref)) ∧ Below w.heap.size w w' := by
  have hs := h.str
  have hk1 := h.klo
  have hk2 := h.khi
  by_cases k4 : kind = 4
  · subst k4
    have e : hashI 4 num flt s ref = fnv s.data.toList := by unfold hashI; rw [if_pos rfl]
    rw [e]
    clear e hk1 hk2
    go_enter Tryz.func137, Tryz.ntmps137
    go_wp2_with (go_at_call 142; refine (hashText_any s _ hs).mono ?_; rintro e w1 ⟨rfl, rfl⟩)
    go_ret
    exact ⟨rfl, (Below.refl _ _).alloc (Nat.le_refl _) _⟩
  have b4 : (kind == 4) = false := by simp [k4]
  by_cases k3 : kind = 3
  · subst k3
    obtain ⟨f1, f2, f3⟩ := h.flt rfl
    have e : hashI 3 num flt s ref = fnv (ftOf flt) := by unfold hashI; rw [if_neg (by decide), if_pos rfl]
    rw [e]
    have hl := ftOf_len flt f2 f3
    have HT : Hid (Tabs w) := hT
    clear e hk1 hk2 b4 k4
    go_enter Tryz.func137, Tryz.ntmps137
    go_wp2_with fail
    refine (itext_any flt f1 f2 f3 _ (HT.out.below ((Below.refl _ _).alloc (Nat.le_refl _) _) HT.out.sz)).mono ?_
    rintro e w1 ⟨rfl, hb⟩
    go_wp2_with fail
    refine (hashText_any ⟨(ftOf flt).toArray⟩ _ (by unfold maxLen; rw [show (ByteArray.mk (ftOf flt).toArray).size = (ftOf flt).length from by simp [ByteArray.size]]; omega)).mono ?_
    rintro e w2 ⟨rfl, rfl⟩
    go_wp2_with fail
    go_ret
    exact ⟨by simp, ((Below.refl _ _).alloc (Nat.le_refl _) _).trans (hb.mono (by simp))⟩
  have b3 : (kind == 3) = false := by simp [k3]
  by_cases k2 : kind = 2
  · subst k2
    have e : hashI 2 num flt s ref = mixI (IntKind.u64.wrap num) := by unfold hashI; rw [if_neg (by decide), if_neg (by decide), if_pos rfl]
    rw [e]
    have hr := wrap_u64_range num
    clear e hk1 hk2 b4 k4 b3 k3
    go_enter Tryz.func137, Tryz.ntmps137
    go_wp2_with (go_at_call 144; refine (mix_any _ _ hr.1 hr.2).mono ?_; rintro e w1 ⟨rfl, rfl⟩)
    go_ret
    exact ⟨rfl, (Below.refl _ _).alloc (Nat.le_refl _) _⟩
  have b2 : (kind == 2) = false := by simp [k2]
  have e : hashI kind num flt s ref = mixI (IntKind.u64.wrap (IntKind.u64.wrap (kind * 1099511627776 + IntKind.u64.wrap num) + IntKind.u64.wrap ref)) := by unfold hashI; rw [if_neg k4, if_neg k3, if_neg k2]
  rw [e]
  clear e k4 k3 k2
  go_enter Tryz.func137, Tryz.ntmps137
  have hr := wrap_u64_range (IntKind.u64.wrap (kind * 1099511627776 + IntKind.u64.wrap num) + IntKind.u64.wrap ref)
  go_wp2_with (go_at_call 144; refine (mix_any _ _ hr.1 hr.2).mono ?_; rintro e w1 ⟨rfl, rfl⟩)
  go_ret
  exact ⟨rfl, (Below.refl _ _).alloc (Nat.le_refl _) _⟩

set_option maxHeartbeats 1000000 in
theorem l1hash_any (kind num : Int) (flt : Nat) (s : ByteArray) (ref : Int) (w : World) (h : HK kind flt s) :
    Calls Tryz.prog 88 #[V kind num flt s ref] w fun e w' => e = .returned (.int .u64 (hashI kind num flt s ref)) ∧ Below w.heap.size w w' := by
  have hs := h.str
  have hk1 := h.klo
  have hk2 := h.khi
  by_cases k4 : kind = 4
  · subst k4
    have e : hashI 4 num flt s ref = fnv s.data.toList := by unfold hashI; rw [if_pos rfl]
    rw [e]
    clear e hk1 hk2
    go_enter Tryz.func88, Tryz.ntmps88
    go_wp2_with (go_at_call 90; refine (l1bytes_any s _ hs).mono ?_; rintro e w1 ⟨rfl, rfl⟩)
    go_ret
    exact ⟨rfl, (Below.refl _ _).alloc (Nat.le_refl _) _⟩
  have b4 : (kind == 4) = false := by simp [k4]
  by_cases k3 : kind = 3
  · subst k3
    obtain ⟨f1, f2, f3⟩ := h.flt rfl
    have e : hashI 3 num flt s ref = fnv (ftOf flt) := by unfold hashI; rw [if_neg (by decide), if_pos rfl]
    rw [e]
    have hl := ftOf_len flt f2 f3
    clear e hk1 hk2 b4 k4
    go_enter Tryz.func88, Tryz.ntmps88
    go_wp2_with fail
    refine (stext_any flt f1 f2 f3 _).mono ?_
    rintro e w1 ⟨rfl, hb⟩
    go_wp2_with fail
    refine (l1bytes_any ⟨(ftOf flt).toArray⟩ _ (by unfold maxLen; rw [show (ByteArray.mk (ftOf flt).toArray).size = (ftOf flt).length from by simp [ByteArray.size]]; omega)).mono ?_
    rintro e w2 ⟨rfl, rfl⟩
    go_wp2_with fail
    go_ret
    exact ⟨by simp, ((Below.refl _ _).alloc (Nat.le_refl _) _).trans (hb.mono (by simp))⟩
  have b3 : (kind == 3) = false := by simp [k3]
  by_cases k2 : kind = 2
  · subst k2
    have e : hashI 2 num flt s ref = mixI (IntKind.u64.wrap num) := by unfold hashI; rw [if_neg (by decide), if_neg (by decide), if_pos rfl]
    rw [e]
    have hr := wrap_u64_range num
    clear e hk1 hk2 b4 k4 b3 k3
    go_enter Tryz.func88, Tryz.ntmps88
    go_wp2_with (go_at_call 92; refine (l1mix_any _ _ hr.1 hr.2).mono ?_; rintro e w1 ⟨rfl, rfl⟩)
    go_ret
    exact ⟨rfl, (Below.refl _ _).alloc (Nat.le_refl _) _⟩
  have b2 : (kind == 2) = false := by simp [k2]
  have e : hashI kind num flt s ref = mixI (IntKind.u64.wrap (IntKind.u64.wrap (kind * 1099511627776 + IntKind.u64.wrap num) + IntKind.u64.wrap ref)) := by unfold hashI; rw [if_neg k4, if_neg k3, if_neg k2]
  rw [e]
  clear e k4 k3 k2
  go_enter Tryz.func88, Tryz.ntmps88
  have hr := wrap_u64_range (IntKind.u64.wrap (kind * 1099511627776 + IntKind.u64.wrap num) + IntKind.u64.wrap ref)
  go_wp2_with (go_at_call 92; refine (l1mix_any _ _ hr.1 hr.2).mono ?_; rintro e w1 ⟨rfl, rfl⟩)
  go_ret
  exact ⟨rfl, (Below.refl _ _).alloc (Nat.le_refl _) _⟩
end Go.Proofs.YtfceeijdmilieaaGreat
namespace Go.Proofs.YtfceeijdmilieaaGreat
open Go.RowKit
set_option linter.unusedVariables false
attribute [local go_sem] run_store_float run_equalIn_float

theorem fz_whole {x : Nat} (h : fz x = true) : wholeB x = true := by
  have h' : (Ieee.double.order x 0 == some .eq) = true := h
  rcases Fl.read_cases x with ⟨s, m, i, hr, hi, hi2, hm, _⟩ | ⟨s, hr⟩ | ⟨s, t, hr⟩
  · rw [Fl.ord_of hr Fl.read_nil hi (by omega), Fl.cmp_eq, Fl.sc_zero] at h'
    have h0 : Fl.sc s m i = 0 := by simpa using h'
    have hu := Fl.U_pos
    have g : geB x = true := by
      show (Ieee.double.order x 14114281232179134464 == some .gt || Ieee.double.order x 14114281232179134464 == some .eq) = true
      rw [Fl.ord_of hr Fl.read_m63 hi (by omega), Fl.sc_m63, Fl.cmp_gt, Fl.cmp_eq, h0]
      simp only [Bool.or_eq_true, decide_eq_true_eq]; left; omega
    have l : ltB x = true := by
      show (Ieee.double.order x 4890909195324358656 == some .lt) = true
      rw [Fl.ord_of hr Fl.read_c63 hi (by omega), Fl.sc_c63, Fl.cmp_lt, h0]
      simp only [decide_eq_true_eq]; omega
    have hn : fnan x = false := by
      show (!(Ieee.double.order x x == some .eq)) = false
      rw [Fl.ord_of hr hr hi hi, Fl.cmp_eq]; simp
    have ha : asIs x = true := by unfold asIs; rw [h]; simp
    unfold wholeB
    rw [g, l, asIs_whole ha hn g l]; rfl
  · exfalso
    unfold Ieee.Format.order at h'
    rw [hr, Fl.read_nil] at h'
    cases s <;> simp [Ieee.Datum.order] at h'
  · exfalso
    unfold Ieee.Format.order at h'
    rw [hr] at h'
    simp [Ieee.Datum.order] at h'

theorem valid_kind {kind num : Int} {flt : Nat} {s : ByteArray} {ref : Int} (h : validB kind num flt s ref = true) : 0 ≤ kind ∧ kind ≤ 8 := by
  unfold validB at h
  by_cases k0 : kind = 0
  · omega
  by_cases k1 : kind = 1
  · omega
  by_cases k2 : kind = 2
  · omega
  by_cases k3 : kind = 3
  · omega
  by_cases k4 : kind = 4
  · omega
  by_cases k5 : kind = 5
  · omega
  by_cases k6 : kind = 6
  · omega
  by_cases k7 : kind = 7
  · omega
  by_cases k8 : kind = 8
  · omega
  exfalso
  simp [k0, k1, k2, k3, k4, k5, k6, k7, k8] at h

/-- What KeyOf gives, and that it can be hashed where it is a key. -/
theorem keyV_hash (kind num : Int) (flt : Nat) (s : ByteArray) (ref : Int) (hs : s.size ≤ maxLen) (hf : flt < 18446744073709551616) :
    ∃ c k n f t r, keyV kind num flt s ref = KV c k n f t r ∧ (c = 0 → HK k f t) := by
  unfold keyV
  by_cases hv : validB kind num flt s ref = true
  · rw [if_pos hv]
    have hk := valid_kind hv
    by_cases h0 : kind = 0
    · rw [if_pos h0]; exact ⟨_, _, _, _, _, _, rfl, fun h => by omega⟩
    · rw [if_neg h0]
      by_cases h3 : kind = 3
      · rw [if_pos h3]
        by_cases hn : fnan flt = true
        · rw [if_pos hn]; exact ⟨_, _, _, _, _, _, rfl, fun h => by omega⟩
        · rw [if_neg hn]
          by_cases hw : wholeB flt = true
          · rw [if_pos hw]
            exact ⟨_, _, _, _, _, _, rfl, fun _ => ⟨by unfold maxLen; decide, by omega, by omega, fun h => by omega⟩⟩
          · rw [if_neg hw]
            refine ⟨_, _, _, _, _, _, rfl, fun _ => ⟨hs, hk.1, hk.2, fun _ => ⟨hf, by simpa using hn, ?_⟩⟩⟩
            rw [Bool.eq_false_iff]; intro hz; exact hw (fz_whole hz)
      · rw [if_neg h3]
        exact ⟨_, _, _, _, _, _, rfl, fun _ => ⟨hs, hk.1, hk.2, fun h => absurd h h3⟩⟩
  · rw [if_neg hv]; exact ⟨_, _, _, _, _, _, rfl, fun h => by omega⟩

end Go.Proofs.YtfceeijdmilieaaGreat
