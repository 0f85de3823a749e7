/-
  The text of a float, of the model: the walk.
-/
import Derived.Test.YtglcaejddckleaaGreatDoorHashF
namespace Go.Proofs.YtglcaejddckleaaGreatDoor
open Go.RowKit
set_option linter.unusedVariables false

set_option maxRecDepth 100000 in
set_option maxHeartbeats 4000000 in
theorem spec_text_pos (x y m r0 : Nat) (i : Int) (w : World) (hy : y = x) (hst : Fl.St y m i) (hm : m ≠ 0) (hm2 : m < 2 ^ 53) (hi : -1074 ≤ i) (hi2 : i ≤ 971)
    (g1 : (FloatKind.f64.format.order x x != some .eq) = false) (g2 : (FloatKind.f64.format.order x 0 == some .lt) = false) (g3 : (FloatKind.f64.format.order x 0 == some .eq) = false) (g4 : (FloatKind.f64.format.order y 0 == some .eq) = false)
    (hr0 : floatBits .mul .f64 y 4602678819172646912 = some r0) (g5 : (FloatKind.f64.format.order r0 y == some .eq) = false) :
    Calls Tryz.prog 148 #[.float .f64 x] w fun e w' => (∃ M E, OddF m i M E ∧ e = .returned (.string ⟨([] ++ Lib.itoa ((2 * M + 1 : Nat) : Int) ++ [112] ++ Lib.itoa E).toArray⟩)) ∧ Below w.heap.size w w' := by
  have hmul0 : ∀ w : World, (binOp .mul 28 (.float .f64 y) (.float .f64 4602678819172646912)).run Tryz.prog w = .ok (.float .f64 r0) w := fun w => run_float_arith w .mul 28 .f64 _ _ r0 hr0
  subst hy
  have G1 : Hid ((FloatKind.f64.format.order y y != some .eq) = false) := g1
  clear hr0
  go_enter Tryz.func148, Tryz.ntmps148
  go_wp2_with (go_at_call 57; refine (l1nan_no y _ G1.out).mono ?_; rintro e w1 ⟨rfl, rfl⟩)
  clear hmul0 g1 g2 g3 g4 g5 G1
  go_loop [0, 4] (fun f e => ∃ k v : Nat, k ≤ 1074 ∧ f = .float .f64 v ∧ e = .int .i64 (k : Int) ∧ Fl.St v m (i + k) ∧ i + k ≤ 971) (fun _ e => (-(i + intOf e)).toNat)
  case atStart => exact ⟨0, y, by omega, rfl, rfl, by simpa using hst, by omega⟩
  case round =>
    obtain ⟨k, v, hk, rfl, rfl, hs, hb⟩ := hrel
    obtain ⟨r, hiff, hc⟩ := floor_st hs
    have HC : Hid (∀ w : World, Calls Tryz.prog 58 #[.float .f64 v] w fun e w' => e = .returned (.float .f64 r) ∧ w' = w) := hc
    have HS : Hid (Fl.St v m (i + k)) := hs
    clear hc hs
    by_cases hwh : wh m (i + k)
    · have t1 : (FloatKind.f64.format.order v r != some .eq) = false := by simpa using hiff.2 hwh
      have HW : Hid (wh m (i + k)) := hwh
      clear hiff hwh
      go_wp2_with (go_at_call 58; refine (HC.out _).mono ?_; rintro e w1 ⟨rfl, rfl⟩)
      clear t1
      go_loop [0, 4] (fun f e => ∃ (v : Nat) (E : Int), f = .float .f64 v ∧ e = .int .i64 E ∧ Fl.St v m (i - E) ∧ wh m (i - E) ∧ i - E ≤ 971) (fun _ e => (i - intOf e + 60).toNat)
      case atStart => exact ⟨v, -(k : Int), rfl, by go_num, by rw [show i - -(k : Int) = i + k from by omega]; exact HS.out, by rw [show i - -(k : Int) = i + k from by omega]; exact HW.out, by omega⟩
      case round =>
        clear HC HS HW
        obtain ⟨v, E, rfl, rfl, hs, hw, hb⟩ := hrel
        have hlow := wh_low hw hm hm2 (by
          obtain ⟨N, hN⟩ := hw
          apply Int.le_of_not_gt
          intro hlt
          obtain ⟨q, l, _, _, _, hq, hq0, hv⟩ := Fl.st_pos hs hm
          have e0 : (i - E + 1074).toNat = 0 := by omega
          rw [e0, Nat.pow_zero, Nat.mul_one] at hN
          have hN0 : N ≠ 0 := by intro e; subst e; omega
          have : 1 * 2 ^ ((0 : Int) + 1074).toNat ≤ N * 2 ^ ((0 : Int) + 1074).toNat := Nat.mul_le_mul_right _ (by omega)
          have h53 : 2 ^ 53 ≤ 2 ^ ((0 : Int) + 1074).toNat := Nat.pow_le_pow_right (by omega) (by decide)
          omega)
        have hE1 : -3000 < E := by omega
        have hE2 : E < 3000 := by omega
        obtain ⟨h, hmul, sth⟩ := Fl.st_half hs hm hm2 (by omega) (by omega)
        have hmulr : ∀ w : World, (binOp .mul 28 (.float .f64 v) (.float .f64 4602678819172646912)).run Tryz.prog w = .ok (.float .f64 h) w := fun w => run_float_arith w .mul 28 .f64 _ _ h hmul
        obtain ⟨r, hiff, hc⟩ := floor_st sth
        have HC : Hid (∀ w : World, Calls Tryz.prog 58 #[.float .f64 h] w fun e w' => e = .returned (.float .f64 r) ∧ w' = w) := hc
        have HS : Hid (Fl.St v m (i - E)) := hs
        have HW : Hid (wh m (i - E)) := hw
        have HH : Hid (Fl.St h m (i - E - 1)) := sth
        clear hc hs sth hmul hw
        by_cases hwh : wh m (i - E - 1)
        · have t1 : (FloatKind.f64.format.order h r == some .eq) = true := hiff.2 hwh
          have HW2 : Hid (wh m (i - E - 1)) := hwh
          clear hiff hwh
          go_wp2_with (go_at_call 58; refine (HC.out _).mono ?_; rintro e w1 ⟨rfl, rfl⟩)
          go_round
          case rel => exact ⟨h, E + 1, rfl, by go_num, by rw [show i - (E + 1) = i - E - 1 from by omega]; exact HH.out, by rw [show i - (E + 1) = i - E - 1 from by omega]; exact HW2.out, by omega⟩
          case measure => simp [intOf]; omega
        · have t1 : (FloatKind.f64.format.order h r == some .eq) = false := by
            rw [Bool.eq_false_iff]; intro k; exact hwh (hiff.1 k)
          obtain ⟨M, hM⟩ := wh_odd HW.out hm (by omega) hwh
          have HO : Hid (OddF m i M E) := by
            have := odd_of (i := i) hM (by omega)
            rw [show i - (i - E) = E from by omega] at this
            exact this
          obtain ⟨q, l, hrd, hl1, hl2, hq, hq0, hv⟩ := Fl.st_pos HS.out hm
          have hwn := Fl.whole_of q l (2 * M + 1) hl1 (hv.trans hM)
          have hM53 : 2 * M + 1 < 9007199254740992 := by
            by_cases hl0 : 0 < l
            · exfalso
              unfold Fl.whole at hwn
              rw [if_pos (by omega)] at hwn
              obtain ⟨c, hc⟩ : ∃ c, l.toNat = c + 1 := ⟨l.toNat - 1, by omega⟩
              rw [hc, Nat.pow_succ, ← Nat.mul_assoc] at hwn
              omega
            · have : Fl.whole q l ≤ q := by
                unfold Fl.whole
                split
                · have : l = 0 := by omega
                  subst this; simp
                · exact Nat.div_le_self _ _
              omega
          have hcv : ∀ w : World, (convert 28 2 (.float .f64 v)).run Tryz.prog w = .ok (.int .i64 ((2 * M + 1 : Nat) : Int)) w := by
            intro w
            have hsc : Fl.sc false q l = ((2 * M + 1 : Nat) : Int) * Fl.U := by rw [Fl.sc_of false q l (2 * M + 1) 0 (hv.trans hM), Fl.sc_whole]; rfl
            have hu := Fl.U_pos
            have := Fl.toIntVal hrd hl1 (by
              rw [hsc]
              have : (0 : Int) ≤ ((2 * M + 1 : Nat) : Int) * Fl.U := Int.mul_nonneg (by omega) (by omega)
              omega) (by
              rw [hsc]
              exact Int.mul_lt_mul_of_pos_right (by omega) hu)
            rw [hwn] at this
            exact run_convert_float_int w 28 2 .f64 .i64 v _ (by kernel_rfl) Tryz.underlying2 this
          clear hiff hwh hv hrd hwn hM hq hq0 hl1 hl2
          generalize hMM : 2 * M + 1 = D at hcv hM53
          have HMM : Hid (2 * M + 1 = D) := hMM
          clear hMM
          have hd1 := Lib.itoa_length_le (D : Int) (by omega) (by omega)
          have hd2 := Lib.itoa_length_le E (by omega) (by omega)
          go_wp2_with (go_at_call 58; refine (HC.out _).mono ?_; rintro e w1 ⟨rfl, rfl⟩)
          refine (decimal_any (D : Int) (by omega) (by omega) _).mono ?_
          rintro e w2 ⟨rfl, hb2⟩
          go_wp2_with fail
          refine (decimal_any E (by omega) (by omega) _).mono ?_
          rintro e w3 ⟨rfl, hb3⟩
          go_wp2_with fail
          go_ret
          refine ⟨⟨M, E, HO.out, ret_str ?_⟩, hb2.trans (hb3.mono hb2.size)⟩
          have e0 : (⟨#[]⟩ : ByteArray) ++ ⟨(Lib.itoa (D : Int)).toArray⟩ = ⟨(Lib.itoa (D : Int)).toArray⟩ := ba_append [] _
          rw [HMM.out, e0, ba_append, ba_append]
    · have t1 : (FloatKind.f64.format.order v r != some .eq) = true := by
        rw [bne_iff_ne]; intro e; apply hwh; apply hiff.1; rw [e]; rfl
      have hp0 : i + k < 0 := by
        apply Int.lt_of_not_ge; intro h; exact hwh (wh_nonneg m _ h)
      obtain ⟨v2, hmul, st2⟩ := Fl.st_double HS.out hm hm2 (by omega) (by omega)
      have hmulr : ∀ w : World, (binOp .mul 28 (.float .f64 v) (.float .f64 4611686018427387904)).run Tryz.prog w = .ok (.float .f64 v2) w := fun w => run_float_arith w .mul 28 .f64 _ _ v2 hmul
      have H2 : Hid (Fl.St v2 m (i + k + 1)) := st2
      clear hiff hwh hmul st2
      go_wp2_with (go_at_call 58; refine (HC.out _).mono ?_; rintro e w1 ⟨rfl, rfl⟩)
      go_round
      case rel => exact ⟨k + 1, v2, by omega, rfl, by go_num, by rw [show i + ((k + 1 : Nat) : Int) = i + k + 1 from by omega]; exact H2.out, by omega⟩
      case measure => simp [intOf]; omega
end Go.Proofs.YtglcaejddckleaaGreatDoor
