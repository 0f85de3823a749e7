/-
  ZrB.
-/
import Derived.Test.YtfceeijdmilieaaGreatStKP
import Derived.Test.YtfceeijdmilieaaGreatZrAP
import Derived.KernelRfl
namespace Go.Proofs.YtfceeijdmilieaaGreat
open Go.RowKit
set_option linter.unusedVariables false

structure Tz (w : World) : Prop where
  z : w.cell? ⟨1, 44, none⟩ = some (.int .u8 0)
  p10 : Lib.TabIs Tryz.prog w "internal/strconv.uint64pow10" .u64 Lib.pow10Tab
  sz : 4 ≤ w.heap.size
theorem Tz.below {w w' : World} (h : Tz w) {B : Nat} (hb : Below B w w') (hB : 4 ≤ B) : Tz w' :=
  ⟨(hb.cell (p := ⟨1, 44, none⟩) (show 1 < B from by omega)).trans h.z,
   var?_below hb (show Tryz.prog.globalNamed "internal/strconv.uint64pow10" = some 2 from by kernel_rfl) (by omega) h.p10,
   Nat.le_trans h.sz hb.size⟩
theorem lastsZ : Lasts Tz := fun w w' hT hb => hT.below hb hT.sz

set_option maxHeartbeats 1000000 in
theorem ftext_coreZ (x z2 r u t : Nat) (ex a b : Int) (w : World) (hT : Tz w) (hZ : ∀ w : World, Tz w → Calls Tryz.prog 149 #[.int .u64 u] w fun e w' => e = .returned (.int .i64 (t : Int)) ∧ w' = w)
    (h1 : (FloatKind.f64.format.order x 9218868437227405311 == some .gt) = false) (h2 : (FloatKind.f64.format.order (Op.negFloat .f64 x) 9218868437227405311 == some .gt) = false)
    (hF : ∀ w : World, Calls Tryz.prog 148 #[.float .f64 x] w fun e w' => e = .returned (.tuple #[.float .f64 z2, .int .i64 ex]) ∧ w' = w)
    (hm : floatBits .mul .f64 z2 4845873199050653696 = some r) (hc : floatToIntVal .f64 r .i64 = some a)
    (hu : IntKind.u64.wrap a = (u : Int)) (hu0 : u ≠ 0) (hu1 : u < 18446744073709551616) (ht1 : t < 53) (hb : a / 2 ^ t = b)
    (hb1 : -9007199254740992 < b) (hb2 : b < 9007199254740992) (he1 : -1200 < ex) (he2 : ex < 1200) :
    Calls Tryz.prog 143 #[.float .f64 x] w fun e w' => e = .returned (.string ⟨(Lib.itoa b ++ [112] ++ Lib.itoa (ex - 53 + t)).toArray⟩) ∧ Below w.heap.size w w' := by
  have HF : Hid (∀ w : World, Calls Tryz.prog 148 #[.float .f64 x] w fun e w' => e = .returned (.tuple #[.float .f64 z2, .int .i64 ex]) ∧ w' = w) := hF
  have hr : ∀ w : World, (binOp .mul 83 (.float .f64 z2) (.float .f64 4845873199050653696)).run Tryz.prog w = .ok (.float .f64 r) w := fun w => run_float_arith w .mul 83 .f64 _ _ r hm
  have hcv : ∀ w : World, (convert 83 2 (.float .f64 r)).run Tryz.prog w = .ok (.int .i64 a) w := fun w => run_convert_float_int w 83 2 .f64 .i64 r _ (by kernel_rfl) Tryz.underlying2 hc
  have HZ := hide hZ
  have H2 : Hid ((FloatKind.f64.format.order (Op.negFloat .f64 x) 9218868437227405311 == some .gt) = false) := h2
  have H1 : Hid ((FloatKind.f64.format.order x 9218868437227405311 == some .gt) = false) := h1
  clear hF hm hc h2 h1 hZ
  go_enter Tryz.func143, Tryz.ntmps143
  go_wp2_with fail
  refine (isInf_pos x _).mono ?_
  rintro e w1 ⟨rfl, rfl⟩
  rw [H1.out]
  go_wp2_with fail
  refine (isInf_neg x _).mono ?_
  rintro e w1 ⟨rfl, rfl⟩
  rw [H2.out]
  go_wp2_with fail
  refine (HF.out _).mono ?_
  rintro e w1 ⟨rfl, rfl⟩
  go_wp2_with fail
  refine (unhide HZ _ hT).mono ?_
  rintro e w1 ⟨rfl, rfl⟩
  go_wp2_with fail
  refine (Tryz.strconv_FormatInt_10 b (by omega) (by omega) _ hT.p10).mono ?_
  rintro e w2 ⟨rfl, kk, os, hw2⟩
  have hb2' : Below w1.heap.size w1 w2 := by rw [hw2]; exact Lib.below_grow _ _ (Nat.le_refl _) _ _
  clear hw2
  have hT2 := hT.below hb2' hT.sz
  have hl1 := Lib.itoa_length_le b (by omega) (by omega)
  have hl2 := Lib.itoa_length_le (ex - 53 + t) (by omega) (by omega)
  go_wp2_with fail
  refine (Tryz.strconv_Itoa (ex - 53 + t) (by omega) (by omega) _ hT2.p10).mono ?_
  rintro e w3 ⟨rfl, k3, os3, hw3⟩
  have hb3' : Below w2.heap.size w2 w3 := by rw [hw3]; exact Lib.below_grow _ _ (Nat.le_refl _) _ _
  clear hw3
  go_wp2_with fail
  go_ret
  exact ⟨ret_str (by rw [ba_append, ba_append]), hb2'.trans (hb3'.mono hb2'.size)⟩

def zTxt : List UInt8 := [52, 53, 48, 51, 53, 57, 57, 54, 50, 55, 51, 55, 48, 52, 57, 54, 112, 45, 53, 51]
theorem zTxt_is : Lib.itoa 4503599627370496 ++ [112] ++ Lib.itoa (-53) = zTxt := by kernel_rfl

theorem tzZ (w : World) (hT : Tz w) : Calls Tryz.prog 149 #[.int .u64 ((4503599627370496 : Nat) : Int)] w fun e w' => e = .returned (.int .i64 ((0 : Nat) : Int)) ∧ w' = w :=
  tz64_core' 4503599627370496 0 44 w (by decide) (by kernel_rfl) (by decide) (by decide) hT.z

theorem floatTextZ (w : World) (hT : Tz w) : Calls Tryz.prog 143 #[.float .f64 4602678819172646912] w fun e w' => e = .returned (.string ⟨zTxt.toArray⟩) ∧ Below w.heap.size w w' := by
  have hr : Ieee.double.read 4602678819172646912 = .number false 4503599627370496 (-53) := by kernel_rfl
  obtain ⟨ya, y, e0, z, z2, k, j, F⟩ := Fl.frexp_facts 4602678819172646912 (by decide) false 4503599627370496 (-53) hr (by decide)
  have hj : j = 0 := by
    have h := F.hi
    rcases Nat.eq_zero_or_pos j with h0 | h0
    · exact h0
    · exfalso
      have : 2 ^ 1 ≤ 2 ^ j := Nat.pow_le_pow_right (by decide) h0
      have h2 : 4503599627370496 * 2 ≤ 4503599627370496 * 2 ^ j := Nat.mul_le_mul_left _ this
      have h3 : (4503599627370496 : Nat) * 2 ^ j < 9007199254740992 := h
      omega
  subst hj
  obtain ⟨r, q, l, hmul, hrd, hl1, hl2, hv⟩ := Fl.mul_exact F.rd Fl.read_p53 (by have := F.lo; omega) (by omega) (4503599627370496 * 2 ^ 0) 0 F.hi (by omega) (by omega) (shift53 (4503599627370496 * 2 ^ 0) _ _ (by decide))
  rw [Bool.xor_false] at hrd
  have hw := Fl.whole_of q l (4503599627370496 * 2 ^ 0) hl1 hv
  have hu := Fl.U_pos
  have hsc : Fl.sc false q l = Fl.sg false (4503599627370496 * 2 ^ 0) * Fl.U := by rw [Fl.sc_of false q l (4503599627370496 * 2 ^ 0) 0 hv, Fl.sc_whole]
  have hcv : floatToIntVal .f64 r .i64 = some (Fl.sg false (4503599627370496 * 2 ^ 0)) := by
    have h := Fl.toIntVal hrd hl1 (by
      rw [hsc]
      have : -9223372036854775808 ≤ Fl.sg false (4503599627370496 * 2 ^ 0) := by decide
      have := Int.mul_le_mul_of_nonneg_right this (Int.le_of_lt hu)
      omega) (by
      rw [hsc]
      have : Fl.sg false (4503599627370496 * 2 ^ 0) < 9223372036854775808 := by decide
      exact Int.mul_lt_mul_of_pos_right this hu)
    rw [hw] at h; exact h
  have hex := F.ex
  have c := ftext_coreZ 4602678819172646912 z2 r 4503599627370496 0 (k + ((e0 : Int) - 1023 + 1)) 4503599627370496 4503599627370496 w hT tzZ
    (Fl.not_above hr (by decide) (by decide) (by decide))
    (Fl.not_above (x := Op.negFloat .f64 4602678819172646912) (s := !false) (m := 4503599627370496) (i := -53) (by rw [Fl.read_neg _ (by decide), hr]; rfl) (by decide) (by decide) (by decide))
    (fun w => frexp_pub hr (by decide) (by decide) F w) hmul hcv (by decide) (by decide) (by decide) (by decide) (by decide)
    (by decide) (by decide) (by have := F.hk; have := F.he0; omega) (by have := F.hk2; have := F.he0; omega)
  have he1 : k + ((e0 : Int) - 1023 + 1) - 53 + ((0 : Nat) : Int) = -53 := by omega
  rw [he1, zTxt_is] at c
  exact c

/-- The key, and its hash there. -/
def zK : Vl := ⟨3, 0, 4602678819172646912, ⟨#[]⟩, 0⟩
def zH : Nat := (fnv zTxt).toNat
theorem zH_eq : ((zH : Nat) : Int) = fnv zTxt := by kernel_rfl

set_option maxHeartbeats 1000000 in
theorem hashKeyZ (w : World) (hT : Tz w) : Calls Tryz.prog 137 #[V 3 0 4602678819172646912 ⟨#[]⟩ 0] w fun e w' => e = .returned (.int .u64 (fnv zTxt)) ∧ Below w.heap.size w w' := by
  have HT := hide hT
  clear hT
  have hb0 : ∀ o, Below w.heap.size w (w.alloc o) := fun o => (Below.refl _ _).alloc (Nat.le_refl _) _
  have HB := hide hb0
  clear hb0
  go_enter Tryz.func137, Tryz.ntmps137
  go_wp2_with fail
  refine (floatTextZ _ (lastsZ _ _ (unhide HT) (unhide HB _))).mono ?_
  rintro e w1 ⟨rfl, hb⟩
  have HB1 := hide ((unhide HB _).trans (hb.mono (unhide HB _).size))
  clear hb
  go_wp2_with fail
  refine (hashText_any ⟨zTxt.toArray⟩ _ (by decide)).mono ?_
  rintro e w2 ⟨rfl, rfl⟩
  go_wp2_with fail
  go_ret
  exact ⟨rfl, unhide HB1⟩
theorem hsZ : HsI Tz zK zH := ⟨by decide +kernel, fun w hT => by rw [zH_eq]; exact hashKeyZ w hT⟩

/-- The dict. -/
def zD : Dc := ⟨1, fun _ => ⟨zK, ⟨2, 1, 0, ⟨#[]⟩, 0⟩, 1⟩, 0, fun _ => 0, 8, fun j => if j = 6 then 1 else 0, 1, 1, 1⟩
theorem zD_like : likeB zK zK = true := by kernel_rfl
theorem zD_hash : hN zK = 16356694445278592526 := by kernel_rfl
theorem zD_small : ¬ smallK zD.m zK := fun h => by have := h.1; exact absurd this (by decide)
theorem zD_sound : dictOk zD (hD zD) = 0 := by
  refine dictOk0 ⟨by decide, by decide, by decide, by decide, .inl (by decide)⟩ ⟨1, by kernel_rfl⟩ ⟨fun i hi => absurd (show i < 0 from hi) (Nat.not_lt_zero _), .inl rfl⟩ ⟨.inr ⟨by decide, by decide, 3, rfl⟩, ?_, by kernel_rfl, by decide⟩ ?_
  · intro j hj
    by_cases e : j = 6
    · subst e
      refine .inr (.inr ⟨by decide, by decide, by decide, zD_small⟩)
    · exact .inl (if_neg e)
  · intro i hi _
    have hi' : i < 1 := hi
    obtain rfl : i = 0 := by omega
    refine ⟨by decide, ?_, fun h => absurd h.1 (by decide)⟩
    show placeI zD zK (hN zK) = _
    unfold placeI
    rw [if_neg zD_small, zD_hash]
    have h1 : slotOf zD zK 16356694445278592526 = some 6 := by
      unfold slotOf
      rw [if_neg (by decide)]
      exact probe_hit (by decide) zD_like
    rw [h1]
    rfl
theorem zD_no : dictOk zD (fun _ => zH) = 5 := by
  refine dictOk5 ⟨by decide, by decide, by decide, by decide, .inl (by decide)⟩ ⟨1, by kernel_rfl⟩ ⟨fun i hi => absurd (show i < 0 from hi) (Nat.not_lt_zero _), .inl rfl⟩ ⟨.inr ⟨by decide, by decide, 3, rfl⟩, ?_, by kernel_rfl, by decide⟩ ?_
  · intro j hj
    by_cases e : j = 6
    · subst e
      refine .inr (.inr ⟨by decide, by decide, by decide, zD_small⟩)
    · exact .inl (if_neg e)
  · intro h
    have h1 := (h 0 (by decide) (by decide)).2.1
    have h2 : placeI zD zK zH = -1 := by
      unfold placeI
      rw [if_neg zD_small]
      have h3 : slotOf zD zK zH = none := by
        unfold slotOf
        rw [if_neg (by decide), show zH % zD.x = 3 by kernel_rfl]
        exact probe_zero (by decide)
      rw [h3]
      rfl
    have h3 : placeI zD zK zH = ((0 : Nat) : Int) := h1
    rw [h2] at h3
    exact absurd h3 (by decide)
theorem zD_Small : Small zD := ⟨by decide, by decide, by decide⟩
theorem zD_Wf : WfD zD := fun i _ => ⟨⟨show (4602678819172646912 : Nat) < 18446744073709551616 by decide, show (ByteArray.mk #[]).size ≤ maxLen by decide⟩, ⟨show (0 : Nat) < 18446744073709551616 by decide, show (ByteArray.mk #[]).size ≤ maxLen by decide⟩⟩
end Go.Proofs.YtfceeijdmilieaaGreat
