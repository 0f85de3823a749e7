/-
  The text of a float, both sides, at every key that is a float; the hash of a key.
-/
import Derived.Test.YtglcaejddckleaaGreatDoorHashI
import Derived.Test.YtglcaejddckleaaGreatDoorKeyF
namespace Go.Proofs.YtglcaejddckleaaGreatDoor
open Go.RowKit
set_option linter.unusedVariables false

theorem num_ne {x : Nat} {s : Bool} {m : Nat} {i : Int} (hr : Ieee.double.read x = .number s m i) (hi : -1074 ≤ i) (hz : fz x = false) : m ≠ 0 := by
  intro e; subst e
  have h : (Ieee.double.order x 0 == some .eq) = false := hz
  rw [Fl.ord_of hr Fl.read_nil hi (by omega), Fl.cmp_eq, Fl.sc_zero, Fl.sc_zero] at h
  simp at h

theorem itext_any (x : Nat) (hx : x < 18446744073709551616) (hn : fnan x = false) (hz : fz x = false) (w : World) (hT : Tabs w) :
    Calls Tryz.prog 119 #[.float .f64 x] w fun e w' => e = .returned (.string ⟨(ftOf x).toArray⟩) ∧ Below w.heap.size w w' := by
  rcases Fl.read_cases x with ⟨s, m, i, hr, hi, hi2, hm, _⟩ | ⟨s, hr⟩ | ⟨s, t, hr⟩
  · have hm0 := num_ne hr hi hz
    obtain ⟨M, E, hO, hc⟩ := floatText_num x hx s m i hr hi hi2 hm hm0
    obtain ⟨e1, e2⟩ := oddF_unique hO (oddF_ctz m i hm0 hm)
    have e : ftOf x = ftext s (2 * M + 1) E := by unfold ftOf; rw [hr, e1, e2]
    rw [e]; exact hc w hT
  · cases s
    · have e : ftOf x = [105, 110, 102] := by unfold ftOf; rw [hr]; rfl
      rw [e]
      exact (itext_inf x w (Fl.inf_above hr)).mono fun e w' ⟨h1, h2⟩ => ⟨h1, h2 ▸ Below.refl _ _⟩
    · have e : ftOf x = [45, 105, 110, 102] := by unfold ftOf; rw [hr]; rfl
      rw [e]
      exact (itext_ninf x w (Fl.ninf_above hr) (Fl.inf_above (by rw [Fl.read_neg x hx, hr]; rfl))).mono fun e w' ⟨h1, h2⟩ => ⟨h1, h2 ▸ Below.refl _ _⟩
  · exfalso
    have h : (!(Ieee.double.order x x == some .eq)) = false := hn
    unfold Ieee.Format.order at h
    rw [hr] at h
    simp [Ieee.Datum.order] at h

theorem stext_any (x : Nat) (hx : x < 18446744073709551616) (hn : fnan x = false) (hz : fz x = false) (w : World) :
    Calls Tryz.prog 148 #[.float .f64 x] w fun e w' => e = .returned (.string ⟨(ftOf x).toArray⟩) ∧ Below w.heap.size w w' := by
  rcases Fl.read_cases x with ⟨s, m, i, hr, hi, hi2, hm, _⟩ | ⟨s, hr⟩ | ⟨s, t, hr⟩
  · have hm0 := num_ne hr hi hz
    have fin : ∀ M E, OddF m i M E → ftOf x = (if s then [45] else []) ++ Lib.itoa ((2 * M + 1 : Nat) : Int) ++ [112] ++ Lib.itoa E := by
      intro M E hO
      obtain ⟨e1, e2⟩ := oddF_unique hO (oddF_ctz m i hm0 hm)
      rw [← ftext_eq]; unfold ftOf; rw [hr, e1, e2]
    cases s
    · have hst : Fl.St x m i := ⟨m, i, hr, hi, hi2, hm, rfl⟩
      obtain ⟨g3, g2, g1⟩ := st_zero_ne hst hm0
      obtain ⟨r0, hr0, g5⟩ := Fl.half_ne hst hm0
      refine (spec_text_pos x x m r0 i w rfl hst hm0 hm hi hi2 g1 g2 g3 g3 hr0 g5).mono ?_
      rintro e w' ⟨⟨M, E, hO, rfl⟩, hb⟩
      refine ⟨?_, hb⟩
      rw [fin M E hO]; rfl
    · have hrn : Ieee.double.read (Op.negFloat .f64 x) = .number false m i := by rw [Fl.read_neg x hx, hr]; rfl
      have hst : Fl.St (Op.negFloat .f64 x) m i := ⟨m, i, hrn, hi, hi2, hm, rfl⟩
      obtain ⟨g4, _, _⟩ := st_zero_ne hst hm0
      obtain ⟨r0, hr0, g5⟩ := Fl.half_ne hst hm0
      have hpos : (0 : Int) < ((m * 2 ^ (i + 1074).toNat : Nat) : Int) := Int.ofNat_lt.2 (Nat.mul_pos (by omega) (Nat.two_pow_pos _))
      have g2 : (FloatKind.f64.format.order x 0 == some .lt) = true := by
        show (Ieee.double.order x 0 == some .lt) = true
        rw [Fl.ord_of hr Fl.read_nil hi (by omega), Fl.cmp_lt, Fl.sc_zero, Fl.sc_neg, Fl.sc_false]
        simp only [decide_eq_true_eq]; omega
      refine (spec_text_neg x (Op.negFloat .f64 x) m r0 i w rfl hst hm0 hm hi hi2 hn g2 hz g4 hr0 g5).mono ?_
      rintro e w' ⟨⟨M, E, hO, rfl⟩, hb⟩
      refine ⟨?_, hb⟩
      rw [fin M E hO]; rfl
  · cases s
    · have e : ftOf x = [105, 110, 102] := by unfold ftOf; rw [hr]; rfl
      rw [e]
      obtain ⟨r0, h1, h2⟩ := inf_half hr
      have g2 : (FloatKind.f64.format.order x 0 == some .lt) = false := by
        show (Ieee.double.order x 0 == some .lt) = false
        unfold Ieee.Format.order; rw [hr, Fl.read_nil]; rfl
      exact (stext_inf x r0 w hn g2 hz h1 h2).mono fun e w' ⟨h1, h2⟩ => ⟨h1, h2 ▸ Below.refl _ _⟩
    · have e : ftOf x = [45, 105, 110, 102] := by unfold ftOf; rw [hr]; rfl
      rw [e]
      have hrn : Ieee.double.read (Op.negFloat .f64 x) = .infinity false := by rw [Fl.read_neg x hx, hr]; rfl
      obtain ⟨r0, h1, h2⟩ := inf_half hrn
      have g2 : (FloatKind.f64.format.order x 0 == some .lt) = true := by
        show (Ieee.double.order x 0 == some .lt) = true
        unfold Ieee.Format.order; rw [hr, Fl.read_nil]; rfl
      have g4 : (FloatKind.f64.format.order (Op.negFloat .f64 x) 0 == some .eq) = false := by
        show (Ieee.double.order _ 0 == some .eq) = false
        unfold Ieee.Format.order; rw [hrn, Fl.read_nil]; rfl
      exact (stext_ninf x r0 w hn g2 g4 h1 h2).mono fun e w' ⟨h1, h2⟩ => ⟨h1, h2 ▸ Below.refl _ _⟩
  · exfalso
    have h : (!(Ieee.double.order x x == some .eq)) = false := hn
    unfold Ieee.Format.order at h
    rw [hr] at h
    simp [Ieee.Datum.order] at h

theorem ctz_le (x : Nat) (h0 : x ≠ 0) (h : x < 2 ^ 53) : Lib.ctz 64 x ≤ 53 := by
  obtain ⟨M, _, h2⟩ := Fl.ctz_spec false x (by omega) h
  have : Fl.uw false x = x := rfl
  rw [this] at h2
  omega

theorem ftOf_len (x : Nat) (hn : fnan x = false) (hz : fz x = false) : (ftOf x).length ≤ 60 := by
  rcases Fl.read_cases x with ⟨s, m, i, hr, hi, hi2, hm, _⟩ | ⟨s, hr⟩ | ⟨s, t, hr⟩
  · have hm0 := num_ne hr hi hz
    have hc := ctz_le m hm0 hm
    unfold ftOf; rw [hr]
    unfold ftext
    have hM : m / 2 ^ Lib.ctz 64 m / 2 ≤ m := Nat.le_trans (Nat.div_le_self _ _) (Nat.div_le_self _ _)
    have h1 := Lib.itoa_length_le (Fl.sg s (2 * (m / 2 ^ Lib.ctz 64 m / 2) + 1)) (by cases s <;> simp only [Fl.sg, Bool.false_eq_true, if_false, if_true] <;> omega) (by cases s <;> simp only [Fl.sg, Bool.false_eq_true, if_false, if_true] <;> omega)
    have h2 := Lib.itoa_length_le (i + Lib.ctz 64 m) (by omega) (by omega)
    simp only [List.length_append, List.length_cons, List.length_nil]
    omega
  · unfold ftOf; rw [hr]; cases s <;> decide
  · unfold ftOf; rw [hr]; exact Nat.zero_le _

/-- The hash of a key as it stands. -/
def hashI (kind num : Int) (flt : Nat) (s : ByteArray) (ref : Int) : Int :=
  if kind = 4 then fnv s.data.toList
  else if kind = 3 then fnv (ftOf flt)
  else if kind = 2 then mixI (IntKind.u64.wrap num)
  else mixI (IntKind.u64.wrap (IntKind.u64.wrap (kind * 1099511627776 + IntKind.u64.wrap num) + IntKind.u64.wrap ref))

/-- What is asked of a key that is hashed: its string is one; its float is one, no NaN and no zero; its kind is small. -/
structure HK (kind : Int) (flt : Nat) (s : ByteArray) : Prop where
  str : s.size ≤ maxLen
  klo : 0 ≤ kind
  khi : kind ≤ 8
  flt : kind = 3 → flt < 18446744073709551616 ∧ fnan flt = false ∧ fz flt = false

set_option maxHeartbeats 1000000 in
theorem hashKey_any (kind num : Int) (flt : Nat) (s : ByteArray) (ref : Int) (w : World) (h : HK kind flt s) (hT : Tabs w) :
    Calls Tryz.prog 94 #[V kind num flt s ref] w fun e w' => e = .returned (.int .u64 (hashI kind num flt s ref)) ∧ Below w.heap.size w w' := by
  have hs := h.str
  have hk1 := h.klo
  have hk2 := h.khi
  by_cases k4 : kind = 4
  · subst k4
    have e : hashI 4 num flt s ref = fnv s.data.toList := by unfold hashI; rw [if_pos rfl]
    rw [e]
    clear e hk1 hk2
    go_enter Tryz.func94, Tryz.ntmps94
    go_wp2_with (go_at_call 118; refine (hashText_any s _ hs).mono ?_; rintro e w1 ⟨rfl, rfl⟩)
    go_ret
    exact ⟨rfl, (Below.refl _ _).alloc (Nat.le_refl _) _⟩
  have b4 : (kind == 4) = false := by simp [k4]
  by_cases k3 : kind = 3
  · subst k3
    obtain ⟨f1, f2, f3⟩ := h.flt rfl
    have e : hashI 3 num flt s ref = fnv (ftOf flt) := by unfold hashI; rw [if_neg (by decide), if_pos rfl]
    rw [e]
    have hl := ftOf_len flt f2 f3
    have HT : Hid (Tabs w) := hT
    clear e hk1 hk2 b4 k4
    go_enter Tryz.func94, Tryz.ntmps94
    go_wp2_with fail
    refine (itext_any flt f1 f2 f3 _ (HT.out.below ((Below.refl _ _).alloc (Nat.le_refl _) _) HT.out.sz)).mono ?_
    rintro e w1 ⟨rfl, hb⟩
    go_wp2_with fail
    refine (hashText_any ⟨(ftOf flt).toArray⟩ _ (by unfold maxLen; rw [show (ByteArray.mk (ftOf flt).toArray).size = (ftOf flt).length from by simp [ByteArray.size]]; omega)).mono ?_
    rintro e w2 ⟨rfl, rfl⟩
    go_wp2_with fail
    go_ret
    exact ⟨by simp, ((Below.refl _ _).alloc (Nat.le_refl _) _).trans (hb.mono (by simp))⟩
  have b3 : (kind == 3) = false := by simp [k3]
  by_cases k2 : kind = 2
  · subst k2
    have e : hashI 2 num flt s ref = mixI (IntKind.u64.wrap num) := by unfold hashI; rw [if_neg (by decide), if_neg (by decide), if_pos rfl]
    rw [e]
    have hr := wrap_u64_range num
    clear e hk1 hk2 b4 k4 b3 k3
    go_enter Tryz.func94, Tryz.ntmps94
    go_wp2_with (go_at_call 120; refine (mix_any _ _ hr.1 hr.2).mono ?_; rintro e w1 ⟨rfl, rfl⟩)
    go_ret
    exact ⟨rfl, (Below.refl _ _).alloc (Nat.le_refl _) _⟩
  have b2 : (kind == 2) = false := by simp [k2]
  have e : hashI kind num flt s ref = mixI (IntKind.u64.wrap (IntKind.u64.wrap (kind * 1099511627776 + IntKind.u64.wrap num) + IntKind.u64.wrap ref)) := by unfold hashI; rw [if_neg k4, if_neg k3, if_neg k2]
  rw [e]
  clear e k4 k3 k2
  go_enter Tryz.func94, Tryz.ntmps94
  have hr := wrap_u64_range (IntKind.u64.wrap (kind * 1099511627776 + IntKind.u64.wrap num) + IntKind.u64.wrap ref)
  go_wp2_with (go_at_call 120; refine (mix_any _ _ hr.1 hr.2).mono ?_; rintro e w1 ⟨rfl, rfl⟩)
  go_ret
  exact ⟨rfl, (Below.refl _ _).alloc (Nat.le_refl _) _⟩

set_option maxHeartbeats 1000000 in
theorem l1hash_any (kind num : Int) (flt : Nat) (s : ByteArray) (ref : Int) (w : World) (h : HK kind flt s) :
    Calls Tryz.prog 133 #[V kind num flt s ref] w fun e w' => e = .returned (.int .u64 (hashI kind num flt s ref)) ∧ Below w.heap.size w w' := by
  have hs := h.str
  have hk1 := h.klo
  have hk2 := h.khi
  by_cases k4 : kind = 4
  · subst k4
    have e : hashI 4 num flt s ref = fnv s.data.toList := by unfold hashI; rw [if_pos rfl]
    rw [e]
    clear e hk1 hk2
    go_enter Tryz.func133, Tryz.ntmps133
    go_wp2_with (go_at_call 147; refine (l1bytes_any s _ hs).mono ?_; rintro e w1 ⟨rfl, rfl⟩)
    go_ret
    exact ⟨rfl, (Below.refl _ _).alloc (Nat.le_refl _) _⟩
  have b4 : (kind == 4) = false := by simp [k4]
  by_cases k3 : kind = 3
  · subst k3
    obtain ⟨f1, f2, f3⟩ := h.flt rfl
    have e : hashI 3 num flt s ref = fnv (ftOf flt) := by unfold hashI; rw [if_neg (by decide), if_pos rfl]
    rw [e]
    have hl := ftOf_len flt f2 f3
    clear e hk1 hk2 b4 k4
    go_enter Tryz.func133, Tryz.ntmps133
    go_wp2_with fail
    refine (stext_any flt f1 f2 f3 _).mono ?_
    rintro e w1 ⟨rfl, hb⟩
    go_wp2_with fail
    refine (l1bytes_any ⟨(ftOf flt).toArray⟩ _ (by unfold maxLen; rw [show (ByteArray.mk (ftOf flt).toArray).size = (ftOf flt).length from by simp [ByteArray.size]]; omega)).mono ?_
    rintro e w2 ⟨rfl, rfl⟩
    go_wp2_with fail
    go_ret
    exact ⟨by simp, ((Below.refl _ _).alloc (Nat.le_refl _) _).trans (hb.mono (by simp))⟩
  have b3 : (kind == 3) = false := by simp [k3]
  by_cases k2 : kind = 2
  · subst k2
    have e : hashI 2 num flt s ref = mixI (IntKind.u64.wrap num) := by unfold hashI; rw [if_neg (by decide), if_neg (by decide), if_pos rfl]
    rw [e]
    have hr := wrap_u64_range num
    clear e hk1 hk2 b4 k4 b3 k3
    go_enter Tryz.func133, Tryz.ntmps133
    go_wp2_with (go_at_call 149; refine (l1mix_any _ _ hr.1 hr.2).mono ?_; rintro e w1 ⟨rfl, rfl⟩)
    go_ret
    exact ⟨rfl, (Below.refl _ _).alloc (Nat.le_refl _) _⟩
  have b2 : (kind == 2) = false := by simp [k2]
  have e : hashI kind num flt s ref = mixI (IntKind.u64.wrap (IntKind.u64.wrap (kind * 1099511627776 + IntKind.u64.wrap num) + IntKind.u64.wrap ref)) := by unfold hashI; rw [if_neg k4, if_neg k3, if_neg k2]
  rw [e]
  clear e k4 k3 k2
  go_enter Tryz.func133, Tryz.ntmps133
  have hr := wrap_u64_range (IntKind.u64.wrap (kind * 1099511627776 + IntKind.u64.wrap num) + IntKind.u64.wrap ref)
  go_wp2_with (go_at_call 149; refine (l1mix_any _ _ hr.1 hr.2).mono ?_; rintro e w1 ⟨rfl, rfl⟩)
  go_ret
  exact ⟨rfl, (Below.refl _ _).alloc (Nat.le_refl _) _⟩
end Go.Proofs.YtglcaejddckleaaGreatDoor
