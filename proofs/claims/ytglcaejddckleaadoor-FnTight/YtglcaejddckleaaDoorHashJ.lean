/-
  The text of a float, both sides, at every key that is a float; the hash of a key.
-/
import Derived.Test.YtglcaejddckleaaDoorHashI
import Derived.Test.YtglcaejddckleaaDoorKeyF
namespace Go.Proofs.YtglcaejddckleaaDoor
open Go.RowKit
set_option linter.unusedVariables false

theorem num_ne {x : Nat} {s : Bool} {m : Nat} {i : Int} (hr : Ieee.double.read x = .number s m i) (hi : -1074 ≤ i) (hz : fz x = false) : m ≠ 0 := by
  intro e; subst e
  have h : (Ieee.double.order x 0 == some .eq) = false := hz
  rw [Fl.ord_of hr Fl.read_nil hi (by omega), Fl.cmp_eq, Fl.sc_zero, Fl.sc_zero] at h
  simp at h

theorem itext_any (x : Nat) (hx : x < 18446744073709551616) (hn : fnan x = false) (hz : fz x = false) (w : World) (hT : Tabs w) :
    Calls Tryd.prog 39 #[.float .f64 x] w fun e w' => e = .returned (.string ⟨(ftOf x).toArray⟩) ∧ Below w.heap.size w w' := by
  rcases Fl.read_cases x with ⟨s, m, i, hr, hi, hi2, hm, _⟩ | ⟨s, hr⟩ | ⟨s, t, hr⟩
  · have hm0 := num_ne hr hi hz
    obtain ⟨M, E, hO, hc⟩ := floatText_num x hx s m i hr hi hi2 hm hm0
    obtain ⟨e1, e2⟩ := oddF_unique hO (oddF_ctz m i hm0 hm)
    have e : ftOf x = ftext s (2 * M + 1) E := by unfold ftOf; rw [hr, e1, e2]
    rw [e]; exact hc w hT
  · cases s
    · have e : ftOf x = [105, 110, 102] := by unfold ftOf; rw [hr]; rfl
      rw [e]
      exact (itext_inf x w (Fl.inf_above hr)).mono fun e w' ⟨h1, h2⟩ => ⟨h1, h2 ▸ Below.refl _ _⟩
    · have e : ftOf x = [45, 105, 110, 102] := by unfold ftOf; rw [hr]; rfl
      rw [e]
      exact (itext_ninf x w (Fl.ninf_above hr) (Fl.inf_above (by rw [Fl.read_neg x hx, hr]; rfl))).mono fun e w' ⟨h1, h2⟩ => ⟨h1, h2 ▸ Below.refl _ _⟩
  · exfalso
    have h : (!(Ieee.double.order x x == some .eq)) = false := hn
    unfold Ieee.Format.order at h
    rw [hr] at h
    simp [Ieee.Datum.order] at h

theorem ctz_le (x : Nat) (h0 : x ≠ 0) (h : x < 2 ^ 53) : Lib.ctz 64 x ≤ 53 := by
  obtain ⟨M, _, h2⟩ := Fl.ctz_spec false x (by omega) h
  have : Fl.uw false x = x := rfl
  rw [this] at h2
  omega

theorem ftOf_len (x : Nat) (hn : fnan x = false) (hz : fz x = false) : (ftOf x).length ≤ 60 := by
  rcases Fl.read_cases x with ⟨s, m, i, hr, hi, hi2, hm, _⟩ | ⟨s, hr⟩ | ⟨s, t, hr⟩
  · have hm0 := num_ne hr hi hz
    have hc := ctz_le m hm0 hm
    unfold ftOf; rw [hr]
    unfold ftext
    have hM : m / 2 ^ Lib.ctz 64 m / 2 ≤ m := Nat.le_trans (Nat.div_le_self _ _) (Nat.div_le_self _ _)
    have h1 := Lib.itoa_length_le (Fl.sg s (2 * (m / 2 ^ Lib.ctz 64 m / 2) + 1)) (by cases s <;> simp only [Fl.sg, Bool.false_eq_true, if_false, if_true] <;> omega) (by cases s <;> simp only [Fl.sg, Bool.false_eq_true, if_false, if_true] <;> omega)
    have h2 := Lib.itoa_length_le (i + Lib.ctz 64 m) (by omega) (by omega)
    simp only [List.length_append, List.length_cons, List.length_nil]
    omega
  · unfold ftOf; rw [hr]; cases s <;> decide
  · unfold ftOf; rw [hr]; exact Nat.zero_le _

/-- The hash of a key as it stands. -/
def hashI (kind num : Int) (flt : Nat) (s : ByteArray) (ref : Int) : Int :=
  if kind = 4 then fnv s.data.toList
  else if kind = 3 then fnv (ftOf flt)
  else if kind = 2 then mixI (IntKind.u64.wrap num)
  else mixI (IntKind.u64.wrap (IntKind.u64.wrap (kind * 1099511627776 + IntKind.u64.wrap num) + IntKind.u64.wrap ref))

/-- What is asked of a key that is hashed: its string is one; its float is one, no NaN and no zero; its kind is small. -/
structure HK (kind : Int) (flt : Nat) (s : ByteArray) : Prop where
  str : s.size ≤ maxLen
  klo : 0 ≤ kind
  khi : kind ≤ 8
  flt : kind = 3 → flt < 18446744073709551616 ∧ fnan flt = false ∧ fz flt = false

set_option maxHeartbeats 1000000 in
theorem hashKey_any (kind num : Int) (flt : Nat) (s : ByteArray) (ref : Int) (w : World) (h : HK kind flt s) (hT : Tabs w) :
    Calls Tryd.prog 26 #[V kind num flt s ref] w fun e w' => e = .returned (.int .u64 (hashI kind num flt s ref)) ∧ Below w.heap.size w w' := by
  have hs := h.str
  have hk1 := h.klo
  have hk2 := h.khi
  by_cases k4 : kind = 4
  · subst k4
    have e : hashI 4 num flt s ref = fnv s.data.toList := by unfold hashI; rw [if_pos rfl]
    rw [e]
    clear e hk1 hk2
    go_enter Tryd.func26, Tryd.ntmps26
    go_wp2_with (go_at_call 38; refine (hashText_any s _ hs).mono ?_; rintro e w1 ⟨rfl, rfl⟩)
    go_ret
    exact ⟨rfl, (Below.refl _ _).alloc (Nat.le_refl _) _⟩
  have b4 : (kind == 4) = false := by simp [k4]
  by_cases k3 : kind = 3
  · subst k3
    obtain ⟨f1, f2, f3⟩ := h.flt rfl
    have e : hashI 3 num flt s ref = fnv (ftOf flt) := by unfold hashI; rw [if_neg (by decide), if_pos rfl]
    rw [e]
    have hl := ftOf_len flt f2 f3
    have HT : Hid (Tabs w) := hT
    clear e hk1 hk2 b4 k4
    go_enter Tryd.func26, Tryd.ntmps26
    go_wp2_with fail
    refine (itext_any flt f1 f2 f3 _ (HT.out.below ((Below.refl _ _).alloc (Nat.le_refl _) _) HT.out.sz)).mono ?_
    rintro e w1 ⟨rfl, hb⟩
    go_wp2_with fail
    refine (hashText_any ⟨(ftOf flt).toArray⟩ _ (by unfold maxLen; rw [show (ByteArray.mk (ftOf flt).toArray).size = (ftOf flt).length from by simp [ByteArray.size]]; omega)).mono ?_
    rintro e w2 ⟨rfl, rfl⟩
    go_wp2_with fail
    go_ret
    exact ⟨by simp, ((Below.refl _ _).alloc (Nat.le_refl _) _).trans (hb.mono (by simp))⟩
  have b3 : (kind == 3) = false := by simp [k3]
  by_cases k2 : kind = 2
  · subst k2
    have e : hashI 2 num flt s ref = mixI (IntKind.u64.wrap num) := by unfold hashI; rw [if_neg (by decide), if_neg (by decide), if_pos rfl]
    rw [e]
    have hr := wrap_u64_range num
    clear e hk1 hk2 b4 k4 b3 k3
    go_enter Tryd.func26, Tryd.ntmps26
    go_wp2_with (go_at_call 40; refine (mix_any _ _ hr.1 hr.2).mono ?_; rintro e w1 ⟨rfl, rfl⟩)
    go_ret
    exact ⟨rfl, (Below.refl _ _).alloc (Nat.le_refl _) _⟩
  have b2 : (kind == 2) = false := by simp [k2]
  have e : hashI kind num flt s ref = mixI (IntKind.u64.wrap (IntKind.u64.wrap (kind * 1099511627776 + IntKind.u64.wrap num) + IntKind.u64.wrap ref)) := by unfold hashI; rw [if_neg k4, if_neg k3, if_neg k2]
  rw [e]
  clear e k4 k3 k2
  go_enter Tryd.func26, Tryd.ntmps26
  have hr := wrap_u64_range (IntKind.u64.wrap (kind * 1099511627776 + IntKind.u64.wrap num) + IntKind.u64.wrap ref)
  go_wp2_with (go_at_call 40; refine (mix_any _ _ hr.1 hr.2).mono ?_; rintro e w1 ⟨rfl, rfl⟩)
  go_ret
  exact ⟨rfl, (Below.refl _ _).alloc (Nat.le_refl _) _⟩

end Go.Proofs.YtglcaejddckleaaDoor
