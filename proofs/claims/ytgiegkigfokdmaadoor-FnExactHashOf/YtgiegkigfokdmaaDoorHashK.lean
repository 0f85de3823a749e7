/-
  HashOf, of the program and of the model.
-/
import Derived.Test.YtgiegkigfokdmaaDoorHashJ
import Derived.Test.YtgiegkigfokdmaaDoorConv
namespace Go.Proofs.YtgiegkigfokdmaaDoor
open Go.RowKit
set_option linter.unusedVariables false
attribute [local go_sem] run_store_float run_equalIn_float

theorem fz_whole {x : Nat} (h : fz x = true) : wholeB x = true := by
  have h' : (Ieee.double.order x 0 == some .eq) = true := h
  rcases Fl.read_cases x with ⟨s, m, i, hr, hi, hi2, hm, _⟩ | ⟨s, hr⟩ | ⟨s, t, hr⟩
  · rw [Fl.ord_of hr Fl.read_nil hi (by omega), Fl.cmp_eq, Fl.sc_zero] at h'
    have h0 : Fl.sc s m i = 0 := by simpa using h'
    have hu := Fl.U_pos
    have g : geB x = true := by
      show (Ieee.double.order x 14114281232179134464 == some .gt || Ieee.double.order x 14114281232179134464 == some .eq) = true
      rw [Fl.ord_of hr Fl.read_m63 hi (by omega), Fl.sc_m63, Fl.cmp_gt, Fl.cmp_eq, h0]
      simp only [Bool.or_eq_true, decide_eq_true_eq]; left; omega
    have l : ltB x = true := by
      show (Ieee.double.order x 4890909195324358656 == some .lt) = true
      rw [Fl.ord_of hr Fl.read_c63 hi (by omega), Fl.sc_c63, Fl.cmp_lt, h0]
      simp only [decide_eq_true_eq]; omega
    have hn : fnan x = false := by
      show (!(Ieee.double.order x x == some .eq)) = false
      rw [Fl.ord_of hr hr hi hi, Fl.cmp_eq]; simp
    have ha : asIs x = true := by unfold asIs; rw [h]; simp
    unfold wholeB
    rw [g, l, asIs_whole ha hn g l]; rfl
  · exfalso
    unfold Ieee.Format.order at h'
    rw [hr, Fl.read_nil] at h'
    cases s <;> simp [Ieee.Datum.order] at h'
  · exfalso
    unfold Ieee.Format.order at h'
    rw [hr] at h'
    simp [Ieee.Datum.order] at h'

theorem valid_kind {kind num : Int} {flt : Nat} {s : ByteArray} {ref : Int} (h : validB kind num flt s ref = true) : 0 ≤ kind ∧ kind ≤ 8 := by
  unfold validB at h
  by_cases k0 : kind = 0
  · omega
  by_cases k1 : kind = 1
  · omega
  by_cases k2 : kind = 2
  · omega
  by_cases k3 : kind = 3
  · omega
  by_cases k4 : kind = 4
  · omega
  by_cases k5 : kind = 5
  · omega
  by_cases k6 : kind = 6
  · omega
  by_cases k7 : kind = 7
  · omega
  by_cases k8 : kind = 8
  · omega
  exfalso
  simp [k0, k1, k2, k3, k4, k5, k6, k7, k8] at h

/-- What KeyOf gives, and that it can be hashed where it is a key. -/
theorem keyV_hash (kind num : Int) (flt : Nat) (s : ByteArray) (ref : Int) (hs : s.size ≤ maxLen) (hf : flt < 18446744073709551616) :
    ∃ c k n f t r, keyV kind num flt s ref = KV c k n f t r ∧ (c = 0 → HK k f t) := by
  unfold keyV
  by_cases hv : validB kind num flt s ref = true
  · rw [if_pos hv]
    have hk := valid_kind hv
    by_cases h0 : kind = 0
    · rw [if_pos h0]; exact ⟨_, _, _, _, _, _, rfl, fun h => by omega⟩
    · rw [if_neg h0]
      by_cases h3 : kind = 3
      · rw [if_pos h3]
        by_cases hn : fnan flt = true
        · rw [if_pos hn]; exact ⟨_, _, _, _, _, _, rfl, fun h => by omega⟩
        · rw [if_neg hn]
          by_cases hw : wholeB flt = true
          · rw [if_pos hw]
            exact ⟨_, _, _, _, _, _, rfl, fun _ => ⟨by unfold maxLen; decide, by omega, by omega, fun h => by omega⟩⟩
          · rw [if_neg hw]
            refine ⟨_, _, _, _, _, _, rfl, fun _ => ⟨hs, hk.1, hk.2, fun _ => ⟨hf, by simpa using hn, ?_⟩⟩⟩
            rw [Bool.eq_false_iff]; intro hz; exact hw (fz_whole hz)
      · rw [if_neg h3]
        exact ⟨_, _, _, _, _, _, rfl, fun _ => ⟨hs, hk.1, hk.2, fun h => absurd h h3⟩⟩
  · rw [if_neg hv]; exact ⟨_, _, _, _, _, _, rfl, fun h => by omega⟩

set_option maxHeartbeats 1000000 in
theorem ihash_no (kind num : Int) (flt : Nat) (s : ByteArray) (ref : Int) (c k n : Int) (f : Nat) (t : ByteArray) (r : Int) (w : World) (hk : keyV kind num flt s ref = KV c k n f t r) (hc : (c != 0) = true) :
    Calls Tryd.prog 18 #[V kind num flt s ref] w fun e w' => e = .returned (.int .i64 0) ∧ Below w.heap.size w w' := by
  have HK' := hide hk
  clear hk
  go_enter Tryd.func18, Tryd.ntmps18
  go_wp2_with fail
  refine (ikey_any kind num flt s ref _).mono ?_
  rintro e w1 ⟨rfl, hb⟩
  rw [unhide HK']
  have hz := hb.size
  simp at hz
  go_wp2_with fail
  go_ret
  exact ⟨rfl, (((Below.refl _ _).alloc (Nat.le_refl _) _).trans (hb.mono (by simp))).alloc (by omega) _⟩

set_option maxHeartbeats 1000000 in
theorem ihash_yes (kind num : Int) (flt : Nat) (s : ByteArray) (ref : Int) (k n : Int) (f : Nat) (t : ByteArray) (r : Int) (w : World) (hk : keyV kind num flt s ref = KV 0 k n f t r) (hh : HK k f t) (hT : Tabs w) :
    Calls Tryd.prog 18 #[V kind num flt s ref] w fun e w' => e = .returned (.int .i64 (wrap64 (hashI k n f t r))) ∧ Below w.heap.size w w' := by
  have HK' := hide hk
  have HH := hide hh
  have HT := hide hT
  clear hk hh hT
  go_enter Tryd.func18, Tryd.ntmps18
  go_wp2_with fail
  refine (ikey_any kind num flt s ref _).mono ?_
  rintro e w1 ⟨rfl, hb⟩
  rw [unhide HK']
  have hz := hb.size
  simp at hz
  have b1 : Below w.heap.size w w1 := ((Below.refl _ _).alloc (Nat.le_refl _) _).trans (hb.mono (by simp))
  have HB := hide b1
  clear b1
  go_wp2_with fail
  refine (hashKey_any k n f t r _ (unhide HH) ((unhide HT).below ((unhide HB).alloc (by omega) _) (unhide HT).sz)).mono ?_
  rintro e w2 ⟨rfl, hb2⟩
  have hz2 := hb2.size
  go_wp2_with fail
  go_ret
  refine ⟨?_, (((unhide HB).alloc (by omega) _)).trans (hb2.mono (by simp; omega))⟩
  rfl

set_option maxHeartbeats 1000000 in
theorem shash_no (kind num : Int) (flt : Nat) (s : ByteArray) (ref : Int) (c k n : Int) (f : Nat) (t : ByteArray) (r : Int) (w : World) (hk : keyV kind num flt s ref = KV c k n f t r) (hc : (c != 0) = true) :
    Calls Tryd.prog 19 #[V kind num flt s ref] w fun e w' => e = .returned (.int .i64 0) ∧ Below w.heap.size w w' := by
  have HK' := hide hk
  clear hk
  go_enter Tryd.func19, Tryd.ntmps19
  go_wp2_with fail
  refine (skey_any kind num flt s ref _).mono ?_
  rintro e w1 ⟨rfl, hb⟩
  rw [unhide HK']
  have hz := hb.size
  simp at hz
  go_wp2_with fail
  go_ret
  exact ⟨rfl, (((Below.refl _ _).alloc (Nat.le_refl _) _).trans (hb.mono (by simp))).alloc (by omega) _⟩

set_option maxHeartbeats 1000000 in
theorem shash_yes (kind num : Int) (flt : Nat) (s : ByteArray) (ref : Int) (k n : Int) (f : Nat) (t : ByteArray) (r : Int) (w : World) (hk : keyV kind num flt s ref = KV 0 k n f t r) (hh : HK k f t) :
    Calls Tryd.prog 19 #[V kind num flt s ref] w fun e w' => e = .returned (.int .i64 (wrap64 (hashI k n f t r))) ∧ Below w.heap.size w w' := by
  have HK' := hide hk
  have HH := hide hh
  clear hk hh
  go_enter Tryd.func19, Tryd.ntmps19
  go_wp2_with fail
  refine (skey_any kind num flt s ref _).mono ?_
  rintro e w1 ⟨rfl, hb⟩
  rw [unhide HK']
  have hz := hb.size
  simp at hz
  have b1 : Below w.heap.size w w1 := ((Below.refl _ _).alloc (Nat.le_refl _) _).trans (hb.mono (by simp))
  have HB := hide b1
  clear b1
  go_wp2_with fail
  refine (l1hash_any k n f t r _ (unhide HH)).mono ?_
  rintro e w2 ⟨rfl, hb2⟩
  have hz2 := hb2.size
  go_wp2_with fail
  go_ret
  refine ⟨?_, (((unhide HB).alloc (by omega) _)).trans (hb2.mono (by simp; omega))⟩
  rfl

/-- The two HashOfs give one number. -/
theorem hash_both (kind num : Int) (flt : Nat) (s : ByteArray) (ref : Int) (hs : s.size ≤ maxLen) (hf : flt < 18446744073709551616) : ∃ z : Int,
    (∀ w : World, Tabs w → Calls Tryd.prog 18 #[V kind num flt s ref] w fun e w' => e = .returned (.int .i64 z) ∧ Below w.heap.size w w') ∧
    (∀ w : World, Calls Tryd.prog 19 #[V kind num flt s ref] w fun e w' => e = .returned (.int .i64 z) ∧ Below w.heap.size w w') := by
  obtain ⟨c, k, n, f, t, r, hk, hh⟩ := keyV_hash kind num flt s ref hs hf
  by_cases hc : c = 0
  · subst hc
    exact ⟨_, fun w hT => ihash_yes kind num flt s ref k n f t r w hk (hh rfl) hT, fun w => shash_yes kind num flt s ref k n f t r w hk (hh rfl)⟩
  · have hc' : (c != 0) = true := by simp [hc]
    exact ⟨0, fun w _ => ihash_no kind num flt s ref c k n f t r w hk hc', fun w => shash_no kind num flt s ref c k n f t r w hk hc'⟩
end Go.Proofs.YtgiegkigfokdmaaDoor
