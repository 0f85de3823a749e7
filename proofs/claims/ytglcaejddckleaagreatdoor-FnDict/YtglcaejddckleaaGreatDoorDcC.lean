/-
  Dicts: the model's rules 1 and 2.
-/
import Derived.Test.YtglcaejddckleaaGreatDoorDcB
import Derived.Deep.QuietTactic
import Derived.BigQuiet
namespace Go.Proofs.YtglcaejddckleaaGreatDoor
open Go.RowKit
set_option linter.unusedVariables false
attribute [local go_sem] run_store_float run_equalIn_float

abbrev Pc (c o : Nat) : Value := .pointer (some ⟨c, o, none⟩)

set_option maxHeartbeats 1000000 in
theorem l1sizes_any (c o : Nat) (la : Option Addr) (lc : Nat) (ia : Option Addr) (ic : Nat) (xa : Option Addr) (xc : Nat) (d : Dc) (w : World) (hD : DPtr w c o la lc ia ic xa xc d) (hS : Small d) :
    Calls Tryz.prog 72 #[Pc c o] w fun e w' => e = .returned (.bool (tells (D1 d))) ∧ Below w.heap.size w w' := by
  have hn := hS.n
  have c0 := hD.c0
  have c4 := hD.c4
  have c5 := hD.c5
  have hlt := hD.lt
  clear hD hS
  by_cases h1 : d.live < 0
  · have HT := hide (tells_no (p := D1 d) (fun h => by unfold D1 at h; omega))
    go_enter Tryz.func72, Tryz.ntmps72
    go_wp2
    go_ret
    exact ⟨by rw [unhide HT]; rfl, Below.refl _ _⟩
  by_cases h2 : 500 < d.live
  · have HT := hide (tells_no (p := D1 d) (fun h => by unfold D1 at h; omega))
    go_enter Tryz.func72, Tryz.ntmps72
    go_wp2
    go_ret
    exact ⟨by rw [unhide HT]; rfl, Below.refl _ _⟩
  by_cases h3 : d.turns < 0
  · have HT := hide (tells_no (p := D1 d) (fun h => by unfold D1 at h; omega))
    go_enter Tryz.func72, Tryz.ntmps72
    go_wp2
    go_ret
    exact ⟨by rw [unhide HT]; rfl, Below.refl _ _⟩
  by_cases h4 : 1000000000000 < d.turns
  · have HT := hide (tells_no (p := D1 d) (fun h => by unfold D1 at h; omega))
    go_enter Tryz.func72, Tryz.ntmps72
    go_wp2
    go_ret
    exact ⟨by rw [unhide HT]; rfl, Below.refl _ _⟩
  by_cases h5 : (d.n : Int) ≤ 8
  · have HT := hide (tells_yes (p := D1 d) ⟨by omega, by omega, by omega, by omega, .inl h5⟩)
    have hd : decide ((d.n : Int) ≤ 8) = true := by simp [h5]
    go_enter Tryz.func72, Tryz.ntmps72
    go_wp2
    go_quiet (fail)
    go_wp2
    go_ret
    exact ⟨by rw [unhide HT]; rfl, below_drewN' (Below.refl _ _) _⟩
  have hd : decide ((d.n : Int) ≤ 8) = false := by simp [h5]
  have hw : IntKind.i64.wrap (2 * d.live) = 2 * d.live := by rw [IntKind.wrap_i64]; omega
  by_cases h6 : (d.n : Int) ≤ 2 * d.live
  · have HT := hide (tells_yes (p := D1 d) ⟨by omega, by omega, by omega, by omega, .inr h6⟩)
    have hd' : decide ((d.n : Int) ≤ 2 * d.live) = true := by simp [h6]
    go_enter Tryz.func72, Tryz.ntmps72
    go_wp2
    go_quiet (fail)
    go_wp2
    go_ret
    exact ⟨by rw [unhide HT]; rfl, below_drewN' (Below.refl _ _) _⟩
  · have HT := hide (tells_no (p := D1 d) (fun h => by unfold D1 at h; omega))
    have hd' : decide ((d.n : Int) ≤ 2 * d.live) = false := by simp [h6]
    go_enter Tryz.func72, Tryz.ntmps72
    go_wp2
    go_quiet (fail)
    go_wp2
    go_ret
    exact ⟨by rw [unhide HT]; rfl, below_drewN' (Below.refl _ _) _⟩

set_option maxHeartbeats 1000000 in
theorem l1none_any (v : Vl) (w : World) :
    Calls Tryz.prog 109 #[V v.kind v.num v.flt v.str v.ref] w fun e w' => e = .returned (.bool (noneB v)) ∧ Below w.heap.size w w' := by
  by_cases h : v.kind = 0
  · have hk : (v.kind == 0) = true := by simp [h]
    have HT : Hid (noneB v = v.ok) := hide (by unfold noneB; rw [hk]; rfl)
    clear h
    go_enter Tryz.func109, Tryz.ntmps109
    go_wp2_with (go_at_call 56; refine (valueOk_any v.kind v.num v.flt v.str v.ref _).mono ?_; rintro e w1 ⟨rfl, hb⟩)
    go_ret
    exact ⟨by rw [unhide HT]; rfl, ((Below.refl _ _).alloc (Nat.le_refl _) _).trans (hb.mono (by simp))⟩
  · have hk : (v.kind == 0) = false := by simp [h]
    have HT : Hid (noneB v = false) := hide (by unfold noneB; rw [hk]; rfl)
    clear h
    go_enter Tryz.func109, Tryz.ntmps109
    go_wp2
    go_ret
    exact ⟨by rw [unhide HT]; rfl, (Below.refl _ _).alloc (Nat.le_refl _) _⟩

/-- What KeyOf gives, told by keyB. -/
theorem keyV_cases (v : Vl) : (keyB v = true ∧ keyV v.kind v.num v.flt v.str v.ref = KV 0 v.kind v.num v.flt v.str v.ref) ∨ (keyB v = false ∧ ∃ c k n f t r, keyV v.kind v.num v.flt v.str v.ref = KV c k n f t r ∧ (c ≠ 0 ∨ (v.kind = 3 ∧ k = 2))) := by
  unfold keyV keyB Vl.ok
  by_cases hv : validB v.kind v.num v.flt v.str v.ref = true
  · rw [if_pos hv, hv]
    by_cases h0 : v.kind = 0
    · rw [if_pos h0]; right; exact ⟨by simp [h0], 1, 0, 0, 0, ⟨#[]⟩, 0, rfl, .inl (by decide)⟩
    · rw [if_neg h0]
      by_cases h3 : v.kind = 3
      · rw [if_pos h3]
        by_cases hn : fnan v.flt = true
        · rw [if_pos hn]; right; exact ⟨by simp [h3, hn], 1, 0, 0, 0, ⟨#[]⟩, 0, rfl, .inl (by decide)⟩
        · rw [if_neg hn]
          by_cases hw : wholeB v.flt = true
          · rw [if_pos hw]; right; exact ⟨by simp [h3, hw], 0, 2, fint v.flt, 0, ⟨#[]⟩, 0, rfl, .inr ⟨h3, rfl⟩⟩
          · rw [if_neg hw]; left; exact ⟨by simp [h3, hn, hw], rfl⟩
      · rw [if_neg h3]; left; exact ⟨by simp [h0, h3], rfl⟩
  · rw [if_neg hv]
    right
    have : validB v.kind v.num v.flt v.str v.ref = false := by simpa using hv
    exact ⟨by rw [this]; rfl, 2, 0, 0, 0, ⟨#[]⟩, 0, rfl, .inl (by decide)⟩

set_option maxHeartbeats 1000000 in
theorem l1key_any (v : Vl) (w : World) :
    Calls Tryz.prog 110 #[V v.kind v.num v.flt v.str v.ref] w fun e w' => e = .returned (.bool (keyB v)) ∧ Below w.heap.size w w' := by
  rcases keyV_cases v with ⟨hk, he⟩ | ⟨hk, c, k, n, f, t, r, he, hc⟩
  · have HE := hide he
    have HK := hide hk
    clear hk he
    go_enter Tryz.func110, Tryz.ntmps110
    go_wp2_with (go_at_call 17; refine (skey_any v.kind v.num v.flt v.str v.ref _).mono ?_; rintro e w1 ⟨rfl, hb⟩; rw [unhide HE]; obtain ⟨hc, hf⟩ := bcell hb; have hz := hb.size; simp at hz; have hz' : w.heap.size < w1.heap.size := by omega)
    go_ret
    exact ⟨by rw [unhide HK]; simp, (((Below.refl _ _).alloc (Nat.le_refl _) _).trans (hb.mono (by simp))).alloc (by omega) _⟩
  · have HE := hide he
    have HK := hide hk
    clear hk he
    rcases hc with hc | ⟨h3, rfl⟩
    · have hc' : (c == 0) = false := by simp [hc]
      clear hc
      go_enter Tryz.func110, Tryz.ntmps110
      go_wp2_with (go_at_call 17; refine (skey_any v.kind v.num v.flt v.str v.ref _).mono ?_; rintro e w1 ⟨rfl, hb⟩; rw [unhide HE]; obtain ⟨hc, hf⟩ := bcell hb; have hz := hb.size; simp at hz; have hz' : w.heap.size < w1.heap.size := by omega)
      go_ret
      exact ⟨by rw [unhide HK]; rfl, (((Below.refl _ _).alloc (Nat.le_refl _) _).trans (hb.mono (by simp))).alloc (by omega) _⟩
    · have h3' : ((2 : Int) == v.kind) = false := by rw [h3]; rfl
      clear h3
      by_cases hc0 : c = 0
      · subst hc0
        go_enter Tryz.func110, Tryz.ntmps110
        go_wp2_with (go_at_call 17; refine (skey_any v.kind v.num v.flt v.str v.ref _).mono ?_; rintro e w1 ⟨rfl, hb⟩; rw [unhide HE]; obtain ⟨hc, hf⟩ := bcell hb; have hz := hb.size; simp at hz; have hz' : w.heap.size < w1.heap.size := by omega)
        go_ret
        exact ⟨by rw [unhide HK]; simp, (((Below.refl _ _).alloc (Nat.le_refl _) _).trans (hb.mono (by simp))).alloc (by omega) _⟩
      · have hc' : (c == 0) = false := by simp [hc0]
        clear hc0
        go_enter Tryz.func110, Tryz.ntmps110
        go_wp2_with (go_at_call 17; refine (skey_any v.kind v.num v.flt v.str v.ref _).mono ?_; rintro e w1 ⟨rfl, hb⟩; rw [unhide HE]; obtain ⟨hc, hf⟩ := bcell hb; have hz := hb.size; simp at hz; have hz' : w.heap.size < w1.heap.size := by omega)
        go_ret
        exact ⟨by rw [unhide HK]; rfl, (((Below.refl _ _).alloc (Nat.le_refl _) _).trans (hb.mono (by simp))).alloc (by omega) _⟩
end Go.Proofs.YtglcaejddckleaaGreatDoor
