/-
  DqC, DqD, DyA, DyG, DlA, DzA, CurA, DzB, DtR, DtA, DpL, DtB, DtC in one text.
-/
import Derived.Test.YtglcaejddckleaaDoorBg0
import Derived.Laws.Strings
import Derived.Test.YtglcaejddckleaaDoorChecked
import GoSem.Claim
import GoSem.ClaimJoined
import GoSem.ClaimMapViews
import Derived.JoinedTies
import Derived.KernelRfl
import Derived.RowKit
import Derived.WalkKit
import Derived.WalkSpells
import Derived.WalkLawsBesides
import Derived.Deep.QuietTactic
import Derived.BigQuiet
import Derived.Test.YtglcaejddckleaaDoorHashA
import Derived.Laws.BitsAllLaws
import Derived.Test.YtglcaejddckleaaDoorHide
import Derived.Test.YtglcaejddckleaaDoorDiG
import Derived.OrdersHeld
import Derived.Deep.RegionHeld
import Derived.Laws.OwnMore
namespace Go.Proofs.YtglcaejddckleaaDoor
open Go.RowKit
set_option linter.unusedVariables false

/-- Two floats that are the same number: both numbers of one size, or one infinity. -/
theorem feq_cases {x y : Nat} (h : feq x y = true) : (∃ s m i t n j, Ieee.double.read x = .number s m i ∧ Ieee.double.read y = .number t n j ∧ -1074 ≤ i ∧ -1074 ≤ j ∧ m < 2 ^ 53 ∧ n < 2 ^ 53 ∧ (i = -1074 ∨ 2 ^ 52 ≤ m) ∧ (j = -1074 ∨ 2 ^ 52 ≤ n) ∧ Fl.sc s m i = Fl.sc t n j) ∨ ∃ s, Ieee.double.read x = .infinity s ∧ Ieee.double.read y = .infinity s := by
  have h' : (Ieee.double.order x y == some .eq) = true := h
  rcases Fl.read_cases x with ⟨s, m, i, hr, hi, hi2, hm, hc⟩ | ⟨s, hr⟩ | ⟨s, t, hr⟩
  · rcases Fl.read_cases y with ⟨t, n, j, hr', hj, hj2, hn, hc'⟩ | ⟨t, hr'⟩ | ⟨t, u, hr'⟩
    · left
      rw [Fl.ord_of hr hr' hi hj, Fl.cmp_eq] at h'
      exact ⟨s, m, i, t, n, j, hr, hr', hi, hj, hm, hn, hc, hc', of_decide_eq_true h'⟩
    · exfalso
      unfold Ieee.Format.order at h'
      rw [hr, hr'] at h'
      cases t <;> simp [Ieee.Datum.order] at h'
    · exfalso
      unfold Ieee.Format.order at h'
      rw [hr, hr'] at h'
      simp [Ieee.Datum.order] at h'
  · rcases Fl.read_cases y with ⟨t, n, j, hr', hj, hj2, hn, hc'⟩ | ⟨t, hr'⟩ | ⟨t, u, hr'⟩
    · exfalso
      unfold Ieee.Format.order at h'
      rw [hr, hr'] at h'
      cases s <;> simp [Ieee.Datum.order] at h'
    · right
      unfold Ieee.Format.order at h'
      rw [hr, hr'] at h'
      cases s <;> cases t <;> simp [Ieee.Datum.order] at h'
      · exact ⟨false, hr, hr'⟩
      · exact ⟨true, hr, hr'⟩
    · exfalso
      unfold Ieee.Format.order at h'
      rw [hr, hr'] at h'
      simp [Ieee.Datum.order] at h'
  · exfalso
    unfold Ieee.Format.order at h'
    rw [hr] at h'
    simp [Ieee.Datum.order] at h'
theorem feq_number {x y : Nat} {s t : Bool} {m n : Nat} {i j : Int} (hx : Ieee.double.read x = .number s m i) (hy : Ieee.double.read y = .number t n j) (hi : -1074 ≤ i) (hj : -1074 ≤ j) (e : Fl.sc s m i = Fl.sc t n j) : feq x y = true := by
  show (Ieee.double.order x y == some .eq) = true
  rw [Fl.ord_of hx hy hi hj, Fl.cmp_eq]
  exact decide_eq_true e
theorem feq_inf {x y : Nat} {s : Bool} (hx : Ieee.double.read x = .infinity s) (hy : Ieee.double.read y = .infinity s) : feq x y = true := by
  show (Ieee.double.order x y == some .eq) = true
  unfold Ieee.Format.order
  rw [hx, hy]
  cases s <;> simp [Ieee.Datum.order]
theorem feq_symm {x y : Nat} (h : feq x y = true) : feq y x = true := by
  rcases feq_cases h with ⟨s, m, i, t, n, j, h1, h2, h3, h4, _, _, _, _, e⟩ | ⟨s, h1, h2⟩
  · exact feq_number h2 h1 h4 h3 e.symm
  · exact feq_inf h2 h1
theorem feq_trans {x y z : Nat} (h : feq x y = true) (h' : feq y z = true) : feq x z = true := by
  rcases feq_cases h with ⟨s, m, i, t, n, j, h1, h2, h3, h4, _, _, _, _, e⟩ | ⟨s, h1, h2⟩
  · rcases feq_cases h' with ⟨s', m', i', t', n', j', g1, g2, g3, g4, _, _, _, _, e'⟩ | ⟨s', g1, g2⟩
    · rw [h2] at g1
      cases g1
      exact feq_number h1 g2 h3 g4 (e.trans e')
    · rw [h2] at g1; cases g1
  · rcases feq_cases h' with ⟨s', m', i', t', n', j', g1, g2, g3, g4, _, _, _, _, e'⟩ | ⟨s', g1, g2⟩
    · rw [h2] at g1; cases g1
    · rw [h2] at g1
      cases g1
      exact feq_inf h1 g2
/-- A number has one form. -/
theorem form_one {s t : Bool} {m n : Nat} {i j : Int} (hi : -1074 ≤ i) (hj : -1074 ≤ j) (hm : m < 2 ^ 53) (hn : n < 2 ^ 53) (hc : i = -1074 ∨ 2 ^ 52 ≤ m) (hc' : j = -1074 ∨ 2 ^ 52 ≤ n) (e : Fl.sc s m i = Fl.sc t n j) (h0 : Fl.sc s m i ≠ 0) : s = t ∧ m = n ∧ i = j := by
  have pos : ∀ (m : Nat) (i : Int), 0 ≤ Fl.sc false m i ∧ Fl.sc false m i = ((m * 2 ^ (i + 1074).toNat : Nat) : Int) := by
    intro m i
    have : Fl.sc false m i = ((m * 2 ^ (i + 1074).toNat : Nat) : Int) := by
      unfold Fl.sc
      rw [Fl.signed_eq]
      simp
    exact ⟨by rw [this]; omega, this⟩
  have core : ∀ {m n : Nat} {i j : Int}, -1074 ≤ i → -1074 ≤ j → m < 2 ^ 53 → n < 2 ^ 53 → (i = -1074 ∨ 2 ^ 52 ≤ m) → (j = -1074 ∨ 2 ^ 52 ≤ n) → Fl.sc false m i = Fl.sc false n j → Fl.sc false m i ≠ 0 → m = n ∧ i = j := by
    intro m n i j hi hj hm hn hc hc' e h0
    rw [(pos m i).2, (pos n j).2] at e
    have e' : m * 2 ^ (i + 1074).toNat = n * 2 ^ (j + 1074).toNat := by omega
    have le : ∀ {m n : Nat} {i j : Int}, -1074 ≤ i → m < 2 ^ 53 → (j = -1074 ∨ 2 ^ 52 ≤ n) → m * 2 ^ (i + 1074).toNat = n * 2 ^ (j + 1074).toNat → ¬ i < j := by
      intro m n i j hi hm hc' e hlt
      have hn : 2 ^ 52 ≤ n := hc'.resolve_left (by omega)
      obtain ⟨q, hq⟩ : ∃ q : Nat, (j + 1074).toNat = (i + 1074).toNat + (q + 1) := ⟨(j + 1074).toNat - (i + 1074).toNat - 1, by omega⟩
      rw [hq, Nat.pow_add, Nat.mul_comm (2 ^ (i + 1074).toNat), ← Nat.mul_assoc] at e
      have hm' : m = n * 2 ^ (q + 1) := Nat.eq_of_mul_eq_mul_right (Nat.two_pow_pos _) e
      have h1 : 2 ≤ 2 ^ (q + 1) := by rw [Nat.pow_succ]; have := Nat.two_pow_pos q; omega
      have h2 : n * 2 ≤ n * 2 ^ (q + 1) := Nat.mul_le_mul_left n h1
      omega
    have hij : i = j := by
      have h1 := le hi hm hc' e'
      have h2 := le hj hn hc e'.symm
      omega
    subst hij
    exact ⟨Nat.eq_of_mul_eq_mul_right (Nat.two_pow_pos _) e', rfl⟩
  cases s <;> cases t
  · exact ⟨rfl, core hi hj hm hn hc hc' e h0⟩
  · exfalso
    have e1 : Fl.sc true n j = - Fl.sc false n j := Fl.sc_neg n j
    have h1 := (pos m i).1
    have h2 := (pos n j).1
    omega
  · exfalso
    have e1 : Fl.sc true m i = - Fl.sc false m i := Fl.sc_neg m i
    have h1 := (pos m i).1
    have h2 := (pos n j).1
    omega
  · have e1 : Fl.sc true m i = - Fl.sc false m i := Fl.sc_neg m i
    have e2 : Fl.sc true n j = - Fl.sc false n j := Fl.sc_neg n j
    exact ⟨rfl, core hi hj hm hn hc hc' (by omega) (by omega)⟩

/-- A key as it stands, well formed. -/
def Ky (v : Vl) : Prop := keyB v = true ∧ Wf v
theorem fz_feq {x y : Nat} (h : fz x = true) (h' : fz y = true) : feq x y = true := by
  have h1 : feq x 0 = true := h
  have h2 : feq y 0 = true := h'
  exact feq_trans h1 (feq_symm h2)
theorem like_flt {a b : Vl} (h : likeB a b = true) : feq a.flt b.flt = true ∧ a.str.toList = b.str.toList ∧ a.ref = b.ref := by
  unfold likeB at h
  simp only [Bool.and_eq_true, beq_iff_eq] at h
  exact ⟨h.2.2.1, h.2.2.2.1, h.2.2.2.2⟩
theorem like_mk {a b : Vl} (h1 : a.kind = b.kind) (h2 : a.num = b.num) (h3 : feq a.flt b.flt = true) (h4 : a.str.toList = b.str.toList) (h5 : a.ref = b.ref) : likeB a b = true := by
  unfold likeB
  simp [h1, h2, h3, h4, h5]
theorem key_float {v : Vl} (h : Ky v) (h3 : v.kind = 3) : fnan v.flt = false ∧ fz v.flt = false := (hk_of h.1 h.2).flt h3 |>.2
theorem toList_inj {a b : ByteArray} (h : a.toList = b.toList) : a.data.toList = b.data.toList := by
  rw [← ByteArray.toList_eq, ← ByteArray.toList_eq]
  exact h
theorem keyLaw : KeyLaw Ky hN := by
  refine ⟨fun a h => like_mk rfl rfl (key_feq h.1) rfl rfl, fun a b _ _ h => ?_, fun a b c _ _ _ h h' => ?_, fun a b ha hb h => ?_, fun a b ha hb k1 k2 k3 => ?_, fun n => ?_, ?_⟩
  · obtain ⟨h1, h2, h3⟩ := like_flt h
    exact like_mk (like_kind h).symm (like_num h).symm (feq_symm h1) h2.symm h3.symm
  · obtain ⟨h1, h2, h3⟩ := like_flt h
    obtain ⟨g1, g2, g3⟩ := like_flt h'
    exact like_mk ((like_kind h).trans (like_kind h')) ((like_num h).trans (like_num h')) (feq_trans h1 g1) (h2.trans g2) (h3.trans g3)
  · obtain ⟨h1, h2, h3⟩ := like_flt h
    unfold hN
    congr 1
    unfold hashI
    rw [like_kind h, like_num h, h3]
    by_cases e4 : b.kind = 4
    · rw [if_pos e4, if_pos e4, toList_inj h2]
    · rw [if_neg e4, if_neg e4]
      by_cases e3 : b.kind = 3
      · rw [if_pos e3, if_pos e3]
        congr 1
        have hz := (key_float ha ((like_kind h).trans e3)).2
        unfold ftOf
        rcases feq_cases h1 with ⟨s, m, i, t, n, j, g1, g2, g3, g4, g5, g6, g7, g8, e⟩ | ⟨s, g1, g2⟩
        · have h0 : Fl.sc s m i ≠ 0 := by
            intro e0
            have : feq a.flt 0 = true := feq_number g1 Fl.read_nil g3 (by omega) (by rw [e0, Fl.sc_zero])
            have hz' : feq a.flt 0 = false := hz
            rw [this] at hz'
            cases hz'
          obtain ⟨r1, r2, r3⟩ := form_one g3 g4 g5 g6 g7 g8 e h0
          rw [g1, g2, r1, r2, r3]
        · rw [g1, g2]
      · rw [if_neg e3, if_neg e3]
  · have hv : ∀ v : Vl, Ky v → v.kind = 2 → fz v.flt = true ∧ v.str.toList.isEmpty = true ∧ v.ref = 0 := by
      intro v h k
      have h1 := h.1
      unfold keyB Vl.ok at h1
      simp only [Bool.and_eq_true] at h1
      have h2 := h1.1.1
      unfold validB at h2
      simp [k] at h2
      exact ⟨h2.1.1, by simpa using h2.1.2, h2.2⟩
    obtain ⟨a1, a2, a3⟩ := hv a ha k1
    obtain ⟨b1, b2, b3⟩ := hv b hb k2
    exact like_mk (k1.trans k2.symm) k3 (fz_feq a1 b1) ((List.isEmpty_iff.1 a2).trans (List.isEmpty_iff.1 b2).symm) (a3.trans b3.symm)
  · refine ⟨?_, ⟨by show 0 < 18446744073709551616; omega, by show (0 : Nat) ≤ maxLen; omega⟩⟩
    have hz : fz 0 = true := feq_number Fl.read_nil Fl.read_nil (by omega) (by omega) rfl
    unfold keyB Vl.ok validB intV
    simp [hz]
  · have hz : fz 0 = true := feq_number Fl.read_nil Fl.read_nil (by omega) (by omega) rfl
    show noneB (⟨0, 0, 0, ⟨#[]⟩, 0⟩ : Vl) = true
    unfold noneB Vl.ok validB
    simp [hz]
theorem hsI_all : ∀ v, Ky v → HsI Tabs v (hN v) := fun v h => hsI h.1 h.2
end Go.Proofs.YtglcaejddckleaaDoor
namespace Go.Proofs.YtglcaejddckleaaDoor
open Go.RowKit
set_option linter.unusedVariables false

theorem fz_nil : fz 0 = true := by decide
theorem keyedK (v : Vl) (hw : Wf v) : ∃ (c : Int) (kv : Vl), keyV v.kind v.num v.flt v.str v.ref = KV c kv.kind kv.num kv.flt kv.str kv.ref ∧ (c = 0 → Ky kv) := by
  unfold keyV
  by_cases hv : validB v.kind v.num v.flt v.str v.ref = true
  · rw [if_pos hv]
    by_cases h0 : v.kind = 0
    · rw [if_pos h0]; exact ⟨1, ⟨0, 0, 0, ⟨#[]⟩, 0⟩, rfl, fun h => by omega⟩
    · rw [if_neg h0]
      by_cases h3 : v.kind = 3
      · rw [if_pos h3]
        by_cases hn : fnan v.flt = true
        · rw [if_pos hn]; exact ⟨1, ⟨0, 0, 0, ⟨#[]⟩, 0⟩, rfl, fun h => by omega⟩
        · rw [if_neg hn]
          by_cases hwh : wholeB v.flt = true
          · rw [if_pos hwh]
            refine ⟨0, ⟨2, fint v.flt, 0, ⟨#[]⟩, 0⟩, rfl, fun _ => ⟨?_, ⟨by show (0 : Nat) < _; decide, Nat.zero_le _⟩⟩⟩
            unfold keyB Vl.ok validB
            simp [fz_nil]
          · rw [if_neg hwh]
            refine ⟨0, v, rfl, fun _ => ⟨?_, hw⟩⟩
            unfold keyB Vl.ok
            rw [hv]
            simp [h0, hn, hwh]
      · rw [if_neg h3]
        refine ⟨0, v, rfl, fun _ => ⟨?_, hw⟩⟩
        unfold keyB Vl.ok
        rw [hv]
        simp [h0, h3]
  · rw [if_neg hv]; exact ⟨2, ⟨0, 0, 0, ⟨#[]⟩, 0⟩, rfl, fun h => by omega⟩
def noD : Dc := ⟨0, fun _ => default, 0, fun _ => 0, 0, fun _ => 0, 0, 0, 0⟩
theorem moveD_m (hf : Vl → Nat) : ∀ (f : Nat) (d : Dc), (moveD hf f d).m ≤ d.m + f := by
  intro f
  induction f with
  | zero => intro d; exact Nat.le_refl _
  | succ f ih =>
    intro d
    cases e : slotOf d (intV ((d.m : Int) + 1)) (hf (intV ((d.m : Int) + 1))) with
    | none => rw [moveD_none e]; omega
    | some s =>
      rw [moveD_some e]
      have := ih (moveS d s)
      have h2 : (moveS d s).m = d.m + 1 := rfl
      omega
theorem enter_m (hf : Vl → Nat) (c : Dc) (k' : Vl) (p : Nat) : (enterD hf c k' p).m = c.m := by
  unfold enterD
  cases freeSlot c.x c.X (hf k' % c.x) <;> rfl
theorem putD_m {K : Vl → Prop} {hf : Vl → Nat} {d : Dc} {k v : Vl} (KL : KeyLaw K hf) (h : Inv K hf d) (hk : K k) : (putD hf d k v).m ≤ d.m + 4002 := by
  rcases h.i0.place KL hk with ⟨i, h1, h2, h3, h4⟩ | ⟨h1, h2⟩
  · have hp : 0 ≤ placeI d k (hf k) := by omega
    have hi : (placeI d k (hf k)).toNat = i := by omega
    by_cases hv0 : v.kind = 0
    · rw [putD_go hp hv0, hi]
      have g := goC_inv KL h.i0 h.next h1 h2
      have e := (compactD_live (hf := hf) g.1.core).2.2.1
      show (compactD hf (goC hf d i)).m ≤ _
      rw [e]
      by_cases hs : smallK d.m (d.L i).key
      · rw [goC_small hs]
        have := (shrink_says (upd d.I ((d.L i).key.num - 1).toNat 0) d.m).1
        show shrink (upd d.I ((d.L i).key.num - 1).toNat 0) d.m ≤ _
        omega
      · obtain ⟨s, _, _, hs3⟩ := h.i0.found KL (h.i0.keys i h1 h2) ⟨h1, h2, hs⟩ (KL.refl _ (h.i0.keys i h1 h2))
        rw [goC_slot hs hs3]
        show d.m ≤ _
        omega
    · rw [putD_set hp hv0, hi]
      show d.m ≤ _
      omega
  · have hp : ¬ 0 ≤ placeI d k (hf k) := by omega
    by_cases hc : v.kind ≠ 0 ∧ d.live < 500 ∧ d.turns < 1000000000000
    · rw [putD_come hp hc]
      have e := (compactD_live (hf := hf) h.i0.core).2.2.1
      have hcl := (compactD_live (hf := hf) h.i0.core).1
      have hci := compactD_inv h.i0
      show (comeC hf (compactD hf d) k v).m ≤ _
      generalize compactD hf d = c at e hci hcl
      have hcl : c.live < 500 := by rw [hcl]; exact hc.2.1
      have hcx : c.x ≤ 4000 := by
        rcases hci.sz with h | h
        · omega
        · exact h.2.1
      unfold comeC
      split
      · show c.m ≤ _
        omega
      · split
        · have := moveD_m hf (c.x + 1) (addNext c k v)
          have h2 : (addNext c k v).m = c.m + 1 := rfl
          omega
        · rw [enter_m]
          have hr := (roomD_inv hci hcl).2.2.m
          show (roomD hf c).m ≤ _
          omega
    · rw [putD_not hp hc]; omega
theorem Inv.small {K : Vl → Prop} {hf : Vl → Nat} {d : Dc} (h : Inv K hf d) (hm : d.m ≤ 4194304) : Small d := by
  refine ⟨?_, hm, ?_⟩
  · have := h.i0.le
    have := h.i0.log.cnt
    rcases h.tight with h | h <;> omega
  · rcases h.i0.sz with h | h
    · omega
    · have := h.2.1; omega
end Go.Proofs.YtglcaejddckleaaDoor
namespace Go.Proofs.YtglcaejddckleaaDoor
open Go.RowKit
set_option linter.unusedVariables false

/-- Every pair of the log is so. -/
def LogQ (Q : Pr → Prop) (d : Dc) : Prop := ∀ i, i < d.n → Q (d.L i)
section
variable {Q : Pr → Prop} {hf : Vl → Nat} {d c : Dc} {k v : Vl}
theorem LogQ.same (h : LogQ Q d) (hn : c.n = d.n) (hL : c.L = d.L) : LogQ Q c := fun i hi => by rw [hL]; exact h i (by omega)
theorem LogQ.updq (h : LogQ Q d) {p : Nat} {x : Pr} (hx : Q x) {n : Nat} (hn : ∀ i, i < n → i = p ∨ i < d.n) {c : Dc} (hc : c.n = n) (hL : c.L = upd d.L p x) : LogQ Q c := fun i hi => by
  rw [hL]
  by_cases e : i = p
  · subst e; rw [upd_same]; exact hx
  · rw [upd_other _ _ e]
    rcases hn i (by omega) with e' | e'
    · exact absurd e' e
    · exact h i e'
theorem enterD_log (p : Nat) : (enterD hf d k p).n = d.n ∧ (enterD hf d k p).L = d.L := by
  unfold enterD
  split <;> exact ⟨rfl, rfl⟩
theorem refill_log (x : Nat) : ∀ k, (refill hf d x k).n = d.n ∧ (refill hf d x k).L = d.L
  | 0 => ⟨rfl, rfl⟩
  | k + 1 => by
    by_cases h : indexedK d k
    · rw [refill_yes h]
      have h1 := enterD_log (hf := hf) (d := refill hf d x k) (k := (d.L k).key) k
      have h2 := refill_log x k
      exact ⟨h1.1.trans h2.1, h1.2.trans h2.2⟩
    · rw [refill_no h]; exact refill_log x k
theorem reindexD_log (more : Nat) : (reindexD hf d more).n = d.n ∧ (reindexD hf d more).L = d.L := by
  by_cases h : idxN d d.n + more = 0
  · rw [reindexD_none h]; exact ⟨rfl, rfl⟩
  · rw [reindexD_some h]; exact refill_log _ _
theorem moveD_log : ∀ (f : Nat) (d : Dc), (moveD hf f d).n = d.n ∧ (moveD hf f d).L = d.L
  | 0, d => ⟨rfl, rfl⟩
  | f + 1, d => by
    cases h : slotOf d (intV ((d.m : Int) + 1)) (hf (intV ((d.m : Int) + 1))) with
    | none => rw [moveD_none h]; exact ⟨rfl, rfl⟩
    | some s => rw [moveD_some h]; exact moveD_log f (moveS d s)
theorem LogQ.pack (h : LogQ Q d) : LogQ Q (packD d) := fun j hj => by
  obtain ⟨i, h1, h2, h3⟩ := rank_surj d.n hj
  have e : lvF d j = d.L i := by rw [← h3]; exact lvF_at h1 h2
  show Q (lvF d j)
  rw [e]
  exact h i h1
theorem LogQ.compact (h : LogQ Q d) : LogQ Q (compactD hf d) := by
  unfold compactD
  split
  · exact h
  · exact h.pack.same (reindexD_log _).1 (reindexD_log _).2
theorem LogQ.add (h : LogQ Q c) (hx : Q ⟨k, v, c.turns + 1⟩) : LogQ Q (addL c k v) := h.updq hx (n := c.n + 1) (fun i hi => by omega) rfl rfl
theorem roomD_log : (roomD hf c).n = c.n ∧ (roomD hf c).L = c.L := by
  unfold roomD
  split
  · exact reindexD_log _
  · exact ⟨rfl, rfl⟩
theorem LogQ.comeq (h : LogQ Q c) (hx : ∀ t, Q ⟨k, v, t⟩) : LogQ Q (comeC hf c k v) := by
  unfold comeC
  split
  · exact (h.add (k := k) (v := v) (hx _)).same rfl rfl
  · split
    · exact (h.add (k := k) (v := v) (hx _)).same (moveD_log _ _).1 (moveD_log _ _).2
    · exact ((h.same roomD_log.1 roomD_log.2).add (c := roomD hf c) (k := k) (v := v) (hx _)).same (enterD_log _).1 (enterD_log _).2
theorem LogQ.goq (h : LogQ Q d) (h0 : Q default) (p : Nat) : LogQ Q (goC hf d p) := by
  have hd : LogQ Q (deadL d p) := fun i hi => by
    show Q (upd d.L p default i)
    by_cases e : i = p
    · subst e; rw [upd_same]; exact h0
    · rw [upd_other _ _ e]; exact h i hi
  unfold goC
  split
  · exact hd.same rfl rfl
  · split
    · exact h
    · exact hd.same rfl rfl
theorem LogQ.put (h : LogQ Q d) (hx : ∀ t, Q ⟨k, v, t⟩) (h0 : Q default) (hs : ∀ x : Pr, Q x → Q ⟨x.key, v, x.turn⟩) : LogQ Q (putD hf d k v) := by
  unfold putD
  split
  · split
    · exact (h.goq h0 _).compact
    · intro i hi
      show Q (upd d.L _ _ i)
      by_cases e : i = (placeI d k (hf k)).toNat
      · subst e; rw [upd_same]; exact hs _ (h _ hi)
      · rw [upd_other _ _ e]; exact h i hi
  · split
    · exact h.compact.comeq hx
    · exact h
end
theorem WfD.put {hf : Vl → Nat} {d : Dc} {k v : Vl} (h : WfD d) (hk : Wf k) (hv : Wf v) : WfD (putD hf d k v) :=
  LogQ.put (Q := fun p => Wf p.key ∧ Wf p.val) h (fun _ => ⟨hk, hv⟩) ⟨⟨by decide, by decide⟩, ⟨by decide, by decide⟩⟩ (fun x hx => ⟨hx.1, hv⟩)
/-- No zero below 0 stands beside a key. -/
abbrev Nz (k : Vl) : Prop := k.flt ≠ 9223372036854775808
def NzP (p : Pr) : Prop := Nz p.key
theorem NzP.put {hf : Vl → Nat} {d : Dc} {k v : Vl} (h : LogQ NzP d) (hk : Nz k) : LogQ NzP (putD hf d k v) :=
  LogQ.put (Q := NzP) h (fun _ => hk) (by show (0 : Nat) ≠ 9223372036854775808; decide) (fun x hx => hx)
theorem NzP.noD : LogQ NzP noD := fun i hi => by cases hi
theorem keyV_nz {v kv : Vl} {c : Int} (h : keyV v.kind v.num v.flt v.str v.ref = KV c kv.kind kv.num kv.flt kv.str kv.ref) (hz : Nz v) : Nz kv := by
  have key : kv.flt = 0 ∨ kv.flt = v.flt := by
    unfold keyV at h
    split at h
    · split at h
      · simp at h; exact .inl h.2.2.2.1.symm
      · split at h
        · split at h
          · simp at h; exact .inl h.2.2.2.1.symm
          · split at h
            · simp at h; exact .inl h.2.2.2.1.symm
            · simp at h; exact .inr h.2.2.2.1.symm
        · simp at h; exact .inr h.2.2.2.1.symm
    · simp at h; exact .inl h.2.2.2.1.symm
  rcases key with e | e
  · show kv.flt ≠ _
    rw [e]; decide
  · show kv.flt ≠ _
    rw [e]; exact hz
theorem WfD.noD : WfD noD := fun i hi => by cases hi
theorem noD_inv {K : Vl → Prop} {hf : Vl → Nat} : Inv K hf noD :=
  ⟨⟨⟨fun i hi => (by cases hi), fun i j _ hj => (by cases hj), rfl⟩, fun i hi => (by cases hi), fun i j hi => (by cases hi), fun j hj => (by cases hj), .inl rfl, fun i hi => (by cases hi), .inl rfl,
    Idx.empty _ _ _ _ (fun i h => by cases h.1), rfl, Nat.le_refl _, ⟨by decide, by decide⟩, by decide⟩, fun i hi => (by cases hi), .inl (by decide)⟩
end Go.Proofs.YtglcaejddckleaaDoor
namespace Go.Proofs.YtglcaejddckleaaDoor
open Go.RowKit
set_option linter.unusedVariables false

/-- A pair lives in a dict. -/
def Has (d : Dc) (p : Pr) : Prop := ∃ i, i < d.n ∧ (d.L i).turn ≠ 0 ∧ d.L i = p
theorem has_at {d : Dc} {i : Nat} (h1 : i < d.n) (h2 : (d.L i).turn ≠ 0) : Has d (d.L i) := ⟨i, h1, h2, rfl⟩
section
variable {K : Vl → Prop} {hf : Vl → Nat} {d : Dc} {k v : Vl}
theorem Inv.uniq (h : Inv K hf d) {p q : Pr} (hp : Has d p) (hq : Has d q) (e : likeB p.key q.key = true) : p = q := by
  obtain ⟨i, h1, h2, rfl⟩ := hp
  obtain ⟨j, g1, g2, rfl⟩ := hq
  rw [h.i0.dist i j h1 g1 h2 g2 e]
theorem Inv.keyOf (h : Inv K hf d) {p : Pr} (hp : Has d p) : K p.key := by
  obtain ⟨i, h1, h2, rfl⟩ := hp
  exact h.i0.keys i h1 h2
theorem Inv.entry (h : Inv K hf d) {p : Pr} (hp : Has d p) : 0 < p.turn ∧ p.turn ≤ d.turns ∧ p.val.ok = true ∧ p.val.kind ≠ 0 := by
  obtain ⟨i, h1, h2, rfl⟩ := hp
  rcases h.i0.log.ent i h1 with e | e
  · exact absurd e.1 h2
  · exact ⟨e.1, e.2.1, e.2.2.2⟩

theorem compact_has (h : Core K d) (p : Pr) : Has (compactD hf d) p ↔ Has d p := compactD_pairs h (fun q => q = p)

/-- A put: taken away, written again, come, or nothing. -/
def PutSays (d e : Dc) (k v : Vl) : Prop :=
  (∃ q, Has d q ∧ likeB q.key k = true ∧ v.kind = 0 ∧ (∀ p, Has e p ↔ Has d p ∧ likeB p.key k = false) ∧ e.live = d.live - 1 ∧ e.turns = d.turns) ∨
  (∃ q, Has d q ∧ likeB q.key k = true ∧ v.kind ≠ 0 ∧ (∀ p, Has e p ↔ (Has d p ∧ likeB p.key k = false) ∨ p = ⟨q.key, v, q.turn⟩) ∧ e.live = d.live ∧ e.turns = d.turns) ∨
  ((∀ p, Has d p → likeB p.key k = false) ∧ v.kind ≠ 0 ∧ (∀ p, Has e p ↔ Has d p ∨ p = ⟨k, v, d.turns + 1⟩) ∧ e.live = d.live + 1 ∧ e.turns = d.turns + 1) ∨
  ((∀ p, Has d p → likeB p.key k = false) ∧ ¬ (v.kind ≠ 0 ∧ d.live < 500 ∧ d.turns < 1000000000000) ∧ e = d)

theorem like_iff (KL : KeyLaw K hf) (h : Inv0 K hf d) (hk : K k) {i : Nat} (h1 : i < d.n) (h2 : (d.L i).turn ≠ 0) (h3 : likeB (d.L i).key k = true) {j : Nat} (g1 : j < d.n) (g2 : (d.L j).turn ≠ 0) : likeB (d.L j).key k = false ↔ j ≠ i := by
  constructor
  · intro e he
    subst he
    rw [h3] at e
    exact absurd e (by decide)
  · intro e
    by_cases hl : likeB (d.L j).key k = true
    · refine absurd (h.dist j i g1 h1 g2 h2 ?_) e
      exact KL.trans _ _ _ (h.keys j g1 g2) hk (h.keys i h1 h2) hl (KL.symm _ _ (h.keys i h1 h2) hk h3)
    · simpa using hl

theorem put_says (KL : KeyLaw K hf) (h : Inv K hf d) (hk : K k) (hkb : keyB k = true) (hv : v.ok = true) : PutSays d (putD hf d k v) k v := by
  rcases h.i0.place KL hk with ⟨i, h1, h2, h3, h4⟩ | ⟨h1, h2⟩
  · have hp : 0 ≤ placeI d k (hf k) := by omega
    have hi : (placeI d k (hf k)).toNat = i := by omega
    by_cases hv0 : v.kind = 0
    · rw [putD_go hp hv0, hi]
      obtain ⟨g1, g2, g3, g4, g5, g6⟩ := goC_inv KL h.i0 h.next h1 h2
      have c := compactD_live (hf := hf) g1.core
      refine .inl ⟨d.L i, has_at h1 h2, h3, hv0, fun p => ?_, c.1.trans g5, c.2.1.trans g6⟩
      refine (compact_has g1.core p).trans ?_
      constructor
      · rintro ⟨j, j1, j2, rfl⟩
        rw [g4] at j2 ⊢
        by_cases e : j = i
        · subst e; rw [upd_same] at j2; exact absurd rfl j2
        · rw [upd_other _ _ e] at j2 ⊢
          exact ⟨has_at (by omega) j2, (like_iff KL h.i0 hk h1 h2 h3 (by omega) j2).2 e⟩
      · rintro ⟨⟨j, j1, j2, rfl⟩, hl⟩
        have e := (like_iff KL h.i0 hk h1 h2 h3 j1 j2).1 hl
        refine ⟨j, by omega, ?_, ?_⟩
        · rw [g4, upd_other _ _ e]; exact j2
        · rw [g4, upd_other _ _ e]
    · rw [putD_set hp hv0, hi]
      refine .inr (.inl ⟨d.L i, has_at h1 h2, h3, hv0, fun p => ?_, rfl, rfl⟩)
      constructor
      · rintro ⟨j, j1, j2, rfl⟩
        by_cases e : j = i
        · subst e; right; exact upd_same _ _ _
        · left
          have e2 : (setV d i v).L j = d.L j := upd_other _ _ e
          rw [e2] at j2 ⊢
          exact ⟨has_at j1 j2, (like_iff KL h.i0 hk h1 h2 h3 j1 j2).2 e⟩
      · rintro (⟨⟨j, j1, j2, rfl⟩, hl⟩ | rfl)
        · have e := (like_iff KL h.i0 hk h1 h2 h3 j1 j2).1 hl
          have e2 : (setV d i v).L j = d.L j := upd_other _ _ e
          exact ⟨j, j1, by rw [e2]; exact j2, e2⟩
        · have e2 : (setV d i v).L i = ⟨(d.L i).key, v, (d.L i).turn⟩ := upd_same _ _ _
          exact ⟨i, h1, by rw [e2]; exact h2, e2⟩
  · have hp : ¬ 0 ≤ placeI d k (hf k) := by omega
    have hno : ∀ p, Has d p → likeB p.key k = false := by
      rintro p ⟨i, i1, i2, rfl⟩
      exact h1 i i1 i2
    by_cases hc : v.kind ≠ 0 ∧ d.live < 500 ∧ d.turns < 1000000000000
    · rw [putD_come hp hc]
      have c := compactD_live (hf := hf) h.i0.core
      have hci := compactD_inv h.i0
      have hcn := compactD_next (hf := hf) h.i0.core h.next
      have hch := fun p => compact_has (hf := hf) h.i0.core p
      have hcno : ∀ i, i < (compactD hf d).n → ((compactD hf d).L i).turn ≠ 0 → likeB ((compactD hf d).L i).key k = false := fun i i1 i2 => hno _ ((hch _).1 (has_at i1 i2))
      obtain ⟨g1, g2, g3, g4, g5, g6⟩ := comeC_inv KL hci hcn hk hkb hv hc.1 hcno (by rw [c.1]; exact hc.2.1) (by rw [c.2.1]; exact hc.2.2)
      have et : (compactD hf d).turns = d.turns := c.2.1
      refine .inr (.inr (.inl ⟨hno, hc.1, fun p => ?_, by rw [← c.1]; exact g5, by rw [← et]; exact g6⟩))
      show Has (comeC hf (compactD hf d) k v) p ↔ _
      rw [← et]
      constructor
      · rintro ⟨j, j1, j2, rfl⟩
        rw [g4] at j2 ⊢
        by_cases e : j = (compactD hf d).n
        · subst e; right; exact upd_same _ _ _
        · left
          rw [upd_other _ _ e] at j2 ⊢
          exact (hch _).1 (has_at (by omega) j2)
      · rintro (hp | rfl)
        · obtain ⟨j, j1, j2, rfl⟩ := (hch p).2 hp
          refine ⟨j, by omega, ?_, ?_⟩
          · rw [g4, upd_other _ _ (by omega)]; exact j2
          · rw [g4, upd_other _ _ (by omega)]
        · refine ⟨(compactD hf d).n, by omega, ?_, ?_⟩
          · rw [g4, upd_same]; show (compactD hf d).turns + 1 ≠ 0; have := hci.turns.1; omega
          · rw [g4, upd_same]
    · rw [putD_not hp hc]
      exact .inr (.inr (.inr ⟨hno, hc, rfl⟩))
theorem put_turns (KL : KeyLaw K hf) (h : Inv K hf d) (hk : K k) (hkb : keyB k = true) (hv : v.ok = true) : d.turns ≤ (putD hf d k v).turns ∧ (putD hf d k v).turns ≤ d.turns + 1 := by
  rcases put_says KL h hk hkb hv with ⟨q, _, _, _, _, _, t⟩ | ⟨q, _, _, _, _, _, t⟩ | ⟨_, _, _, _, t⟩ | ⟨_, _, e⟩
  · omega
  · omega
  · omega
  · rw [e]; omega
end
end Go.Proofs.YtglcaejddckleaaDoor
namespace Go.Proofs.YtglcaejddckleaaDoor
open Go.RowKit
set_option linter.unusedVariables false
attribute [local go_sem] run_store_float run_equalIn_float

/-- The first zero from k on. -/
def fz0 (f : Nat → Int) (m : Nat) : Nat → Nat → Nat
  | k, 0 => k
  | k, g + 1 => if f k = 0 then k else fz0 f m (k + 1) g
def lenN (d : Dc) : Nat := fz0 d.I d.m 0 d.m
theorem fz0_stop {f : Nat → Int} {m k : Nat} (h : f k = 0) (hk : k < m) : fz0 f m k (m - k) = k := by
  obtain ⟨g, hg⟩ : ∃ g, m - k = g + 1 := ⟨m - k - 1, by omega⟩
  rw [hg]
  exact if_pos h
theorem fz0_next {f : Nat → Int} {m k : Nat} (h : f k ≠ 0) (hk : k < m) : fz0 f m k (m - k) = fz0 f m (k + 1) (m - (k + 1)) := by
  obtain ⟨g, hg⟩ : ∃ g, m - k = g + 1 := ⟨m - k - 1, by omega⟩
  rw [hg, show m - (k + 1) = g by omega]
  exact if_neg h
open Classical in
noncomputable def lenOut (d : Dc) : Int := if dictOk d (hD d) = 0 then (lenN d : Int) else 0

set_option maxRecDepth 100000 in
set_option maxHeartbeats 2000000 in
theorem implLen (la : Option Addr) (lc : Nat) (ia : Option Addr) (ic : Nat) (xa : Option Addr) (xc : Nat) (d : Dc) (w : World) (hT : Tabs w) (hA : DAt w la ia xa d) (hS : Small d) (hW : WfD d) :
    Calls Tryd.prog 9 #[Dv la lc ia ic xa xc d] w fun e w' => e = .returned (.int .i64 (lenOut d)) ∧ Below w.heap.size w w' := by
  have hm := hS.m
  have HA := hide hA
  have HS := hide hS
  have HW := hide hW
  have HT := hide hT
  clear hA hS hW hT
  have hb0 : Below w.heap.size w (w.alloc (.cells #[.slice la d.n lc, .slice ia d.m ic, .slice xa d.x xc, .int .i64 d.used, .int .i64 d.live, .int .i64 d.turns] 28)) := (Below.refl _ _).alloc (Nat.le_refl _) _
  have HB0 := hide hb0
  clear hb0
  go_enter Tryd.func9, Tryd.ntmps9
  go_wp2_with fail
  refine (implOk la lc ia ic xa xc d _ (lastsT _ _ (unhide HT) (unhide HB0)) ((unhide HA).below (unhide HB0)) (unhide HS) (unhide HW)).mono ?_
  rintro e w1 ⟨rfl, hb1⟩
  obtain ⟨hc1, hf1⟩ := bcell hb1
  have q1 : w1.cell? ⟨w.heap.size, 1, none⟩ = some (.slice ia d.m ic) := by rw [hc1 _ _ (by simp)]; simp [go_sem]
  have HB1 := hide ((unhide HB0).trans (hb1.mono (unhide HB0).size))
  clear hb1 hc1 hf1
  by_cases hk : dictOk d (hD d) = 0
  case neg =>
    have HR : Hid (lenOut d = 0) := hide (if_neg hk)
    have hk' : (dictOk d (hD d) != 0) = true := by simp [hk]
    clear hk
    generalize dictOk d (hD d) = ok at hk'
    go_wp2
    go_ret
    exact ⟨by rw [unhide HR]; rfl, unhide HB1⟩
  have HR : Hid (lenOut d = (lenN d : Int)) := hide (if_pos hk)
  rw [hk]
  clear hk
  have HI := hide ((unhide HA).below (unhide HB1)).ints
  go_wp2_with fail
  go_loopw [11] (fun i wr => ∃ k : Nat, k ≤ d.m ∧ i = .int .i64 k ∧ fz0 d.I d.m 0 d.m = fz0 d.I d.m k (d.m - k) ∧ wr = w1) (fun i _ => d.m - (intOf i).toNat)
  case atStart => exact ⟨0, by omega, rfl, rfl, rfl⟩
  case round =>
    obtain ⟨k, hk, rfl, hz, hww⟩ := hrel
    rw [hww]
    clear hww
    have HZ := hide hz
    clear hz
    by_cases hkn : k < d.m
    · obtain ⟨b, off, rfl, hbl, hcs⟩ := (unhide HI).resolve_left (by omega)
      have e0 := hcs k hkn
      clear hcs
      by_cases h0 : d.I k = 0
      · have HR2 : Hid (lenOut d = (k : Int)) := hide ((unhide HR).trans (congrArg Int.ofNat ((unhide HZ).trans (fz0_stop h0 hkn))))
        rw [h0] at e0
        clear h0
        go_wp2
        go_ret
        exact ⟨by rw [unhide HR2]; rfl, unhide HB1⟩
      · have HN : Hid (fz0 d.I d.m 0 d.m = fz0 d.I d.m (k + 1) (d.m - (k + 1))) := hide ((unhide HZ).trans (fz0_next h0 hkn))
        have h0' : (d.I k == 0) = false := by simp [h0]
        clear h0
        go_wp2
        go_roundw
        case rel => exact ⟨k + 1, by omega, by go_num, unhide HN, trivial⟩
        case measure => simp [intOf]; omega
    · have hkn' : k = d.m := by omega
      have HR2 : Hid (lenOut d = (d.m : Int)) := hide ((unhide HR).trans (congrArg Int.ofNat ((unhide HZ).trans (by rw [hkn', Nat.sub_self]; rfl))))
      clear hkn'
      go_wp2
      go_ret
      exact ⟨by rw [unhide HR2]; rfl, unhide HB1⟩
end Go.Proofs.YtglcaejddckleaaDoor
namespace Go.Proofs.YtglcaejddckleaaDoor
open Go.RowKit
set_option linter.unusedVariables false

/-- The keys of a dict are just those with a number in S. -/
structure KeysAre (κ : Nat → Vl) (d : Dc) (S : Nat → Prop) : Prop where
  sub : ∀ p, Has d p → ∃ i, S i ∧ p.key = κ i
  all : ∀ i, S i → ∃ p, Has d p ∧ p.key = κ i
theorem KeysAre.congr {κ : Nat → Vl} {d : Dc} {S T : Nat → Prop} (h : KeysAre κ d S) (e : ∀ i, S i ↔ T i) : KeysAre κ d T :=
  ⟨fun p hp => by obtain ⟨i, h1, h2⟩ := h.sub p hp; exact ⟨i, (e i).1 h1, h2⟩, fun i hi => h.all i ((e i).2 hi)⟩
theorem KeysAre.none (κ : Nat → Vl) : KeysAre κ noD (fun _ => False) :=
  ⟨fun p ⟨i, h1, _⟩ => (by cases h1), fun i hi => False.elim hi⟩
/-- Keys by number: all are keys, no two the same. -/
structure Keys (κ : Nat → Vl) (D : Nat → Prop) : Prop where
  ky : ∀ i, D i → Ky (κ i)
  inj : ∀ i j, D i → D j → likeB (κ i) (κ j) = true → i = j
section
variable {κ : Nat → Vl} {D S : Nat → Prop} {d : Dc} {v : Vl} {i : Nat}
theorem Keys.no (hκ : Keys κ D) (hS : ∀ j, S j → D j) (hD : D i) (h : KeysAre κ d S) {p : Pr} (hp : Has d p) : likeB p.key (κ i) = true ↔ p.key = κ i := by
  constructor
  · intro hl
    obtain ⟨j, h1, h2⟩ := h.sub p hp
    rw [h2] at hl ⊢
    rw [hκ.inj j i (hS j h1) hD hl]
  · intro e
    rw [e]
    exact keyLaw.refl _ (hκ.ky i hD)
theorem Keys.keq (hκ : Keys κ D) (hS : ∀ j, S j → D j) (hD : D i) {j : Nat} (hj : S j) : κ j = κ i ↔ j = i := by
  constructor
  · intro e
    refine hκ.inj j i (hS j hj) hD ?_
    rw [e]
    exact keyLaw.refl _ (hκ.ky i hD)
  · intro e; rw [e]
/-- A key put. -/
theorem KeysAre.put (hκ : Keys κ D) (hS : ∀ j, S j → D j) (hD : D i) (hI : Inv Ky hN d) (h : KeysAre κ d S) (hv : v.ok = true) (hv0 : v.kind ≠ 0) (hl : d.live < 500) (ht : d.turns < 1000000000000) :
    KeysAre κ (putD hN d (κ i) v) (fun j => S j ∨ j = i) ∧ (putD hN d (κ i) v).live ≤ d.live + 1 ∧ (putD hN d (κ i) v).turns ≤ d.turns + 1 ∧ (¬ S i → (putD hN d (κ i) v).live = d.live + 1 ∧ (putD hN d (κ i) v).turns = d.turns + 1) := by
  rcases put_says keyLaw hI (hκ.ky i hD) (hκ.ky i hD).1 hv with ⟨q, q1, q2, q3, q4, q5, q6⟩ | ⟨q, q1, q2, q3, q4, q5, q6⟩ | ⟨q1, q2, q3, q4, q5⟩ | ⟨q1, q2, q3⟩
  · exact absurd q3 hv0
  · have hq := (hκ.no hS hD h q1).1 q2
    have hSi : S i := by
      obtain ⟨j, j1, j2⟩ := h.sub q q1
      rw [hq] at j2
      rwa [← (hκ.keq hS hD j1).1 j2.symm]
    refine ⟨⟨fun p hp => ?_, fun j hj => ?_⟩, by omega, by omega, fun hn => absurd hSi hn⟩
    · rcases (q4 p).1 hp with ⟨h1, h2⟩ | rfl
      · obtain ⟨j, j1, j2⟩ := h.sub p h1
        exact ⟨j, .inl j1, j2⟩
      · exact ⟨i, .inr rfl, hq⟩
    · by_cases e : j = i
      · subst e
        exact ⟨_, (q4 _).2 (.inr rfl), hq⟩
      · have hSj : S j := hj.resolve_right e
        obtain ⟨p, p1, p2⟩ := h.all j hSj
        refine ⟨p, (q4 _).2 (.inl ⟨p1, ?_⟩), p2⟩
        by_cases c : likeB p.key (κ i) = true
        · have := (hκ.no hS hD h p1).1 c
          rw [p2] at this
          exact absurd ((hκ.keq hS hD hSj).1 this) e
        · simpa using c
  · refine ⟨⟨fun p hp => ?_, fun j hj => ?_⟩, by omega, by omega, fun _ => ⟨q4, q5⟩⟩
    · rcases (q3 p).1 hp with h1 | rfl
      · obtain ⟨j, j1, j2⟩ := h.sub p h1
        exact ⟨j, .inl j1, j2⟩
      · exact ⟨i, .inr rfl, rfl⟩
    · rcases hj with hj | rfl
      · obtain ⟨p, p1, p2⟩ := h.all j hj
        exact ⟨p, (q3 p).2 (.inl p1), p2⟩
      · exact ⟨_, (q3 _).2 (.inr rfl), rfl⟩
  · exact absurd ⟨hv0, hl, ht⟩ q2
/-- A key taken away. -/
theorem KeysAre.take (hκ : Keys κ D) (hS : ∀ j, S j → D j) (hD : D i) (hI : Inv Ky hN d) (h : KeysAre κ d S) (hv : v.ok = true) (hv0 : v.kind = 0) :
    KeysAre κ (putD hN d (κ i) v) (fun j => S j ∧ j ≠ i) ∧ (putD hN d (κ i) v).turns = d.turns ∧ (S i → (putD hN d (κ i) v).live = d.live - 1) ∧ (¬ S i → (putD hN d (κ i) v).live = d.live) := by
  rcases put_says keyLaw hI (hκ.ky i hD) (hκ.ky i hD).1 hv with ⟨q, q1, q2, q3, q4, q5, q6⟩ | ⟨q, q1, q2, q3, q4, q5, q6⟩ | ⟨q1, q2, q3, q4, q5⟩ | ⟨q1, q2, q3⟩
  · have hq := (hκ.no hS hD h q1).1 q2
    have hSi : S i := by
      obtain ⟨j, j1, j2⟩ := h.sub q q1
      rw [hq] at j2
      rwa [← (hκ.keq hS hD j1).1 j2.symm]
    refine ⟨⟨fun p hp => ?_, fun j hj => ?_⟩, q6, fun _ => q5, fun hn => absurd hSi hn⟩
    · obtain ⟨h1, h2⟩ := (q4 p).1 hp
      obtain ⟨j, j1, j2⟩ := h.sub p h1
      refine ⟨j, ⟨j1, fun e => ?_⟩, j2⟩
      subst e
      rw [(hκ.no hS hD h h1).2 j2] at h2
      exact absurd h2 (by decide)
    · obtain ⟨p, p1, p2⟩ := h.all j hj.1
      refine ⟨p, (q4 p).2 ⟨p1, ?_⟩, p2⟩
      by_cases c : likeB p.key (κ i) = true
      · have := (hκ.no hS hD h p1).1 c
        rw [p2] at this
        exact absurd ((hκ.keq hS hD hj.1).1 this) hj.2
      · simpa using c
  · exact absurd hv0 q3
  · exact absurd hv0 q2
  · have hn : ¬ S i := fun hSi => by
      obtain ⟨p, p1, p2⟩ := h.all i hSi
      have := q1 p p1
      rw [(hκ.no hS hD h p1).2 p2] at this
      exact absurd this (by decide)
    rw [q3]
    refine ⟨h.congr fun j => ⟨fun hj => ⟨hj, fun e => hn (e ▸ hj)⟩, fun hj => hj.1⟩, rfl, fun hSi => absurd hSi hn, fun _ => rfl⟩
end
theorem int_keys : Keys (fun i => intV (i : Int)) (fun _ => True) :=
  ⟨fun i _ => ⟨by unfold keyB Vl.ok validB intV; simp [fz_nil], ⟨by show (0 : Nat) < _; decide, Nat.zero_le _⟩⟩, fun i j _ _ h => by
    have := like_num h
    have e : ((i : Nat) : Int) = j := this
    omega⟩
theorem len_says2 {d : Dc} : ∀ (g k : Nat), k + g = d.m → k ≤ fz0 d.I d.m k g ∧ (∀ j, k ≤ j → j < fz0 d.I d.m k g → d.I j ≠ 0) ∧ (fz0 d.I d.m k g = d.m ∨ (fz0 d.I d.m k g < d.m ∧ d.I (fz0 d.I d.m k g) = 0))
  | 0, k, e => ⟨Nat.le_refl _, fun j h1 h2 => by have h2 : j < k := h2; omega, .inl (by show k = d.m; omega)⟩
  | g + 1, k, e => by
    by_cases h0 : d.I k = 0
    · have e1 : fz0 d.I d.m k (g + 1) = k := if_pos h0
      rw [e1]
      exact ⟨Nat.le_refl _, fun j h1 h2 => by omega, .inr ⟨by omega, h0⟩⟩
    · have e1 : fz0 d.I d.m k (g + 1) = fz0 d.I d.m (k + 1) g := if_neg h0
      rw [e1]
      obtain ⟨h1, h2, h3⟩ := len_says2 (d := d) g (k + 1) (by omega)
      refine ⟨by omega, fun j h4 h5 => ?_, h3⟩
      by_cases e2 : j = k
      · subst e2; exact h0
      · exact h2 j (by omega) h5
/-- The ints from 1 to n: all in Ints, none in the index. -/
theorem small_all {d : Dc} (hI : Inv Ky hN d) {n : Nat} (h : KeysAre (fun i => intV (i : Int)) d (fun j => 1 ≤ j ∧ j ≤ n)) : d.m = n ∧ (∀ s, s < d.x → ¬ 0 < d.X s) ∧ lenN d = n := by
  have hm : d.m = n := by
    have h1 : ¬ d.m < n := fun hc => by
      obtain ⟨p, ⟨i, i1, i2, rfl⟩, p2⟩ := h.all (d.m + 1) ⟨by omega, by omega⟩
      refine hI.next i i1 i2 ⟨by rw [p2]; rfl, ?_⟩
      rw [p2]
      show (((d.m + 1 : Nat) : Int)) = _
      omega
    have h2 : ¬ n < d.m := fun hc => by
      have h0 : 0 < d.I (d.m - 1) := hI.i0.last.resolve_left (by omega)
      rcases hI.i0.ints (d.m - 1) (by omega) with e | ⟨e1, e2, e3, e4, e5⟩
      · omega
      · obtain ⟨j, j1, j2⟩ := h.sub _ (has_at (i := (d.I (d.m - 1) - 1).toNat) (by omega) e3)
        have e5 : (d.L (d.I (d.m - 1) - 1).toNat).key.num = ((d.m - 1 : Nat) : Int) + 1 := e5
        rw [j2] at e5
        have e5 : ((j : Nat) : Int) = ((d.m - 1 : Nat) : Int) + 1 := e5
        omega
    omega
  refine ⟨hm, fun s hs h0 => ?_, ?_⟩
  · rcases hI.i0.idx.range s hs with e | e | ⟨_, i1, i2, i3⟩
    · omega
    · omega
    obtain ⟨j, j1, j2⟩ := h.sub _ (has_at i1 i2)
    refine i3 ⟨by rw [j2]; rfl, ?_, ?_⟩
    · rw [j2]; show (1 : Int) ≤ ((j : Nat) : Int); omega
    · rw [j2]; show ((j : Nat) : Int) ≤ _; omega
  · obtain ⟨l1, l2, l3⟩ := len_says2 (d := d) d.m 0 (by omega)
    have l3 : lenN d = d.m ∨ (lenN d < d.m ∧ d.I (lenN d) = 0) := l3
    rcases l3 with l3 | ⟨l3, l4⟩
    · omega
    · exfalso
      obtain ⟨p, ⟨i, i1, i2, rfl⟩, p2⟩ := h.all (lenN d + 1) ⟨by omega, by omega⟩
      have hs := hI.i0.small i i1 i2 (by
        rw [p2]
        refine ⟨rfl, ?_, ?_⟩
        · show (1 : Int) ≤ ((lenN d + 1 : Nat) : Int); omega
        · show ((lenN d + 1 : Nat) : Int) ≤ _; omega)
      rw [p2] at hs
      have e : ((intV ((lenN d + 1 : Nat) : Int)).num - 1).toNat = lenN d := by show ((((lenN d + 1 : Nat) : Int)) - 1).toNat = _; omega
      rw [e, l4] at hs
      omega
end Go.Proofs.YtglcaejddckleaaDoor
namespace Go.Proofs.YtglcaejddckleaaDoor
open Go.RowKit
set_option linter.unusedVariables false

/-- The bytes that are drawn from: nil, or a row of cells below the cursor. -/
def CodeAt (w : World) (b : Nat) (a : Option Addr) (len : Nat) : Prop :=
  len < 9007199254740992 ∧ (len = 0 ∨ ∃ k off, a = some ⟨k, off, none⟩ ∧ k < b ∧ ∀ i, i < len → ∃ z : Int, w.cell? ⟨k, off + i, none⟩ = some (.int .u8 z) ∧ 0 ≤ z ∧ z < 256)

/-- A cursor at block b, which has gone on at most N times. -/
structure Cu (b N : Nat) (w : World) : Prop where
  ex : ∃ a len cap at_ seed, w.cell? ⟨b, 0, none⟩ = some (.slice a len cap) ∧ w.cell? ⟨b, 1, none⟩ = some (.int .i64 at_) ∧ w.cell? ⟨b, 2, none⟩ = some (.int .u64 seed) ∧ 0 ≤ at_ ∧ at_ ≤ N ∧ 0 ≤ seed ∧ seed < 18446744073709551616 ∧ CodeAt w b a len
  fz : ∀ o, w.frozen? ⟨b, o, none⟩ = false

/-- Nothing but block b has turned, and draws. -/
structure Stc (b : Nat) (w w' : World) : Prop where
  os : w'.os = w.os
  tape : w'.tape = w.tape
  output : w'.output = w.output
  size : w'.heap.size = w.heap.size
  block : ∀ k, k ≠ b → w'.heap[k]? = w.heap[k]?

theorem Stc.refl (b : Nat) (w : World) : Stc b w w := ⟨rfl, rfl, rfl, rfl, fun _ _ => rfl⟩
theorem Stc.trans {b : Nat} {u v w : World} (h : Stc b u v) (k : Stc b v w) : Stc b u w :=
  ⟨k.os.trans h.os, k.tape.trans h.tape, k.output.trans h.output, k.size.trans h.size, fun i hi => (k.block i hi).trans (h.block i hi)⟩
theorem Stc.cell {b : Nat} {w w' : World} (h : Stc b w w') (k o : Nat) (hk : k ≠ b) : w'.cell? ⟨k, o, none⟩ = w.cell? ⟨k, o, none⟩ := World.cell?_of_block (w := w) (h.block k hk)
theorem Stc.frozen {b : Nat} {w w' : World} (h : Stc b w w') (k o : Nat) (hk : k ≠ b) : w'.frozen? ⟨k, o, none⟩ = w.frozen? ⟨k, o, none⟩ := World.frozen?_of_block (w := w) (h.block k hk)
theorem Stc.below {b B : Nat} {w w' : World} (h : Stc b w w') (hB : B ≤ b) : Below B w w' := ⟨h.os, h.tape, h.output, by rw [h.size]; exact Nat.le_refl _, fun k hk => h.block k (by omega)⟩

theorem stp_set (b o : Nat) (w : World) (v : Value) : Stc b w (w.setCell ⟨b, o, none⟩ v) :=
  ⟨rfl, rfl, rfl, by simp [World.setCell], fun k hk => Below.heap_setCell _ _ _ _ (by simpa using hk)⟩
theorem stp_drewN (b n : Nat) (w : World) : Stc b w (w.drewN n) := ⟨rfl, rfl, rfl, rfl, fun _ _ => rfl⟩
theorem stp_two (b o o' n : Nat) (w : World) (v v' : Value) : Stc b w (((w.drewN n).setCell ⟨b, o, none⟩ v).setCell ⟨b, o', none⟩ v') :=
  ((stp_drewN b n w).trans (stp_set b o _ v)).trans (stp_set b o' _ v')

theorem CodeAt.stp {b : Nat} {w w' : World} {a : Option Addr} {len : Nat} (h : CodeAt w b a len) (s : Stc b w w') : CodeAt w' b a len := by
  refine ⟨h.1, ?_⟩
  rcases h.2 with h | ⟨k, off, e, hk, hc⟩
  · exact .inl h
  · refine .inr ⟨k, off, e, hk, fun i hi => ?_⟩
    obtain ⟨z, h1, h2⟩ := hc i hi
    exact ⟨z, by rw [s.cell k _ (by omega)]; exact h1, h2⟩

/-- The cursor behind a step. -/
theorem cu_two {b N : Nat} {w : World} {a : Option Addr} {len cap : Nat} {at_ seed : Int} (fz : ∀ o, w.frozen? ⟨b, o, none⟩ = false)
    (h0 : w.cell? ⟨b, 0, none⟩ = some (.slice a len cap)) (h1 : w.cell? ⟨b, 1, none⟩ = some (.int .i64 at_)) (h2 : w.cell? ⟨b, 2, none⟩ = some (.int .u64 seed))
    (ha0 : 0 ≤ at_) (ha1 : at_ ≤ N) (hc : CodeAt w b a len) (n : Nat) (s : Int) (hs0 : 0 ≤ s) (hs1 : s < 18446744073709551616) :
    Cu b (N + 1) (((w.drewN n).setCell ⟨b, 1, none⟩ (.int .i64 (at_ + 1))).setCell ⟨b, 2, none⟩ (.int .u64 s)) ∧ Cu b (N + 1) (((w.drewN n).setCell ⟨b, 2, none⟩ (.int .u64 s)).setCell ⟨b, 1, none⟩ (.int .i64 (at_ + 1))) := by
  constructor
  · exact ⟨⟨a, len, cap, at_ + 1, s, by simp [go_sem, h0], by simp [go_sem, h1], by simp [go_sem, h2], by omega, by omega, hs0, hs1, hc.stp (stp_two b 1 2 n w _ _)⟩, fun o => by simp [go_sem, fz]⟩
  · exact ⟨⟨a, len, cap, at_ + 1, s, by simp [go_sem, h0], by simp [go_sem, h1], by simp [go_sem, h2], by omega, by omega, hs0, hs1, hc.stp (stp_two b 2 1 n w _ _)⟩, fun o => by simp [go_sem, fz]⟩

theorem and255 (X : Int) (h0 : 0 ≤ X) (h1 : X < 18446744073709551616) : 0 ≤ wrap64 (bits BinOp.and IntKind.u64 X 255) ∧ wrap64 (bits BinOp.and IntKind.u64 X 255) < 256 := by
  have h := u64_and X 255 h0 h1 (by omega) (by omega)
  have e : (255 : Int).toNat = 2 ^ 8 - 1 := by decide
  rw [e, Nat.and_two_pow_sub_one_eq_mod] at h
  rw [h]
  have hm : X.toNat % 2 ^ 8 < 256 := Nat.mod_lt _ (by decide)
  generalize X.toNat % 2 ^ 8 = q at hm
  have : wrap64 (q : Int) = q := by unfold wrap64; omega
  rw [this]; omega

end Go.Proofs.YtglcaejddckleaaDoor
namespace Go.Proofs.YtglcaejddckleaaDoor
open Go.RowKit
set_option linter.unusedVariables false

theorem bez : ∀ (b a : Nat), ∃ x y : Int, (a : Int) * x + (b : Int) * y = ((Nat.gcd a b : Nat) : Int) := by
  intro b
  induction b using Nat.strongRecOn with
  | _ b ih =>
    intro a
    by_cases h : b = 0
    · subst h
      exact ⟨1, 0, by simp⟩
    · obtain ⟨x, y, e⟩ := ih (a % b) (Nat.mod_lt _ (by omega)) b
      refine ⟨y, x - ((a / b : Nat) : Int) * y, ?_⟩
      have e1 : Nat.gcd b (a % b) = Nat.gcd a b := by rw [Nat.gcd_comm, ← Nat.gcd_rec, Nat.gcd_comm]
      rw [e1] at e
      rw [← e]
      have e2 : (a : Int) = (b : Int) * ((a / b : Nat) : Int) + ((a % b : Nat) : Int) := by
        have := Nat.div_add_mod a b
        have h2 : ((b * (a / b) + a % b : Nat) : Int) = (a : Int) := by rw [this]
        rw [← h2]
        simp
      generalize ((a / b : Nat) : Int) = q at e2 ⊢
      generalize ((a % b : Nat) : Int) = r at e2 ⊢
      rw [e2, Int.mul_sub, Int.add_mul, Int.mul_assoc (b : Int) q y]
      omega
theorem cover {s n r : Nat} (hn : 0 < n) (hg : Nat.gcd s n = 1) (hr : r < n) : ∃ i, i < n ∧ (i * s) % n = r := by
  obtain ⟨x, y, e⟩ := bez n s
  rw [hg] at e
  have hn' : (0 : Int) < n := by omega
  have hi0 : 0 ≤ ((r : Int) * x) % n := Int.emod_nonneg _ (by omega)
  have hi1 : ((r : Int) * x) % n < n := Int.emod_lt_of_pos _ hn'
  refine ⟨(((r : Int) * x) % n).toNat, by omega, ?_⟩
  have h1 : (((((r : Int) * x) % n).toNat * s % n : Nat) : Int) = (r : Int) := by
    have hc : (((((r : Int) * x) % n).toNat : Nat) : Int) = ((r : Int) * x) % n := by omega
    rw [Int.natCast_emod, Int.natCast_mul, hc, Int.mul_emod, Int.emod_emod_of_dvd _ (Int.dvd_refl _), ← Int.mul_emod]
    have h2 : (r : Int) * x * s = r + (n : Int) * (-(y * r)) := by
      have : (r : Int) * ((s : Int) * x + (n : Int) * y) = r * 1 := by rw [e]; rfl
      rw [Int.mul_one, Int.mul_add] at this
      have e3 : (r : Int) * x * s = r * (s * x) := by rw [Int.mul_assoc, Int.mul_comm x s]
      have e4 : (n : Int) * (-(y * r)) = - (r * ((n : Int) * y)) := by rw [Int.mul_neg, Int.mul_comm y r, ← Int.mul_assoc, Int.mul_comm (n : Int) r, Int.mul_assoc]
      rw [e3, e4]
      omega
    rw [h2, Int.add_mul_emod_self_left]
    exact Int.emod_eq_of_lt (by omega) (by omega)
  omega
theorem gcd_one (n k : Nat) : Nat.gcd (n * k + 1) n = 1 := by
  have h1 := Nat.gcd_dvd_left (n * k + 1) n
  have h2 := Nat.gcd_dvd_right (n * k + 1) n
  have h3 : Nat.gcd (n * k + 1) n ∣ n * k := Nat.dvd_trans h2 (Nat.dvd_mul_right n k)
  exact Nat.eq_one_of_dvd_one ((Nat.dvd_add_right h3).1 h1)

set_option maxHeartbeats 1000000 in
theorem wGcd_any (a b : Nat) (ha : a ≤ 1000000) (hb : b ≤ 1000000) (w : World) :
    Calls Tryd.prog 6 #[.int .i64 a, .int .i64 b] w fun e w' => e = .returned (.int .i64 ((Nat.gcd a b : Nat) : Int)) ∧ w' = w := by
  go_enter Tryd.func6, Tryd.ntmps6
  go_wp2
  go_loopw [0, 1] (fun u v wr => ∃ x y : Nat, u = .int .i64 x ∧ v = .int .i64 y ∧ x ≤ 1000000 ∧ y ≤ 1000000 ∧ Nat.gcd x y = Nat.gcd a b ∧ wr = w) (fun _ v _ => (intOf v).toNat)
  case atStart => exact ⟨a, b, rfl, rfl, ha, hb, rfl, rfl⟩
  case round =>
    obtain ⟨x, y, rfl, rfl, hx, hy, hg, rfl⟩ := hrel
    by_cases h0 : y = 0
    · subst h0
      have HG := hide hg
      clear hg
      go_wp2
      go_ret
      refine ⟨?_, rfl⟩
      rw [← unhide HG, Nat.gcd_zero_right]
      rfl
    · have hp : (0 : Int) < (y : Int) := by omega
      have hne : ¬ (y : Int) = 0 := by omega
      have hmod : Int.tmod (x : Int) (y : Int) = ((x % y : Nat) : Int) := by rw [Int.tmod_eq_emod_of_nonneg (by omega)]; rfl
      have hlt : x % y < y := Nat.mod_lt _ (by omega)
      have HG := hide hg
      clear hg
      go_wp2
      go_roundw
      case rel => exact ⟨y, x % y, rfl, by first | rfl | (rw [hmod]), hy, by omega, by rw [← unhide HG, Nat.gcd_comm y, ← Nat.gcd_rec, Nat.gcd_comm], by first | rfl | trivial⟩
      case measure => simp [intOf]; omega
end Go.Proofs.YtglcaejddckleaaDoor
namespace Go.Proofs.YtglcaejddckleaaDoor
open Go.RowKit Go.Shelf
set_option linter.unusedVariables false

/-- What holds at the end that is plain; no other end is borne. -/
def QN (Q : Exit → Act → World → Prop) : Exit → Act → World → Prop
  | .normal, a, w => Q .normal a w
  | _, _, _ => False
theorem QN.no {Q : Exit → Act → World → Prop} : ¬ LetsOut (QN Q) := fun ⟨a, w, h⟩ => h

theorem QN.normal {Q : Exit → Act → World → Prop} {a : Act} {w : World} (h : Q .normal a w) : QN Q .normal a w := h

section
variable {P : Program} {ops : Array Oper} {md : Region.Mode}
theorem wpInR_of_wp {l n : Nat} {o : Oper} {a : Act} {K K' : Act → World → Prop} {Q : Exit → Act → World → Prop} {w : World} (hd : ∀ c, o.op ≠ .defer c) (h : ∀ a w, K a w → K' a w) (hh : o.wp P a w K (QN Q)) : o.wpIn (Fence.wide.inRound l) n P a w K' Q := by
  unfold Oper.wp at hh
  refine ⟨fun _ _ => trivial, ?_⟩
  show o.uponIn (Fence.wide.inRound l) n P a K' Q ((o.semAt (some l) a.eval).run P w)
  rw [Oper.semAt_some l _ _ hd]
  generalize (execOp a.eval o).run P w = r at *
  cases r with
  | ok x w' =>
    cases x <;> simp only [Oper.upon] at hh <;> simp only [Oper.uponIn]
    case value u => exact h _ _ hh
    case skip => exact h _ _ hh
    case defer d => exact h _ _ hh
    case enter f args =>
      refine ⟨fun hh => (by cases hh), CallsIn.inRound l (callsIn_wide.2 (hh.mono fun e w'' he => ?_))⟩
      cases e with
      | returned v => exact h _ _ he
      | panicked c => exact False.elim he
      | outgrown => exact absurd he QN.no
    case row row args =>
      refine ⟨fun hh => (by cases hh), fun c cs hr => ?_⟩
      obtain ⟨v, w'', r, s⟩ := hh c cs
      exact ⟨v, w'', h _ _ r, stepsIn_wide.2 s⟩
  | halt x w' => cases x <;> simp only [Oper.upon] at hh <;> exact False.elim hh

theorem wpOpInR_of_wpOp {l n i : Nat} {a : Act} {K K' : Act → World → Prop} {Q : Exit → Act → World → Prop} {w : World} (hd : noDefer ops = true) (h : ∀ a w, K a w → K' a w) (hh : wpOp P ops (QN Q) i K a w) : wpOpIn (Fence.wide.inRound l) n P ops Q i K' a w := by
  unfold wpOp at hh
  unfold wpOpIn
  split
  · rename_i ho; simp only [ho] at hh; exact h _ _ hh
  · rename_i o ho
    simp only [ho] at hh
    split
    · rename_i hw
      simp only [hw, if_true] at hh
      rcases hh with hh | hh
      · exact wpInR_of_wp (noDefer_spec hd ho) h hh
      · exact absurd hh.2 QN.no
    · rename_i hw; simp only [hw] at hh; exact ⟨fun _ _ => trivial, h _ _ hh⟩

theorem wpAnyInR_of_any {l n : Nat} {Q : Exit → Act → World → Prop} (hd : noDefer ops = true) : ∀ (fuel : Nat) (listed : Array Bool) (a : Act) (w : World), wpAny P md ops (QN Q) fuel listed a w → wpAnyIn (Fence.wide.inRound l) n P md ops Q fuel listed a w
  | 0, _, _, _, h => h
  | fuel + 1, _, _, _, h => ⟨h.1, fun i hi => wpOpInR_of_wpOp hd (fun a' w' h' => wpAnyInR_of_any hd fuel _ a' w' h') (h.2 i hi)⟩

/-- One order stands for all, where what is read stays. -/
theorem wpInR_held {l n id : Nat} {Q : Exit → Act → World → Prop} {a : Act} {w : World} (S : World → Prop) (hm : P.follows .mixedOrders = true) (hd : noDefer ops = true) (h : wpAnyH P .any ops (QN Q) S ops.size (Array.replicate ops.size false) a { w with drawn := w.drawn + 1 }) : (Code.region id ops true).wpIn (Fence.wide.inRound l) n P Q a w :=
  wpIn_region_any hm (wpAnyInR_of_any hd _ _ _ _ (wpAny_of_held _ _ _ _ h))
/-- One operation taken first. -/
theorem tk {Q : Exit → Act → World → Prop} {S : World → Prop} {l rest : List Oper} (i : Nat) {oi : Oper} {v : Value} {fuel : Nat} {listed : Array Bool} {a : Act} {w : World} (hd : l.drop i = oi :: rest) (hc : (Region.noSelect l.toArray && Region.free md l.toArray listed i && (Region.ready md l.toArray listed).contains i) = true)
    (hw : Region.wanted oi (yielded l.toArray a.tmps) = true) (hy : ∀ w, S w → (execOp a.eval oi).run P w = .ok (.value v) w) (hS : S w) (h : wpAnyH P md l.toArray (QN Q) S fuel (listed.setIfInBounds i true) (a.put oi.dst v) w) : wpAnyH P md l.toArray (QN Q) S (fuel + 1) listed a w := by
  simp only [Bool.and_eq_true] at hc
  have hi : l.toArray[i]? = some oi := by
    have h1 : (l.drop i)[0]? = some oi := by rw [hd]; rfl
    rw [List.getElem?_drop] at h1
    simpa using h1
  exact wpAnyH_take hi hc.1.1 hc.1.2 hc.2 (fun _ _ _ h => h) (Or.inl ⟨hw, hy⟩) hS h
theorem QN.imp {Q : Exit → Act → World → Prop} : ∀ (e : Exit) (a : Act) (w : World), QN Q e a w → Q e a w := fun e a w h => by
  cases e <;> first | exact h | exact False.elim h
theorem wpN_held {id : Nat} {Q : Exit → Act → World → Prop} {a : Act} {w : World} (S : World → Prop) (hm : P.follows .mixedOrders = true) (h : wpAnyH P .any ops (QN Q) S ops.size (Array.replicate ops.size false) a { w with drawn := w.drawn + 1 }) : (Code.region id ops true).wp P Q a w :=
  Code.wp_mono QN.imp (wp_region_held hm h)
theorem wpInW_held {n id : Nat} {Q : Exit → Act → World → Prop} {a : Act} {w : World} (S : World → Prop) (hm : P.follows .mixedOrders = true) (h : wpAnyH P .any ops (QN Q) S ops.size (Array.replicate ops.size false) a { w with drawn := w.drawn + 1 }) : (Code.region id ops true).wpIn Fence.wide n P Q a w :=
  wpIn_wide.2 (wpN_held S hm h)
end
end Go.Proofs.YtglcaejddckleaaDoor
namespace Go.Proofs.YtglcaejddckleaaDoor
open Go.RowKit
set_option linter.unusedVariables false

/-- The cells of a row of pointers. -/
def ptL (f : Nat → Option Addr) : Nat → List Value
  | 0 => []
  | k + 1 => ptL f k ++ [.pointer (f k)]
theorem ptL_length (f : Nat → Option Addr) (n : Nat) : (ptL f n).length = n := by
  induction n with
  | zero => rfl
  | succ n ih => simp [ptL, ih]
theorem ptL_get {f : Nat → Option Addr} {n i : Nat} (hi : i < n) : (ptL f n)[i]? = some (.pointer (f i)) := by
  induction n with
  | zero => omega
  | succ n ih =>
    show (ptL f n ++ [.pointer (f n)])[i]? = _
    by_cases h : i < n
    · rw [List.getElem?_append_left (by rw [ptL_length]; omega), ih h]
    · have : i = n := by omega
      subst this
      rw [List.getElem?_append_right (by rw [ptL_length]; omega), ptL_length]
      simp
theorem ptL_ext {f : Nat → Option Addr} {n : Nat} {xs : List Value} (hl : xs.length = n) (h : ∀ i, i < n → xs[i]? = some (.pointer (f i))) : xs = ptL f n := by
  apply List.ext_getElem?
  intro q
  by_cases hq : q < n
  · rw [h q hq, ptL_get hq]
  · rw [List.getElem?_eq_none (by omega), List.getElem?_eq_none (by rw [ptL_length]; omega)]
theorem ptL_congr {f g : Nat → Option Addr} {n : Nat} (h : ∀ i, i < n → f i = g i) : ptL f n = ptL g n := ptL_ext (ptL_length f n) (fun i hi => by rw [ptL_get hi, h i hi])
theorem ptL_set (f : Nat → Option Addr) (n i : Nat) (a : Option Addr) (hi : i < n) : (ptL f n).set i (.pointer a) = ptL (upd f i a) n := by
  refine ptL_ext (by rw [List.length_set, ptL_length]) (fun q hq => ?_)
  rw [List.getElem?_set]
  by_cases e : i = q
  · subst e; rw [if_pos rfl, if_pos (by rw [ptL_length]; omega), upd_same]
  · rw [if_neg e, ptL_get hq, upd_other _ _ (fun e' => e e'.symm)]
theorem ptL_snoc (f : Nat → Option Addr) (n : Nat) (a : Option Addr) : ptL f n ++ [.pointer a] = ptL (upd f n a) (n + 1) := by
  show _ = ptL (upd f n a) n ++ [.pointer (upd f n a n)]
  rw [upd_same, ptL_congr (f := upd f n a) (g := f) (fun i hi => upd_other _ _ (by omega))]
theorem ptL_take (f : Nat → Option Addr) (n j : Nat) (h : j ≤ n) : (ptL f n).take j = ptL f j := by
  refine ptL_ext (by rw [List.length_take, ptL_length]; omega) (fun q hq => ?_)
  rw [List.getElem?_take, if_pos hq, ptL_get (by omega)]

abbrev tEnt : TypeId := 53
abbrev tSlt : TypeId := 67
abbrev Rw (w : World) (B : Nat) (t : TypeId) (v : Value) (n : Nat) (f : Nat → Option Addr) : Prop := w.ownsRow B t 1 v n (ptL f n)
theorem Rw.form {w : World} {B n : Nat} {t : TypeId} {v : Value} {f : Nat → Option Addr} (h : Rw w B t v n f) (hn : 0 < n) : ∃ g cp, v = .slice (some ⟨g, 0, none⟩) n cp ∧ B ≤ g ∧ g < w.heap.size ∧ n ≤ cp ∧ (∀ i, i < n → w.cell? ⟨g, i, none⟩ = some (.pointer (f i))) ∧ ∀ q, w.frozen? ⟨g, q, none⟩ = false := by
  have h' := h
  obtain ⟨hl, ⟨hv, h0⟩ | ⟨g, cap, cur, hv, hb, hblk, h1, h2, h3, h4⟩⟩ := h'
  · omega
  · subst hv
    exact ⟨g, cap, rfl, hb, (h.lt g rfl).2, h1, fun i hi => by rw [World.ownsRow.cellAt h _ (by omega), ptL_get hi], fun q => World.ownsRow.frozenAt h q⟩
theorem Rw.slice {w : World} {B n : Nat} {t : TypeId} {v : Value} {f : Nat → Option Addr} (h : Rw w B t v n f) : ∃ a cp, v = .slice a n cp := by
  obtain ⟨hl, ⟨hv, h0⟩ | ⟨g, cap, cur, hv, _⟩⟩ := h
  · subst h0; exact ⟨none, 0, hv⟩
  · exact ⟨_, _, hv⟩
theorem Rw.set {w : World} {B g n cp : Nat} {t : TypeId} {f : Nat → Option Addr} (h : Rw w B t (.slice (some ⟨g, 0, none⟩) n cp) n f) {i : Nat} (hi : i < n) (a : Option Addr) : Rw (w.setCell ⟨g, i, none⟩ (.pointer a)) B t (.slice (some ⟨g, 0, none⟩) n cp) n (upd f i a) := by
  have h1 := (World.ownsRow.stored h i (.pointer a)).1
  rw [ptL_set f n i a hi] at h1
  exact h1
theorem Rw.cut {w : World} {B g n cp : Nat} {t : TypeId} {f : Nat → Option Addr} (h : Rw w B t (.slice (some ⟨g, 0, none⟩) n cp) n f) {j : Nat} (hj : j ≤ n) : Rw w B t (.slice (some ⟨g, 0, none⟩) j cp) j f := by
  obtain ⟨hl, ⟨hv, h0⟩ | ⟨g', cap, cur, hv, hb, hblk, h1, h2, h3, h4⟩⟩ := h
  · cases hv
  · cases hv
    refine ⟨by rw [ptL_length]; omega, .inr ⟨g, cp, cur, rfl, hb, hblk, by omega, h2, h3, ?_⟩⟩
    have : cur.toList.take (j * 1) = (cur.toList.take (n * 1)).take j := by rw [List.take_take]; congr 1; omega
    rw [this, h4, ptL_take f n j hj]
theorem Rw.congr {w : World} {B n : Nat} {t : TypeId} {v : Value} {f g : Nat → Option Addr} (h : Rw w B t v n f) (e : ∀ i, i < n → g i = f i) : Rw w B t v n g := by
  show w.ownsRow _ _ _ _ _ (ptL g n)
  rw [ptL_congr e]
  exact h
theorem Ptrs.own {w : World} {R n B : Nat} {t : TypeId} {f : Nat → Option Addr} (h : Ptrs w R n t f) (hB : B ≤ R) (hn : n ≤ 4194304) : Rw w B t (.slice (some ⟨R, 0, none⟩) n n) n f := by
  obtain ⟨g, ⟨c, hb, hs, hc⟩, hg⟩ := h
  refine ⟨by rw [ptL_length]; omega, .inr ⟨R, n, c, rfl, hB, hb, Nat.le_refl _, by unfold maxLen; omega, by omega, ?_⟩⟩
  refine ptL_ext (by rw [List.length_take, Array.length_toList]; omega) (fun i hi => ?_)
  rw [List.getElem?_take, if_pos (by omega), Array.getElem?_toList, hc i hi, hg i hi]
/-- Blocks of two types are two. -/
theorem type_apart {w : World} {b : Nat} {c c' : Array Value} {t t' : TypeId} {fr fr' : Nat × Nat} (h : w.heap[b]? = some (.cells c t fr)) (h' : w.heap[b]? = some (.cells c' t' fr')) (hne : t ≠ t') : False := by
  rw [h] at h'
  cases h'
  exact hne rfl
theorem Rw.block {w : World} {B n b : Nat} {t : TypeId} {v : Value} {f : Nat → Option Addr} (h : Rw w B t v n f) (e : v.ownBlock = some b) : ∃ c, w.heap[b]? = some (.cells c t (0, 0)) := by
  obtain ⟨hl, ⟨hv, h0⟩ | ⟨g, cap, cur, hv, hb, hblk, _⟩⟩ := h
  · subst hv; cases e
  · subst hv
    have e' : g = b := by simpa [Value.ownBlock] using e
    subst e'
    exact ⟨cur, hblk⟩

theorem kept_ne' {w w3 : World} {B e size n : Nat} {v : Value} {xs : List Value} {row : Option Nat} (h : w.ownsRow B e size v n xs) (hg : w.grownBy w3 row) (hr : ∀ b, row = some b → v.ownBlock ≠ some b) : w3.ownsRow B e size v n xs := by
  cases hv : v.ownBlock with
  | none => exact h.kept hg (.inl hv)
  | some b => exact h.kept hg (.inr (by rw [hv]; intro e; exact hr b e.symm hv))

/-- A book that is worked on. -/
structure BMut (w : World) (bk : Nat) (r0 r1 : Value) (R2 : Nat) (E S : Nat → Nat) (d : Dc) : Prop where
  lt : bk < w.heap.size
  c0 : w.cell? ⟨bk, 0, none⟩ = some r0
  c1 : w.cell? ⟨bk, 1, none⟩ = some r1
  c2 : w.cell? ⟨bk, 2, none⟩ = some hashF
  c3 : w.cell? ⟨bk, 3, none⟩ = some (.slice (some ⟨R2, 0, none⟩) d.x d.x)
  c4 : w.cell? ⟨bk, 4, none⟩ = some (.int .i64 d.used)
  c5 : w.cell? ⟨bk, 5, none⟩ = some (.int .i64 d.live)
  c6 : w.cell? ⟨bk, 6, none⟩ = some (.int .i64 d.turns)
  fz : ∀ q, w.frozen? ⟨bk, q, none⟩ = false
  log : Rw w (bk + 1) tEnt r0 d.n (fun i => some ⟨E i, 0, none⟩)
  ints : Rw w (bk + 1) tEnt r1 d.m (fun i => entP E (d.I i))
  rf : ∃ R1 k1, r1 = .slice (some ⟨R1, 0, none⟩) d.m k1
  slots : Rw w (bk + 1) tSlt (.slice (some ⟨R2, 0, none⟩) d.x d.x) d.x (fun j => sltP S j (d.X j))
  ap : ∀ q, r0.ownBlock = some q → r1.ownBlock ≠ some q
  ent : ∀ i, i < d.n → ECell w (E i) (d.L i) i
  eb : ∀ i, i < d.n → bk < E i
  inj : ∀ i j, i < d.n → j < d.n → E i = E j → i = j
  sl : ∀ j, j < d.x → SlotIs w E S d j
  sg : ∀ j, j < d.x → d.X j ≠ 0 → bk < S j

theorem BMut.of_open {w : World} {B bk R0 R1 R2 : Nat} {E S : Nat → Nat} {d : Dc} (h : Book w bk R0 R1 R2 E S d) (s : Strong w B bk R0 R1 R2 E S d) (hS : Small d) : BMut w bk (.slice (some ⟨R0, 0, none⟩) d.n d.n) (.slice (some ⟨R1, 0, none⟩) d.m d.m) R2 E S d :=
  ⟨h.lt, s.e0, s.e1, h.c2, h.c3, h.c4, h.c5, h.c6, s.fz, s.o0.own s.g0 hS.n, s.o1.own s.g1 hS.m, ⟨_, _, rfl⟩, s.o2.own s.g2 hS.x, fun q e e' => by
    have e1 : R0 = q := by simpa [Value.ownBlock] using e
    have e2 : R1 = q := by simpa [Value.ownBlock] using e'
    exact s.r01 (e1.trans e2.symm), h.ent, s.gE, h.inj, h.sl, fun j hj h0 => Nat.lt_trans s.g2 (s.gS j hj h0)⟩
theorem BMut.r2_lt {w : World} {bk : Nat} {r0 r1 : Value} {R2 : Nat} {E S : Nat → Nat} {d : Dc} (h : BMut w bk r0 r1 R2 E S d) : bk < R2 ∧ R2 < w.heap.size := h.slots.lt R2 rfl
theorem BMut.book {w : World} {bk : Nat} {r0 r1 : Value} {R2 : Nat} {E S : Nat → Nat} {d : Dc} (h : BMut w bk r0 r1 R2 E S d) : ∃ R0 R1, Book w bk R0 R1 R2 E S d := by
  obtain ⟨R1, k1, e1⟩ := h.rf
  have h1l := h.ints.lt R1 (by rw [e1]; rfl)
  have hi : ∀ i, i < d.m → w.cell? ⟨R1, i, none⟩ = some (.pointer (entP E (d.I i))) := fun i hi => by
    obtain ⟨g, cp, e, _, _, _, hc, _⟩ := h.ints.form (by omega)
    rw [e1] at e
    cases e
    exact hc i hi
  have hx : ∀ j, j < d.x → w.cell? ⟨R2, j, none⟩ = some (.pointer (sltP S j (d.X j))) := fun j hj => by
    obtain ⟨g, cp, e, _, _, _, hc, _⟩ := h.slots.form (by omega)
    cases e
    exact hc j hj
  by_cases hn : 0 < d.n
  · obtain ⟨g, cp, e, hB, hl, _, hc, _⟩ := h.log.form hn
    refine ⟨g, R1, h.lt, ⟨_, _, by rw [h.c0, e], fun _ => rfl⟩, ⟨k1, by rw [h.c1, e1]⟩, h.c2, h.c3, h.c4, h.c5, h.c6, hc, h.ent, h.inj, hi, hx, h.sl, hl, h1l.2, h.r2_lt.2⟩
  · obtain ⟨a, cp, e⟩ := h.log.slice
    exact ⟨bk, R1, h.lt, ⟨_, _, by rw [h.c0, e], fun h' => absurd h' hn⟩, ⟨k1, by rw [h.c1, e1]⟩, h.c2, h.c3, h.c4, h.c5, h.c6, fun i hi => by omega, h.ent, h.inj, hi, hx, h.sl, h.lt, h1l.2, h.r2_lt.2⟩
theorem SlotIs.keep {w w' : World} {E S : Nat → Nat} {d : Dc} {j : Nat} (h : SlotIs w E S d j) (hs : w.heap.size ≤ w'.heap.size) (e : ∀ c, w.heap[S j]? = some (.cells c 69 (0, 0)) → w'.heap[S j]? = w.heap[S j]?) : SlotIs w' E S d j :=
  ⟨fun hp => (h.1 hp).keep hs (e _ (h.1 hp).ob), fun hp => (h.2 hp).keep hs (e _ (h.2 hp).ob)⟩
theorem BMut.below {w w' : World} {bk : Nat} {r0 r1 : Value} {R2 : Nat} {E S : Nat → Nat} {d : Dc} (h : BMut w bk r0 r1 R2 E S d) (hb : Below w.heap.size w w') : BMut w' bk r0 r1 R2 E S d := by
  have e : ∀ q, w'.cell? ⟨bk, q, none⟩ = w.cell? ⟨bk, q, none⟩ := fun q => hb.cell (p := ⟨bk, q, none⟩) h.lt
  exact ⟨Nat.lt_of_lt_of_le h.lt hb.size, (e _).trans h.c0, (e _).trans h.c1, (e _).trans h.c2, (e _).trans h.c3, (e _).trans h.c4, (e _).trans h.c5, (e _).trans h.c6, fun q => (hb.frozen (p := ⟨bk, q, none⟩) h.lt).trans (h.fz q), own_block h.log hb.size (fun q _ hq => hb.block q hq), own_block h.ints hb.size (fun q _ hq => hb.block q hq), h.rf, own_block h.slots hb.size (fun q _ hq => hb.block q hq), h.ap, fun i hi => (h.ent i hi).keep hb.size (hb.block _ (h.ent i hi).lt), h.eb, h.inj, fun j hj => (h.sl j hj).keep hb.size (fun c hc => hb.block _ (Array.getElem?_eq_some_iff.1 hc).1), h.sg⟩
/-- Only what lies within the bounds is told. -/
theorem BMut.of_same {w : World} {bk : Nat} {r0 r1 : Value} {R2 : Nat} {E S E' : Nat → Nat} {d e : Dc} (h : BMut w bk r0 r1 R2 E S d) (n : e.n = d.n) (m : e.m = d.m) (x : e.x = d.x) (u : e.used = d.used) (l : e.live = d.live) (t : e.turns = d.turns) (I : ∀ i, i < d.m → e.I i = d.I i) (X : ∀ j, j < d.x → e.X j = d.X j)
    (L : ∀ i, i < d.n → e.L i = d.L i) (hE : ∀ i, i < d.n → E' i = E i) (hI : ∀ i, i < d.m → d.I i ≤ d.n) (hX : ∀ j, j < d.x → d.X j ≤ d.n) : BMut w bk r0 r1 R2 E' S e := by
  have eP : ∀ p : Int, p ≤ d.n → entP E' p = entP E p := fun p hp => by
    unfold entP
    by_cases h0 : 0 < p
    · rw [if_pos h0, if_pos h0, hE _ (by omega)]
    · rw [if_neg h0, if_neg h0]
  refine ⟨h.lt, h.c0, h.c1, h.c2, by rw [x]; exact h.c3, by rw [u]; exact h.c4, by rw [l]; exact h.c5, by rw [t]; exact h.c6, h.fz, ?_, ?_, by rw [m]; exact h.rf, ?_, h.ap, fun i hi => ?_, fun i hi => ?_, fun i j hi hj => ?_, fun j hj => ?_, fun j hj h0 => h.sg j (by omega) (by rw [← X j (by omega)]; exact h0)⟩
  · show w.ownsRow _ _ _ _ e.n (ptL _ e.n)
    rw [n]
    exact h.log.congr (fun i hi => by rw [hE i hi])
  · show w.ownsRow _ _ _ _ e.m (ptL _ e.m)
    rw [m]
    exact h.ints.congr (fun i hi => by rw [I i hi, eP _ (hI i hi)])
  · rw [x]
    exact h.slots.congr (fun j hj => by rw [X j hj])
  · rw [n] at hi; rw [hE i hi, L i hi]; exact h.ent i hi
  · rw [n] at hi; rw [hE i hi]; exact h.eb i hi
  · rw [n] at hi hj; rw [hE i hi, hE j hj]; exact h.inj i j hi hj
  · rw [x] at hj
    have hs := h.sl j hj
    unfold SlotIs at hs ⊢
    rw [X j hj]
    refine ⟨fun hp => ?_, hs.2⟩
    have hl := hX j hj
    have : e.at (d.X j) = d.at (d.X j) := L _ (by omega)
    rw [this, hE _ (by omega)]
    exact hs.1 hp
section
variable {w : World} {bk : Nat} {r0 r1 : Value} {R2 : Nat} {E S : Nat → Nat} {d : Dc}
/-- A cell of the book itself is written. -/
theorem BMut.fld (h : BMut w bk r0 r1 R2 E S d) {q : Nat} {u : Value} {s0 s1 : Value} {Q2 : Nat} {S' : Nat → Nat} {e : Dc}
    (g0 : (w.setCell ⟨bk, q, none⟩ u).cell? ⟨bk, 0, none⟩ = some s0) (g1 : (w.setCell ⟨bk, q, none⟩ u).cell? ⟨bk, 1, none⟩ = some s1) (g2 : (w.setCell ⟨bk, q, none⟩ u).cell? ⟨bk, 2, none⟩ = some hashF) (g3 : (w.setCell ⟨bk, q, none⟩ u).cell? ⟨bk, 3, none⟩ = some (.slice (some ⟨Q2, 0, none⟩) e.x e.x))
    (g4 : (w.setCell ⟨bk, q, none⟩ u).cell? ⟨bk, 4, none⟩ = some (.int .i64 e.used)) (g5 : (w.setCell ⟨bk, q, none⟩ u).cell? ⟨bk, 5, none⟩ = some (.int .i64 e.live)) (g6 : (w.setCell ⟨bk, q, none⟩ u).cell? ⟨bk, 6, none⟩ = some (.int .i64 e.turns))
    (l : Rw w (bk + 1) tEnt s0 e.n (fun i => some ⟨E i, 0, none⟩)) (i : Rw w (bk + 1) tEnt s1 e.m (fun i => entP E (e.I i))) (rf : ∃ R1 k1, s1 = .slice (some ⟨R1, 0, none⟩) e.m k1) (x : Rw w (bk + 1) tSlt (.slice (some ⟨Q2, 0, none⟩) e.x e.x) e.x (fun j => sltP S' j (e.X j))) (ap : ∀ q, s0.ownBlock = some q → s1.ownBlock ≠ some q)
    (en : ∀ i, i < e.n → ECell w (E i) (e.L i) i) (eb : ∀ i, i < e.n → bk < E i) (inj : ∀ i j, i < e.n → j < e.n → E i = E j → i = j) (sl : ∀ j, j < e.x → SlotIs w E S' e j) (sb : ∀ j, j < e.x → e.X j ≠ 0 → bk < S' j) : BMut (w.setCell ⟨bk, q, none⟩ u) bk s0 s1 Q2 E S' e := by
  have ob : ∀ b, b ≠ bk → (w.setCell ⟨bk, q, none⟩ u).heap[b]? = w.heap[b]? := fun b hb => Deep.blk_setCell_other _ _ _ _ (by exact hb)
  have nb : ∀ {v : Value} {n : Nat} {f : Nat → Option Addr} {t : TypeId}, Rw w (bk + 1) t v n f → v.ownBlock ≠ some bk := fun hh e => by have := (hh.lt bk e).1; omega
  have hsz : w.heap.size ≤ (w.setCell ⟨bk, q, none⟩ u).heap.size := by simp
  refine ⟨by simpa using h.lt, g0, g1, g2, g3, g4, g5, g6, fun p => by rw [World.frozen?_setCell]; exact h.fz p, World.ownsRow.kept l (grown_setCell w _ _) (.inr (nb l)), World.ownsRow.kept i (grown_setCell w _ _) (.inr (nb i)), rf, World.ownsRow.kept x (grown_setCell w _ _) (.inr (nb x)), ap, fun i hi => (en i hi).keep hsz (ob _ (by have := eb i hi; omega)), eb, inj, fun j hj => ?_, sb⟩
  by_cases h0 : e.X j = 0
  · exact ⟨fun hp => by omega, fun hp => by omega⟩
  · exact (sl j hj).keep hsz (fun c _ => ob _ (by have := sb j hj h0; omega))
theorem BMut.setUsed (h : BMut w bk r0 r1 R2 E S d) (u : Int) : BMut (w.setCell ⟨bk, 4, none⟩ (.int .i64 u)) bk r0 r1 R2 E S { d with used := u } :=
  h.fld ((cell_set_other (by decide)).trans h.c0) ((cell_set_other (by decide)).trans h.c1) ((cell_set_other (by decide)).trans h.c2) ((cell_set_other (by decide)).trans h.c3) (World.cell?_setCell_same' _ _ _ (by rw [h.c4]; rfl)) ((cell_set_other (by decide)).trans h.c5) ((cell_set_other (by decide)).trans h.c6) h.log h.ints h.rf h.slots h.ap h.ent h.eb h.inj h.sl h.sg
theorem BMut.setLive (h : BMut w bk r0 r1 R2 E S d) (u : Int) : BMut (w.setCell ⟨bk, 5, none⟩ (.int .i64 u)) bk r0 r1 R2 E S { d with live := u } :=
  h.fld ((cell_set_other (by decide)).trans h.c0) ((cell_set_other (by decide)).trans h.c1) ((cell_set_other (by decide)).trans h.c2) ((cell_set_other (by decide)).trans h.c3) ((cell_set_other (by decide)).trans h.c4) (World.cell?_setCell_same' _ _ _ (by rw [h.c5]; rfl)) ((cell_set_other (by decide)).trans h.c6) h.log h.ints h.rf h.slots h.ap h.ent h.eb h.inj h.sl h.sg
theorem BMut.setTurns (h : BMut w bk r0 r1 R2 E S d) (u : Int) : BMut (w.setCell ⟨bk, 6, none⟩ (.int .i64 u)) bk r0 r1 R2 E S { d with turns := u } :=
  h.fld ((cell_set_other (by decide)).trans h.c0) ((cell_set_other (by decide)).trans h.c1) ((cell_set_other (by decide)).trans h.c2) ((cell_set_other (by decide)).trans h.c3) ((cell_set_other (by decide)).trans h.c4) ((cell_set_other (by decide)).trans h.c5) (World.cell?_setCell_same' _ _ _ (by rw [h.c6]; rfl)) h.log h.ints h.rf h.slots h.ap h.ent h.eb h.inj h.sl h.sg
theorem BMut.setInts (h : BMut w bk r0 r1 R2 E S d) {u : Value} {m : Nat} {I : Nat → Int} (i : Rw w (bk + 1) tEnt u m (fun i => entP E (I i))) (rf : ∃ R1 k1, u = .slice (some ⟨R1, 0, none⟩) m k1) (ap : ∀ q, r0.ownBlock = some q → u.ownBlock ≠ some q) : BMut (w.setCell ⟨bk, 1, none⟩ u) bk r0 u R2 E S { d with m := m, I := I } :=
  h.fld ((cell_set_other (by decide)).trans h.c0) (World.cell?_setCell_same' _ _ _ (by rw [h.c1]; rfl)) ((cell_set_other (by decide)).trans h.c2) ((cell_set_other (by decide)).trans h.c3) ((cell_set_other (by decide)).trans h.c4) ((cell_set_other (by decide)).trans h.c5) ((cell_set_other (by decide)).trans h.c6) h.log i rf h.slots ap h.ent h.eb h.inj h.sl h.sg
theorem BMut.setSlots (h : BMut w bk r0 r1 R2 E S d) {Q2 x : Nat} {X : Nat → Int} (i : Rw w (bk + 1) tSlt (.slice (some ⟨Q2, 0, none⟩) x x) x (fun j => sltP S j (X j))) (sl : ∀ j, j < x → SlotIs w E S { d with x := x, X := X } j) (sg : ∀ j, j < x → X j ≠ 0 → bk < S j) : BMut (w.setCell ⟨bk, 3, none⟩ (.slice (some ⟨Q2, 0, none⟩) x x)) bk r0 r1 Q2 E S { d with x := x, X := X } :=
  h.fld ((cell_set_other (by decide)).trans h.c0) ((cell_set_other (by decide)).trans h.c1) ((cell_set_other (by decide)).trans h.c2) (World.cell?_setCell_same' _ _ _ (by rw [h.c3]; rfl)) ((cell_set_other (by decide)).trans h.c4) ((cell_set_other (by decide)).trans h.c5) ((cell_set_other (by decide)).trans h.c6) h.log h.ints h.rf i h.ap h.ent h.eb h.inj sl sg
/-- A cell of one of the rows is written, or one of an entry: all the rest lies as it lay. -/
theorem BMut.row (h : BMut w bk r0 r1 R2 E S d) {g q : Nat} {u : Value} (hg : bk < g) {e : Dc} (hx : e.x = d.x) (hu : e.used = d.used) (hl : e.live = d.live) (ht : e.turns = d.turns) (hm : e.m = d.m)
    (l : Rw (w.setCell ⟨g, q, none⟩ u) (bk + 1) tEnt r0 e.n (fun i => some ⟨E i, 0, none⟩)) (i : Rw (w.setCell ⟨g, q, none⟩ u) (bk + 1) tEnt r1 e.m (fun i => entP E (e.I i))) (x : Rw (w.setCell ⟨g, q, none⟩ u) (bk + 1) tSlt (.slice (some ⟨R2, 0, none⟩) e.x e.x) e.x (fun j => sltP S j (e.X j)))
    (en : ∀ i, i < e.n → ECell (w.setCell ⟨g, q, none⟩ u) (E i) (e.L i) i) (eb : ∀ i, i < e.n → bk < E i) (inj : ∀ i j, i < e.n → j < e.n → E i = E j → i = j) (sl : ∀ j, j < e.x → SlotIs (w.setCell ⟨g, q, none⟩ u) E S e j) (sg : ∀ j, j < e.x → e.X j ≠ 0 → bk < S j) : BMut (w.setCell ⟨g, q, none⟩ u) bk r0 r1 R2 E S e := by
  have hc : ∀ p, (w.setCell ⟨g, q, none⟩ u).cell? ⟨bk, p, none⟩ = w.cell? ⟨bk, p, none⟩ := fun p => cell_set_block (by omega)
  exact ⟨by simpa using h.lt, (hc _).trans h.c0, (hc _).trans h.c1, (hc _).trans h.c2, by rw [hx]; exact (hc _).trans h.c3, by rw [hu]; exact (hc _).trans h.c4, by rw [hl]; exact (hc _).trans h.c5, by rw [ht]; exact (hc _).trans h.c6, fun p => by rw [World.frozen?_setCell]; exact h.fz p, l, i, by rw [hm]; exact h.rf, x, h.ap, en, eb, inj, sl, sg⟩
theorem kept_row {w : World} {B n g q : Nat} {t : TypeId} {v u : Value} {f : Nat → Option Addr} (h : Rw w B t v n f) (hne : v.ownBlock ≠ some g) : Rw (w.setCell ⟨g, q, none⟩ u) B t v n f := World.ownsRow.kept h (grown_setCell w _ _) (.inr hne)
/-- A place of the ints is written. -/
theorem BMut.putI {R1 k1 : Nat} (h : BMut w bk r0 (.slice (some ⟨R1, 0, none⟩) d.m k1) R2 E S d) {i : Nat} (hi : i < d.m) (x : Int) : BMut (w.setCell ⟨R1, i, none⟩ (.pointer (entP E x))) bk r0 (.slice (some ⟨R1, 0, none⟩) d.m k1) R2 E S { d with I := upd d.I i x } := by
  have hR := h.ints.lt R1 rfl
  obtain ⟨c1, hb1⟩ := h.ints.block (b := R1) rfl
  obtain ⟨c2, hb2⟩ := h.slots.block (b := R2) rfl
  have hE : ∀ i, i < d.n → E i ≠ R1 := fun j hj e => type_apart ((e ▸ (h.ent j hj).ob)) hb1 (by decide)
  have ob : ∀ b, b ≠ R1 → (w.setCell ⟨R1, i, none⟩ (.pointer (entP E x))).heap[b]? = w.heap[b]? := fun b hb => Deep.blk_setCell_other _ _ _ _ (by exact hb)
  refine h.row hR.1 rfl rfl rfl rfl rfl (kept_row h.log (fun e => h.ap R1 e rfl)) ?_ (kept_row h.slots (fun e => ?_)) (fun j hj => (h.ent j hj).keep (by simp) (ob _ (hE j hj))) h.eb h.inj (fun j hj => ?_) h.sg
  · refine (h.ints.set hi (entP E x)).congr (fun j hj => ?_)
    show entP E (upd d.I i x j) = upd (fun i => entP E (d.I i)) i (entP E x) j
    by_cases e : j = i
    · subst e; rw [upd_same, upd_same]
    · rw [upd_other _ _ e, upd_other _ _ e]
  · have e' : R2 = R1 := by simpa [Value.ownBlock] using e
    subst e'
    exact type_apart hb2 hb1 (by decide)
  · refine (h.sl j hj).keep (by simp) (fun c hc => ob _ (fun e => ?_))
    rw [e] at hc
    exact type_apart hc hb1 (by decide)
/-- A slot is filled anew. -/
theorem BMut.putX (h : BMut w bk r0 r1 R2 E S d) {j : Nat} (hj : j < d.x) {x : Int} (hx : x ≠ 0) {A : Array Value} (hS : (0 < x → A = sltA (d.L (x - 1).toNat).key (E (x - 1).toNat)) ∧ (x < 0 → A = goneA)) :
    BMut ((w.setCell ⟨R2, j, none⟩ (.pointer (some ⟨w.heap.size, 0, none⟩))).alloc (.cells A 69)) bk r0 r1 R2 E (upd S j w.heap.size) { d with X := upd d.X j x } := by
  have hR := h.r2_lt
  obtain ⟨c2, hb2⟩ := h.slots.block (b := R2) rfl
  have hsz := h.lt
  obtain ⟨W, hW⟩ : ∃ W, W = (w.setCell ⟨R2, j, none⟩ (.pointer (some ⟨w.heap.size, 0, none⟩))).alloc (.cells A 69) := ⟨_, rfl⟩
  rw [← hW]
  have hzW : W.heap.size = w.heap.size + 1 := by rw [hW]; simp
  have ob : ∀ b, b < w.heap.size → b ≠ R2 → W.heap[b]? = w.heap[b]? := fun b hb hb' => by rw [hW]; exact (Deep.blk_alloc_lt _ _ _ (by simpa using hb)).trans (Deep.blk_setCell_other _ _ _ _ (by exact hb'))
  have hnew : W.heap[w.heap.size]? = some (.cells A 69 (0, 0)) := by
    rw [hW]
    have hg := Deep.blk_alloc_new (w.setCell ⟨R2, j, none⟩ (.pointer (some ⟨w.heap.size, 0, none⟩))) (.cells A 69)
    simpa using hg
  have gr : w.grownBy W (some R2) := ⟨by rw [hW]; rfl, by rw [hW]; rfl, by rw [hW]; rfl, by omega, fun k hk hne => ob k hk (fun e => hne (by rw [e]))⟩
  have hc : ∀ p, W.cell? ⟨bk, p, none⟩ = w.cell? ⟨bk, p, none⟩ := fun p => World.cell?_of_block (ob bk hsz (by omega))
  have kr : ∀ {v : Value} {n : Nat} {f : Nat → Option Addr}, Rw w (bk + 1) tEnt v n f → Rw W (bk + 1) tEnt v n f := fun {v n f} hh => kept_ne' hh gr (fun b e e' => by
    cases e
    obtain ⟨c, hb⟩ := hh.block e'
    exact type_apart hb2 hb (by decide))
  have hE : ∀ i, i < d.n → E i ≠ R2 := fun i hi e => type_apart (e ▸ (h.ent i hi).ob) hb2 (by decide)
  refine ⟨by omega, (hc _).trans h.c0, (hc _).trans h.c1, (hc _).trans h.c2, (hc _).trans h.c3, (hc _).trans h.c4, (hc _).trans h.c5, (hc _).trans h.c6, fun q => (World.frozen?_of_block (ob bk hsz (by omega))).trans (h.fz q), kr h.log, kr h.ints, h.rf, ?_, h.ap, fun i hi => (h.ent i hi).keep (by omega) (ob _ (h.ent i hi).lt (hE i hi)), h.eb, h.inj, fun i hi => ?_, fun i hi h0 => ?_⟩
  · have hs := (h.slots.set hj (some ⟨w.heap.size, 0, none⟩)).alloc (.cells A 69)
    rw [← hW] at hs
    refine Rw.congr hs (fun i hi => ?_)
    show sltP (upd S j w.heap.size) i (upd d.X j x i) = upd (fun j => sltP S j (d.X j)) j (some ⟨w.heap.size, 0, none⟩) i
    by_cases e : i = j
    · subst e
      rw [upd_same, upd_same]
      unfold sltP
      rw [if_neg hx, upd_same]
    · rw [upd_other _ _ e, upd_other _ _ e]
      unfold sltP
      rw [upd_other _ _ e]
  · unfold SlotIs
    show (0 < upd d.X j x i → SCell W (upd S j w.heap.size i) (d.L (upd d.X j x i - 1).toNat).key (E (upd d.X j x i - 1).toNat)) ∧ (upd d.X j x i < 0 → GCell W (upd S j w.heap.size i))
    by_cases e : i = j
    · subst e
      rw [upd_same, upd_same]
      refine ⟨fun hp => ?_, fun hp => ?_⟩
      · have hA := hS.1 hp
        subst hA
        exact ⟨by omega, by simp [World.cell?, hnew], by simp [World.cell?, hnew], by simp [World.cell?, hnew], by simp [World.cell?, hnew], by simp [World.cell?, hnew], by simp [World.cell?, hnew], by simp [World.cell?, hnew], hnew⟩
      · have hA := hS.2 hp
        subst hA
        exact ⟨by omega, by simp [World.cell?, hnew], hnew⟩
    · rw [upd_other _ _ e, upd_other _ _ e]
      have hk := (h.sl i hi).keep (w' := W) (by omega) (fun c hc => ob _ (Array.getElem?_eq_some_iff.1 hc).1 (fun e' => by rw [e'] at hc; exact type_apart hc hb2 (by decide)))
      exact hk
  · by_cases e : i = j
    · subst e; rw [upd_same]; exact hsz
    · rw [upd_other _ _ e]
      exact h.sg i hi (by have h0' : upd d.X j x i ≠ 0 := h0; rwa [upd_other _ _ e] at h0')
end
end Go.Proofs.YtglcaejddckleaaDoor
namespace Go.Proofs.YtglcaejddckleaaDoor
open Go.RowKit
set_option linter.unusedVariables false

/-- A list written over, from a place on. -/
def setL : List Value → Nat → List Value → List Value
  | xs, _, [] => xs
  | xs, q, u :: us => setL (xs.set q u) (q + 1) us
def setW (g : Nat) : World → Nat → List Value → World
  | w, _, [] => w
  | w, q, u :: us => setW g (w.setCell ⟨g, q, none⟩ u) (q + 1) us
theorem setL_get : ∀ (us xs : List Value) (q j : Nat), q + us.length ≤ xs.length → (setL xs q us)[j]? = if q ≤ j ∧ j < q + us.length then us[j - q]? else xs[j]? := by
  intro us
  induction us with
  | nil => intro xs q j _; rw [if_neg (by simp)]; rfl
  | cons u us ih =>
    intro xs q j h
    simp only [List.length_cons] at h ⊢
    show (setL (xs.set q u) (q + 1) us)[j]? = _
    rw [ih _ _ _ (by simp; omega), List.getElem?_set]
    by_cases e : j = q
    · subst e
      rw [if_neg (by omega), if_pos rfl, if_pos (by omega), if_pos (by omega), Nat.sub_self]
      rfl
    · by_cases e2 : q + 1 ≤ j ∧ j < q + 1 + us.length
      · rw [if_pos e2, if_pos (by omega)]
        obtain ⟨i, hi⟩ : ∃ i, j - q = i + 1 := ⟨j - q - 1, by omega⟩
        rw [hi, show j - (q + 1) = i by omega]
        rfl
      · rw [if_neg e2, if_neg (fun e' => e e'.symm), if_neg (by omega)]
theorem own_setW {B e size g n cap : Nat} : ∀ (us : List Value) (w : World) (q : Nat) (xs : List Value), w.ownsRow B e size (.slice (some ⟨g, 0, none⟩) n cap) n xs → (setW g w q us).ownsRow B e size (.slice (some ⟨g, 0, none⟩) n cap) n (setL xs q us) := by
  intro us
  induction us with
  | nil => intro w q xs h; exact h
  | cons u us ih => intro w q xs h; exact ih _ _ _ (World.ownsRow.stored h q u).1
theorem setW_other {g : Nat} : ∀ (us : List Value) (w : World) (q b : Nat), b ≠ g → (setW g w q us).heap[b]? = w.heap[b]? := by
  intro us
  induction us with
  | nil => intro w q b _; rfl
  | cons u us ih => intro w q b hb; exact (ih _ _ _ hb).trans (Deep.blk_setCell_other _ _ _ _ (by exact hb))
theorem setW_size {g : Nat} : ∀ (us : List Value) (w : World) (q : Nat), (setW g w q us).heap.size = w.heap.size ∧ (setW g w q us).os = w.os ∧ (setW g w q us).tape = w.tape ∧ (setW g w q us).output = w.output := by
  intro us
  induction us with
  | nil => intro w q; exact ⟨rfl, rfl, rfl, rfl⟩
  | cons u us ih => intro w q; obtain ⟨h1, h2, h3, h4⟩ := ih (w.setCell ⟨g, q, none⟩ u) (q + 1); exact ⟨h1.trans (by simp), h2, h3, h4⟩
theorem pL_setL (f : Nat → Pr) (n i a : Nat) (us : List Value) (p : Pr) (hi : i < n) (ha : a + us.length ≤ 11) (hp : ∀ j, (prL p)[j]? = if a ≤ j ∧ j < a + us.length then us[j - a]? else (prL (f i))[j]?) : setL (pL f n) (i * 11 + a) us = pL (upd f i p) n := by
  apply List.ext_getElem?
  intro q
  rw [setL_get _ _ _ _ (by rw [pL_length]; omega)]
  by_cases hq : q < n * 11
  · have e1 : q = q / 11 * 11 + q % 11 := by omega
    have h1 : q / 11 < n := by omega
    have h2 : q % 11 < 11 := Nat.mod_lt _ (by omega)
    have g1 : (pL f n)[q]? = (prL (f (q / 11)))[q % 11]? := by have := pL_get (f := f) h1 h2; rwa [← e1] at this
    have g2 : (pL (upd f i p) n)[q]? = (prL (upd f i p (q / 11)))[q % 11]? := by have := pL_get (f := upd f i p) h1 h2; rwa [← e1] at this
    rw [g2]
    by_cases e : q / 11 = i
    · rw [e, upd_same, hp (q % 11)]
      by_cases e2 : a ≤ q % 11 ∧ q % 11 < a + us.length
      · rw [if_pos (by omega), if_pos e2, show q - (i * 11 + a) = q % 11 - a by omega]
      · rw [if_neg (by omega), if_neg e2, g1, e]
    · rw [upd_other _ _ e, if_neg (by omega), g1]
  · rw [if_neg (by omega), List.getElem?_eq_none (by rw [pL_length]; omega), List.getElem?_eq_none (by rw [pL_length]; omega)]
end Go.Proofs.YtglcaejddckleaaDoor
namespace Go.Proofs.YtglcaejddckleaaDoor
open Go.RowKit
set_option linter.unusedVariables false
attribute [local go_sem] run_store_float run_equalIn_float

/-- Whether a log has too many dead. -/
def looseK (d : Dc) : Prop := 8 ≤ d.n ∧ 2 * d.live < (d.n : Int)

set_option maxRecDepth 100000 in
set_option maxHeartbeats 2000000 in
theorem isLoose_any (bk : Nat) (r0 r1 : Value) (R2 : Nat) (E S : Nat → Nat) (d : Dc) (w : World) (hM : BMut w bk r0 r1 R2 E S d) (hS : Small d) (hl : 0 ≤ d.live) (hl' : d.live ≤ 500) :
    Calls Tryd.prog 44 #[.pointer (some ⟨bk, 0, none⟩)] w fun e w' => e = .returned (.bool (tells (looseK d))) ∧ Below w.heap.size w w' := by
  obtain ⟨a, cp, rfl⟩ := hM.log.slice
  have c0 := hM.c0
  have c5 := hM.c5
  have hlt := hM.lt
  have hn := hS.n
  clear hM hS
  by_cases h8 : (8 : Int) ≤ d.n
  case neg =>
    have HT := hide (tells_no (p := looseK d) (fun h => h8 (by have := h.1; omega)))
    have h8' : decide ((8 : Int) ≤ d.n) = false := by simp; omega
    go_enter Tryd.func44, Tryd.ntmps44
    go_wp2
    go_region
    go_wp2
    go_ret
    exact ⟨by rw [unhide HT]; rfl, (Below.refl _ _).drew⟩
  have h8' : decide ((8 : Int) ≤ d.n) = true := by simp; omega
  by_cases h2 : 2 * d.live < (d.n : Int)
  · have HT := hide (tells_yes (p := looseK d) ⟨by omega, h2⟩)
    have h2' : decide (2 * d.live < (d.n : Int)) = true := by simp; omega
    go_enter Tryd.func44, Tryd.ntmps44
    go_wp2
    go_region
    go_wp2
    go_ret
    exact ⟨by rw [unhide HT]; rfl, (Below.refl _ _).drew⟩
  · have HT := hide (tells_no (p := looseK d) (fun h => h2 h.2))
    have h2' : decide (2 * d.live < (d.n : Int)) = false := by simp; omega
    go_enter Tryd.func44, Tryd.ntmps44
    go_wp2
    go_region
    go_wp2
    go_ret
    exact ⟨by rw [unhide HT]; rfl, (Below.refl _ _).drew⟩

set_option maxRecDepth 100000 in
set_option maxHeartbeats 2000000 in
theorem indexSize_any (n : Nat) (w : World) (hn : n ≤ 500) :
    Calls Tryd.prog 70 #[.int .i64 (n : Int)] w fun e w' => e = .returned (.int .i64 ((if n = 0 then 0 else sizeFor n : Nat) : Int)) ∧ Below w.heap.size w w' := by
  by_cases h0 : n = 0
  · subst h0
    go_enter Tryd.func70, Tryd.ntmps70
    go_wp2
    go_ret
    exact ⟨rfl, Below.refl _ _⟩
  have HR : Hid ((if n = 0 then 0 else sizeFor n : Nat) = sizeGo 9 8 (4 * n)) := hide (if_neg h0)
  have h0' : ((n : Int) == 0) = false := by simp; omega
  go_enter Tryd.func70, Tryd.ntmps70
  go_wp2
  go_loopw [3] (fun i wr => ∃ (k s : Nat), k ≤ 9 ∧ i = .int .i64 (s : Int) ∧ s ≤ 4000 ∧ 8 ≤ s ∧ 2000 ≤ s * 2 ^ k ∧ sizeGo 9 8 (4 * n) = sizeGo k s (4 * n) ∧ Below w.heap.size w wr) (fun i _ => 4000 - (intOf i).toNat)
  case atStart => exact ⟨9, 8, by omega, rfl, by omega, by omega, by decide, rfl, Below.refl _ _⟩
  case round =>
    obtain ⟨k, s, hk, rfl, hs, hs8, h2, hg, hb⟩ := hrel
    by_cases hlt : s < 4 * n
    · obtain ⟨k', rfl⟩ : ∃ k', k = k' + 1 := ⟨k - 1, by
        cases k with
        | zero => simp at h2; omega
        | succ k => omega⟩
      have HG : Hid (sizeGo 9 8 (4 * n) = sizeGo k' (2 * s) (4 * n)) := hide (hg.trans (if_pos hlt))
      have H2 : Hid (2000 ≤ 2 * s * 2 ^ k') := hide (by rw [Nat.pow_succ] at h2; calc 2000 ≤ s * (2 ^ k' * 2) := h2
        _ = 2 * s * 2 ^ k' := by rw [Nat.mul_comm (2 ^ k') 2, ← Nat.mul_assoc, Nat.mul_comm s 2])
      have HB := hide hb
      clear hg h2 hb
      go_wp2
      go_roundw
      case rel => exact ⟨k', 2 * s, by omega, by go_num, by omega, by omega, unhide H2, unhide HG, unhide HB⟩
      case measure => simp [intOf]; omega
    · have HG : Hid (sizeGo 9 8 (4 * n) = s) := hide (hg.trans (by cases k with
        | zero => rfl
        | succ k => exact if_neg hlt))
      have HB := hide hb
      clear hg h2 hb
      go_wp2
      go_ret
      exact ⟨by rw [show sizeFor n = s from unhide HG]; rfl, unhide HB⟩
end Go.Proofs.YtglcaejddckleaaDoor
namespace Go.Proofs.YtglcaejddckleaaDoor
open Go.RowKit
set_option linter.unusedVariables false
attribute [local go_sem] run_store_float run_equalIn_float

set_option maxRecDepth 100000 in
set_option maxHeartbeats 2000000 in
theorem indexRemove_any (bk : Nat) (r0 r1 : Value) (R2 : Nat) (E S : Nat → Nat) (d : Dc) (s : Nat) (w : World) (hM : BMut w bk r0 r1 R2 E S d) (hS : Small d) (hs : s < d.x) :
    Calls Tryd.prog 43 #[.pointer (some ⟨bk, 2, none⟩), .int .i64 (s : Int)] w fun e w' => ((∃ u, e = .returned u) ∧ ∃ S', BMut w' bk r0 r1 R2 E S' { d with X := upd d.X s (-1) }) ∧ Below bk w w' := by
  have hx := hS.x
  have hlt := hM.lt
  have c3 := hM.c3
  have hR := hM.r2_lt
  have hR2 := hR.2
  obtain ⟨g, cp, e, _, _, _, hc, hf⟩ := hM.slots.form (by omega)
  cases e
  have d0 := hc s hs
  have f0 := hf s
  have HN := hide (hM.putX hs (x := -1) (by decide) (A := goneA) ⟨fun h => by omega, fun _ => rfl⟩)
  have HB : Hid (Below bk w ((w.setCell ⟨R2, s, none⟩ (.pointer (some ⟨w.heap.size, 0, none⟩))).alloc (.cells goneA 69))) := hide (((Below.refl _ _).setCell (by show bk ≤ R2; omega) _).alloc (by simp; omega) _)
  clear hM hS hc hf hR
  go_enter Tryd.func43, Tryd.ntmps43
  go_wp2
  go_end0
  exact ⟨⟨⟨_, rfl⟩, _, unhide HN⟩, unhide HB⟩

set_option maxRecDepth 100000 in
set_option maxHeartbeats 2000000 in
theorem indexEmpty_any (bk : Nat) (r0 r1 : Value) (R2 : Nat) (E S : Nat → Nat) (d : Dc) (x : Nat) (w : World) (hM : BMut w bk r0 r1 R2 E S d) (hx : x ≤ 4194304) :
    Calls Tryd.prog 69 #[.pointer (some ⟨bk, 2, none⟩), .int .i64 (x : Int)] w fun e w' => ((∃ u, e = .returned u) ∧ BMut w' bk r0 r1 w.heap.size E S { d with x := x, X := fun _ => 0, used := 0 }) ∧ Below bk w w' := by
  have hlt := hM.lt
  have c3 := hM.c3
  have c4 := hM.c4
  have f3 := hM.fz 3
  have f4 := hM.fz 4
  have mk := make_ptrs Tryd.underlying62 infoSlot x hx
  have hP : Ptrs (w.alloc (.cells (madeCells (Value.pointer none).cells x) tSlt)) w.heap.size x tSlt (fun _ => none) := Ptrs.fresh w x tSlt
  have hN := ((hM.below ((Below.refl _ _).alloc (Nat.le_refl _) (.cells (madeCells (Value.pointer none).cells x) tSlt))).setSlots (Q2 := w.heap.size) (x := x) (X := fun _ => 0) ((hP.own (B := bk + 1) (by omega) hx).congr (fun j hj => by simp [sltP])) (fun j hj => ⟨fun h => absurd h (Int.lt_irrefl 0), fun h => absurd h (Int.lt_irrefl 0)⟩) (fun j hj h => absurd rfl h)).setUsed 0
  rw [World.setCell_alloc_past _ _ _ _ hlt, World.setCell_alloc_past _ _ _ _ (by simpa using hlt)] at hN
  have HN := hide hN
  have HB : Hid (∀ o, Below bk w (((w.setCell ⟨bk, 3, none⟩ (.slice (some ⟨w.heap.size, 0, none⟩) x x)).setCell ⟨bk, 4, none⟩ (.int .i64 0)).alloc o)) := hide (fun o => (((Below.refl _ _).setCell (by exact Nat.le_refl _) _).setCell (by exact Nat.le_refl _) _).alloc (by simp; omega) _)
  clear hM hP hN
  go_enter Tryd.func69, Tryd.ntmps69
  go_wp2
  go_end0
  exact ⟨⟨⟨_, rfl⟩, unhide HN⟩, unhide HB _⟩
end Go.Proofs.YtglcaejddckleaaDoor
