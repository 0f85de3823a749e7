/-
  DqC, DqD, DyA, DyG, DsA, DsB, DsC, DsD in one text.
-/
import Derived.Test.YtglcaejddckleaaGreatDoorBk1
import Derived.Laws.Strings
import Derived.Laws.OwnMore
namespace Go.Proofs.YtglcaejddckleaaGreatDoor
open Go.RowKit
set_option linter.unusedVariables false

/-- Two floats that are the same number: both numbers of one size, or one infinity. -/
theorem feq_cases {x y : Nat} (h : feq x y = true) : (∃ s m i t n j, Ieee.double.read x = .number s m i ∧ Ieee.double.read y = .number t n j ∧ -1074 ≤ i ∧ -1074 ≤ j ∧ m < 2 ^ 53 ∧ n < 2 ^ 53 ∧ (i = -1074 ∨ 2 ^ 52 ≤ m) ∧ (j = -1074 ∨ 2 ^ 52 ≤ n) ∧ Fl.sc s m i = Fl.sc t n j) ∨ ∃ s, Ieee.double.read x = .infinity s ∧ Ieee.double.read y = .infinity s := by
  have h' : (Ieee.double.order x y == some .eq) = true := h
  rcases Fl.read_cases x with ⟨s, m, i, hr, hi, hi2, hm, hc⟩ | ⟨s, hr⟩ | ⟨s, t, hr⟩
  · rcases Fl.read_cases y with ⟨t, n, j, hr', hj, hj2, hn, hc'⟩ | ⟨t, hr'⟩ | ⟨t, u, hr'⟩
    · left
      rw [Fl.ord_of hr hr' hi hj, Fl.cmp_eq] at h'
      exact ⟨s, m, i, t, n, j, hr, hr', hi, hj, hm, hn, hc, hc', of_decide_eq_true h'⟩
    · exfalso
      unfold Ieee.Format.order at h'
      rw [hr, hr'] at h'
      cases t <;> simp [Ieee.Datum.order] at h'
    · exfalso
      unfold Ieee.Format.order at h'
      rw [hr, hr'] at h'
      simp [Ieee.Datum.order] at h'
  · rcases Fl.read_cases y with ⟨t, n, j, hr', hj, hj2, hn, hc'⟩ | ⟨t, hr'⟩ | ⟨t, u, hr'⟩
    · exfalso
      unfold Ieee.Format.order at h'
      rw [hr, hr'] at h'
      cases s <;> simp [Ieee.Datum.order] at h'
    · right
      unfold Ieee.Format.order at h'
      rw [hr, hr'] at h'
      cases s <;> cases t <;> simp [Ieee.Datum.order] at h'
      · exact ⟨false, hr, hr'⟩
      · exact ⟨true, hr, hr'⟩
    · exfalso
      unfold Ieee.Format.order at h'
      rw [hr, hr'] at h'
      simp [Ieee.Datum.order] at h'
  · exfalso
    unfold Ieee.Format.order at h'
    rw [hr] at h'
    simp [Ieee.Datum.order] at h'
theorem feq_number {x y : Nat} {s t : Bool} {m n : Nat} {i j : Int} (hx : Ieee.double.read x = .number s m i) (hy : Ieee.double.read y = .number t n j) (hi : -1074 ≤ i) (hj : -1074 ≤ j) (e : Fl.sc s m i = Fl.sc t n j) : feq x y = true := by
  show (Ieee.double.order x y == some .eq) = true
  rw [Fl.ord_of hx hy hi hj, Fl.cmp_eq]
  exact decide_eq_true e
theorem feq_inf {x y : Nat} {s : Bool} (hx : Ieee.double.read x = .infinity s) (hy : Ieee.double.read y = .infinity s) : feq x y = true := by
  show (Ieee.double.order x y == some .eq) = true
  unfold Ieee.Format.order
  rw [hx, hy]
  cases s <;> simp [Ieee.Datum.order]
theorem feq_symm {x y : Nat} (h : feq x y = true) : feq y x = true := by
  rcases feq_cases h with ⟨s, m, i, t, n, j, h1, h2, h3, h4, _, _, _, _, e⟩ | ⟨s, h1, h2⟩
  · exact feq_number h2 h1 h4 h3 e.symm
  · exact feq_inf h2 h1
theorem feq_trans {x y z : Nat} (h : feq x y = true) (h' : feq y z = true) : feq x z = true := by
  rcases feq_cases h with ⟨s, m, i, t, n, j, h1, h2, h3, h4, _, _, _, _, e⟩ | ⟨s, h1, h2⟩
  · rcases feq_cases h' with ⟨s', m', i', t', n', j', g1, g2, g3, g4, _, _, _, _, e'⟩ | ⟨s', g1, g2⟩
    · rw [h2] at g1
      cases g1
      exact feq_number h1 g2 h3 g4 (e.trans e')
    · rw [h2] at g1; cases g1
  · rcases feq_cases h' with ⟨s', m', i', t', n', j', g1, g2, g3, g4, _, _, _, _, e'⟩ | ⟨s', g1, g2⟩
    · rw [h2] at g1; cases g1
    · rw [h2] at g1
      cases g1
      exact feq_inf h1 g2
/-- A number has one form. -/
theorem form_one {s t : Bool} {m n : Nat} {i j : Int} (hi : -1074 ≤ i) (hj : -1074 ≤ j) (hm : m < 2 ^ 53) (hn : n < 2 ^ 53) (hc : i = -1074 ∨ 2 ^ 52 ≤ m) (hc' : j = -1074 ∨ 2 ^ 52 ≤ n) (e : Fl.sc s m i = Fl.sc t n j) (h0 : Fl.sc s m i ≠ 0) : s = t ∧ m = n ∧ i = j := by
  have pos : ∀ (m : Nat) (i : Int), 0 ≤ Fl.sc false m i ∧ Fl.sc false m i = ((m * 2 ^ (i + 1074).toNat : Nat) : Int) := by
    intro m i
    have : Fl.sc false m i = ((m * 2 ^ (i + 1074).toNat : Nat) : Int) := by
      unfold Fl.sc
      rw [Fl.signed_eq]
      simp
    exact ⟨by rw [this]; omega, this⟩
  have core : ∀ {m n : Nat} {i j : Int}, -1074 ≤ i → -1074 ≤ j → m < 2 ^ 53 → n < 2 ^ 53 → (i = -1074 ∨ 2 ^ 52 ≤ m) → (j = -1074 ∨ 2 ^ 52 ≤ n) → Fl.sc false m i = Fl.sc false n j → Fl.sc false m i ≠ 0 → m = n ∧ i = j := by
    intro m n i j hi hj hm hn hc hc' e h0
    rw [(pos m i).2, (pos n j).2] at e
    have e' : m * 2 ^ (i + 1074).toNat = n * 2 ^ (j + 1074).toNat := by omega
    have le : ∀ {m n : Nat} {i j : Int}, -1074 ≤ i → m < 2 ^ 53 → (j = -1074 ∨ 2 ^ 52 ≤ n) → m * 2 ^ (i + 1074).toNat = n * 2 ^ (j + 1074).toNat → ¬ i < j := by
      intro m n i j hi hm hc' e hlt
      have hn : 2 ^ 52 ≤ n := hc'.resolve_left (by omega)
      obtain ⟨q, hq⟩ : ∃ q : Nat, (j + 1074).toNat = (i + 1074).toNat + (q + 1) := ⟨(j + 1074).toNat - (i + 1074).toNat - 1, by omega⟩
      rw [hq, Nat.pow_add, Nat.mul_comm (2 ^ (i + 1074).toNat), ← Nat.mul_assoc] at e
      have hm' : m = n * 2 ^ (q + 1) := Nat.eq_of_mul_eq_mul_right (Nat.two_pow_pos _) e
      have h1 : 2 ≤ 2 ^ (q + 1) := by rw [Nat.pow_succ]; have := Nat.two_pow_pos q; omega
      have h2 : n * 2 ≤ n * 2 ^ (q + 1) := Nat.mul_le_mul_left n h1
      omega
    have hij : i = j := by
      have h1 := le hi hm hc' e'
      have h2 := le hj hn hc e'.symm
      omega
    subst hij
    exact ⟨Nat.eq_of_mul_eq_mul_right (Nat.two_pow_pos _) e', rfl⟩
  cases s <;> cases t
  · exact ⟨rfl, core hi hj hm hn hc hc' e h0⟩
  · exfalso
    have e1 : Fl.sc true n j = - Fl.sc false n j := Fl.sc_neg n j
    have h1 := (pos m i).1
    have h2 := (pos n j).1
    omega
  · exfalso
    have e1 : Fl.sc true m i = - Fl.sc false m i := Fl.sc_neg m i
    have h1 := (pos m i).1
    have h2 := (pos n j).1
    omega
  · have e1 : Fl.sc true m i = - Fl.sc false m i := Fl.sc_neg m i
    have e2 : Fl.sc true n j = - Fl.sc false n j := Fl.sc_neg n j
    exact ⟨rfl, core hi hj hm hn hc hc' (by omega) (by omega)⟩

/-- A key as it stands, well formed. -/
def Ky (v : Vl) : Prop := keyB v = true ∧ Wf v
theorem fz_feq {x y : Nat} (h : fz x = true) (h' : fz y = true) : feq x y = true := by
  have h1 : feq x 0 = true := h
  have h2 : feq y 0 = true := h'
  exact feq_trans h1 (feq_symm h2)
theorem like_flt {a b : Vl} (h : likeB a b = true) : feq a.flt b.flt = true ∧ a.str.toList = b.str.toList ∧ a.ref = b.ref := by
  unfold likeB at h
  simp only [Bool.and_eq_true, beq_iff_eq] at h
  exact ⟨h.2.2.1, h.2.2.2.1, h.2.2.2.2⟩
theorem like_mk {a b : Vl} (h1 : a.kind = b.kind) (h2 : a.num = b.num) (h3 : feq a.flt b.flt = true) (h4 : a.str.toList = b.str.toList) (h5 : a.ref = b.ref) : likeB a b = true := by
  unfold likeB
  simp [h1, h2, h3, h4, h5]
theorem key_float {v : Vl} (h : Ky v) (h3 : v.kind = 3) : fnan v.flt = false ∧ fz v.flt = false := (hk_of h.1 h.2).flt h3 |>.2
theorem toList_inj {a b : ByteArray} (h : a.toList = b.toList) : a.data.toList = b.data.toList := by
  rw [← ByteArray.toList_eq, ← ByteArray.toList_eq]
  exact h
theorem keyLaw : KeyLaw Ky hN := by
  refine ⟨fun a h => like_mk rfl rfl (key_feq h.1) rfl rfl, fun a b _ _ h => ?_, fun a b c _ _ _ h h' => ?_, fun a b ha hb h => ?_, fun a b ha hb k1 k2 k3 => ?_, fun n => ?_, ?_⟩
  · obtain ⟨h1, h2, h3⟩ := like_flt h
    exact like_mk (like_kind h).symm (like_num h).symm (feq_symm h1) h2.symm h3.symm
  · obtain ⟨h1, h2, h3⟩ := like_flt h
    obtain ⟨g1, g2, g3⟩ := like_flt h'
    exact like_mk ((like_kind h).trans (like_kind h')) ((like_num h).trans (like_num h')) (feq_trans h1 g1) (h2.trans g2) (h3.trans g3)
  · obtain ⟨h1, h2, h3⟩ := like_flt h
    unfold hN
    congr 1
    unfold hashI
    rw [like_kind h, like_num h, h3]
    by_cases e4 : b.kind = 4
    · rw [if_pos e4, if_pos e4, toList_inj h2]
    · rw [if_neg e4, if_neg e4]
      by_cases e3 : b.kind = 3
      · rw [if_pos e3, if_pos e3]
        congr 1
        have hz := (key_float ha ((like_kind h).trans e3)).2
        unfold ftOf
        rcases feq_cases h1 with ⟨s, m, i, t, n, j, g1, g2, g3, g4, g5, g6, g7, g8, e⟩ | ⟨s, g1, g2⟩
        · have h0 : Fl.sc s m i ≠ 0 := by
            intro e0
            have : feq a.flt 0 = true := feq_number g1 Fl.read_nil g3 (by omega) (by rw [e0, Fl.sc_zero])
            have hz' : feq a.flt 0 = false := hz
            rw [this] at hz'
            cases hz'
          obtain ⟨r1, r2, r3⟩ := form_one g3 g4 g5 g6 g7 g8 e h0
          rw [g1, g2, r1, r2, r3]
        · rw [g1, g2]
      · rw [if_neg e3, if_neg e3]
  · have hv : ∀ v : Vl, Ky v → v.kind = 2 → fz v.flt = true ∧ v.str.toList.isEmpty = true ∧ v.ref = 0 := by
      intro v h k
      have h1 := h.1
      unfold keyB Vl.ok at h1
      simp only [Bool.and_eq_true] at h1
      have h2 := h1.1.1
      unfold validB at h2
      simp [k] at h2
      exact ⟨h2.1.1, by simpa using h2.1.2, h2.2⟩
    obtain ⟨a1, a2, a3⟩ := hv a ha k1
    obtain ⟨b1, b2, b3⟩ := hv b hb k2
    exact like_mk (k1.trans k2.symm) k3 (fz_feq a1 b1) ((List.isEmpty_iff.1 a2).trans (List.isEmpty_iff.1 b2).symm) (a3.trans b3.symm)
  · refine ⟨?_, ⟨by show 0 < 18446744073709551616; omega, by show (0 : Nat) ≤ maxLen; omega⟩⟩
    have hz : fz 0 = true := feq_number Fl.read_nil Fl.read_nil (by omega) (by omega) rfl
    unfold keyB Vl.ok validB intV
    simp [hz]
  · have hz : fz 0 = true := feq_number Fl.read_nil Fl.read_nil (by omega) (by omega) rfl
    show noneB (⟨0, 0, 0, ⟨#[]⟩, 0⟩ : Vl) = true
    unfold noneB Vl.ok validB
    simp [hz]
theorem hsS_all : ∀ v, Ky v → HsS v (hN v) := fun v h => hsS h.1 h.2
theorem hsI_all : ∀ v, Ky v → HsI Tabs v (hN v) := fun v h => hsI h.1 h.2
end Go.Proofs.YtglcaejddckleaaGreatDoor
namespace Go.Proofs.YtglcaejddckleaaGreatDoor
open Go.RowKit
set_option linter.unusedVariables false

theorem fz_nil : fz 0 = true := by decide
theorem keyedK (v : Vl) (hw : Wf v) : ∃ (c : Int) (kv : Vl), keyV v.kind v.num v.flt v.str v.ref = KV c kv.kind kv.num kv.flt kv.str kv.ref ∧ (c = 0 → Ky kv) := by
  unfold keyV
  by_cases hv : validB v.kind v.num v.flt v.str v.ref = true
  · rw [if_pos hv]
    by_cases h0 : v.kind = 0
    · rw [if_pos h0]; exact ⟨1, ⟨0, 0, 0, ⟨#[]⟩, 0⟩, rfl, fun h => by omega⟩
    · rw [if_neg h0]
      by_cases h3 : v.kind = 3
      · rw [if_pos h3]
        by_cases hn : fnan v.flt = true
        · rw [if_pos hn]; exact ⟨1, ⟨0, 0, 0, ⟨#[]⟩, 0⟩, rfl, fun h => by omega⟩
        · rw [if_neg hn]
          by_cases hwh : wholeB v.flt = true
          · rw [if_pos hwh]
            refine ⟨0, ⟨2, fint v.flt, 0, ⟨#[]⟩, 0⟩, rfl, fun _ => ⟨?_, ⟨by show (0 : Nat) < _; decide, Nat.zero_le _⟩⟩⟩
            unfold keyB Vl.ok validB
            simp [fz_nil]
          · rw [if_neg hwh]
            refine ⟨0, v, rfl, fun _ => ⟨?_, hw⟩⟩
            unfold keyB Vl.ok
            rw [hv]
            simp [h0, hn, hwh]
      · rw [if_neg h3]
        refine ⟨0, v, rfl, fun _ => ⟨?_, hw⟩⟩
        unfold keyB Vl.ok
        rw [hv]
        simp [h0, h3]
  · rw [if_neg hv]; exact ⟨2, ⟨0, 0, 0, ⟨#[]⟩, 0⟩, rfl, fun h => by omega⟩
def noD : Dc := ⟨0, fun _ => default, 0, fun _ => 0, 0, fun _ => 0, 0, 0, 0⟩
theorem moveD_m (hf : Vl → Nat) : ∀ (f : Nat) (d : Dc), (moveD hf f d).m ≤ d.m + f := by
  intro f
  induction f with
  | zero => intro d; exact Nat.le_refl _
  | succ f ih =>
    intro d
    cases e : slotOf d (intV ((d.m : Int) + 1)) (hf (intV ((d.m : Int) + 1))) with
    | none => rw [moveD_none e]; omega
    | some s =>
      rw [moveD_some e]
      have := ih (moveS d s)
      have h2 : (moveS d s).m = d.m + 1 := rfl
      omega
theorem enter_m (hf : Vl → Nat) (c : Dc) (k' : Vl) (p : Nat) : (enterD hf c k' p).m = c.m := by
  unfold enterD
  cases freeSlot c.x c.X (hf k' % c.x) <;> rfl
theorem putD_m {K : Vl → Prop} {hf : Vl → Nat} {d : Dc} {k v : Vl} (KL : KeyLaw K hf) (h : Inv K hf d) (hk : K k) : (putD hf d k v).m ≤ d.m + 4002 := by
  rcases h.i0.place KL hk with ⟨i, h1, h2, h3, h4⟩ | ⟨h1, h2⟩
  · have hp : 0 ≤ placeI d k (hf k) := by omega
    have hi : (placeI d k (hf k)).toNat = i := by omega
    by_cases hv0 : v.kind = 0
    · rw [putD_go hp hv0, hi]
      have g := goC_inv KL h.i0 h.next h1 h2
      have e := (compactD_live (hf := hf) g.1.core).2.2.1
      show (compactD hf (goC hf d i)).m ≤ _
      rw [e]
      by_cases hs : smallK d.m (d.L i).key
      · rw [goC_small hs]
        have := (shrink_says (upd d.I ((d.L i).key.num - 1).toNat 0) d.m).1
        show shrink (upd d.I ((d.L i).key.num - 1).toNat 0) d.m ≤ _
        omega
      · obtain ⟨s, _, _, hs3⟩ := h.i0.found KL (h.i0.keys i h1 h2) ⟨h1, h2, hs⟩ (KL.refl _ (h.i0.keys i h1 h2))
        rw [goC_slot hs hs3]
        show d.m ≤ _
        omega
    · rw [putD_set hp hv0, hi]
      show d.m ≤ _
      omega
  · have hp : ¬ 0 ≤ placeI d k (hf k) := by omega
    by_cases hc : v.kind ≠ 0 ∧ d.live < 500 ∧ d.turns < 1000000000000
    · rw [putD_come hp hc]
      have e := (compactD_live (hf := hf) h.i0.core).2.2.1
      have hcl := (compactD_live (hf := hf) h.i0.core).1
      have hci := compactD_inv h.i0
      show (comeC hf (compactD hf d) k v).m ≤ _
      generalize compactD hf d = c at e hci hcl
      have hcl : c.live < 500 := by rw [hcl]; exact hc.2.1
      have hcx : c.x ≤ 4000 := by
        rcases hci.sz with h | h
        · omega
        · exact h.2.1
      unfold comeC
      split
      · show c.m ≤ _
        omega
      · split
        · have := moveD_m hf (c.x + 1) (addNext c k v)
          have h2 : (addNext c k v).m = c.m + 1 := rfl
          omega
        · rw [enter_m]
          have hr := (roomD_inv hci hcl).2.2.m
          show (roomD hf c).m ≤ _
          omega
    · rw [putD_not hp hc]; omega
theorem Inv.small {K : Vl → Prop} {hf : Vl → Nat} {d : Dc} (h : Inv K hf d) (hm : d.m ≤ 4194304) : Small d := by
  refine ⟨?_, hm, ?_⟩
  · have := h.i0.le
    have := h.i0.log.cnt
    rcases h.tight with h | h <;> omega
  · rcases h.i0.sz with h | h
    · omega
    · have := h.2.1; omega
end Go.Proofs.YtglcaejddckleaaGreatDoor
namespace Go.Proofs.YtglcaejddckleaaGreatDoor
open Go.RowKit
set_option linter.unusedVariables false

/-- Every pair of the log is so. -/
def LogQ (Q : Pr → Prop) (d : Dc) : Prop := ∀ i, i < d.n → Q (d.L i)
section
variable {Q : Pr → Prop} {hf : Vl → Nat} {d c : Dc} {k v : Vl}
theorem LogQ.same (h : LogQ Q d) (hn : c.n = d.n) (hL : c.L = d.L) : LogQ Q c := fun i hi => by rw [hL]; exact h i (by omega)
theorem LogQ.updq (h : LogQ Q d) {p : Nat} {x : Pr} (hx : Q x) {n : Nat} (hn : ∀ i, i < n → i = p ∨ i < d.n) {c : Dc} (hc : c.n = n) (hL : c.L = upd d.L p x) : LogQ Q c := fun i hi => by
  rw [hL]
  by_cases e : i = p
  · subst e; rw [upd_same]; exact hx
  · rw [upd_other _ _ e]
    rcases hn i (by omega) with e' | e'
    · exact absurd e' e
    · exact h i e'
theorem enterD_log (p : Nat) : (enterD hf d k p).n = d.n ∧ (enterD hf d k p).L = d.L := by
  unfold enterD
  split <;> exact ⟨rfl, rfl⟩
theorem refill_log (x : Nat) : ∀ k, (refill hf d x k).n = d.n ∧ (refill hf d x k).L = d.L
  | 0 => ⟨rfl, rfl⟩
  | k + 1 => by
    by_cases h : indexedK d k
    · rw [refill_yes h]
      have h1 := enterD_log (hf := hf) (d := refill hf d x k) (k := (d.L k).key) k
      have h2 := refill_log x k
      exact ⟨h1.1.trans h2.1, h1.2.trans h2.2⟩
    · rw [refill_no h]; exact refill_log x k
theorem reindexD_log (more : Nat) : (reindexD hf d more).n = d.n ∧ (reindexD hf d more).L = d.L := by
  by_cases h : idxN d d.n + more = 0
  · rw [reindexD_none h]; exact ⟨rfl, rfl⟩
  · rw [reindexD_some h]; exact refill_log _ _
theorem moveD_log : ∀ (f : Nat) (d : Dc), (moveD hf f d).n = d.n ∧ (moveD hf f d).L = d.L
  | 0, d => ⟨rfl, rfl⟩
  | f + 1, d => by
    cases h : slotOf d (intV ((d.m : Int) + 1)) (hf (intV ((d.m : Int) + 1))) with
    | none => rw [moveD_none h]; exact ⟨rfl, rfl⟩
    | some s => rw [moveD_some h]; exact moveD_log f (moveS d s)
theorem LogQ.pack (h : LogQ Q d) : LogQ Q (packD d) := fun j hj => by
  obtain ⟨i, h1, h2, h3⟩ := rank_surj d.n hj
  have e : lvF d j = d.L i := by rw [← h3]; exact lvF_at h1 h2
  show Q (lvF d j)
  rw [e]
  exact h i h1
theorem LogQ.compact (h : LogQ Q d) : LogQ Q (compactD hf d) := by
  unfold compactD
  split
  · exact h
  · exact h.pack.same (reindexD_log _).1 (reindexD_log _).2
theorem LogQ.add (h : LogQ Q c) (hx : Q ⟨k, v, c.turns + 1⟩) : LogQ Q (addL c k v) := h.updq hx (n := c.n + 1) (fun i hi => by omega) rfl rfl
theorem roomD_log : (roomD hf c).n = c.n ∧ (roomD hf c).L = c.L := by
  unfold roomD
  split
  · exact reindexD_log _
  · exact ⟨rfl, rfl⟩
theorem LogQ.comeq (h : LogQ Q c) (hx : ∀ t, Q ⟨k, v, t⟩) : LogQ Q (comeC hf c k v) := by
  unfold comeC
  split
  · exact (h.add (k := k) (v := v) (hx _)).same rfl rfl
  · split
    · exact (h.add (k := k) (v := v) (hx _)).same (moveD_log _ _).1 (moveD_log _ _).2
    · exact ((h.same roomD_log.1 roomD_log.2).add (c := roomD hf c) (k := k) (v := v) (hx _)).same (enterD_log _).1 (enterD_log _).2
theorem LogQ.goq (h : LogQ Q d) (h0 : Q default) (p : Nat) : LogQ Q (goC hf d p) := by
  have hd : LogQ Q (deadL d p) := fun i hi => by
    show Q (upd d.L p default i)
    by_cases e : i = p
    · subst e; rw [upd_same]; exact h0
    · rw [upd_other _ _ e]; exact h i hi
  unfold goC
  split
  · exact hd.same rfl rfl
  · split
    · exact h
    · exact hd.same rfl rfl
theorem LogQ.put (h : LogQ Q d) (hx : ∀ t, Q ⟨k, v, t⟩) (h0 : Q default) (hs : ∀ x : Pr, Q x → Q ⟨x.key, v, x.turn⟩) : LogQ Q (putD hf d k v) := by
  unfold putD
  split
  · split
    · exact (h.goq h0 _).compact
    · intro i hi
      show Q (upd d.L _ _ i)
      by_cases e : i = (placeI d k (hf k)).toNat
      · subst e; rw [upd_same]; exact hs _ (h _ hi)
      · rw [upd_other _ _ e]; exact h i hi
  · split
    · exact h.compact.comeq hx
    · exact h
end
theorem WfD.put {hf : Vl → Nat} {d : Dc} {k v : Vl} (h : WfD d) (hk : Wf k) (hv : Wf v) : WfD (putD hf d k v) :=
  LogQ.put (Q := fun p => Wf p.key ∧ Wf p.val) h (fun _ => ⟨hk, hv⟩) ⟨⟨by decide, by decide⟩, ⟨by decide, by decide⟩⟩ (fun x hx => ⟨hx.1, hv⟩)
/-- No zero below 0 stands beside a key. -/
abbrev Nz (k : Vl) : Prop := k.flt ≠ 9223372036854775808
def NzP (p : Pr) : Prop := Nz p.key
theorem NzP.put {hf : Vl → Nat} {d : Dc} {k v : Vl} (h : LogQ NzP d) (hk : Nz k) : LogQ NzP (putD hf d k v) :=
  LogQ.put (Q := NzP) h (fun _ => hk) (by show (0 : Nat) ≠ 9223372036854775808; decide) (fun x hx => hx)
theorem NzP.noD : LogQ NzP noD := fun i hi => by cases hi
theorem keyV_nz {v kv : Vl} {c : Int} (h : keyV v.kind v.num v.flt v.str v.ref = KV c kv.kind kv.num kv.flt kv.str kv.ref) (hz : Nz v) : Nz kv := by
  have key : kv.flt = 0 ∨ kv.flt = v.flt := by
    unfold keyV at h
    split at h
    · split at h
      · simp at h; exact .inl h.2.2.2.1.symm
      · split at h
        · split at h
          · simp at h; exact .inl h.2.2.2.1.symm
          · split at h
            · simp at h; exact .inl h.2.2.2.1.symm
            · simp at h; exact .inr h.2.2.2.1.symm
        · simp at h; exact .inr h.2.2.2.1.symm
    · simp at h; exact .inl h.2.2.2.1.symm
  rcases key with e | e
  · show kv.flt ≠ _
    rw [e]; decide
  · show kv.flt ≠ _
    rw [e]; exact hz
theorem WfD.noD : WfD noD := fun i hi => by cases hi
theorem noD_inv {K : Vl → Prop} {hf : Vl → Nat} : Inv K hf noD :=
  ⟨⟨⟨fun i hi => (by cases hi), fun i j _ hj => (by cases hj), rfl⟩, fun i hi => (by cases hi), fun i j hi => (by cases hi), fun j hj => (by cases hj), .inl rfl, fun i hi => (by cases hi), .inl rfl,
    Idx.empty _ _ _ _ (fun i h => by cases h.1), rfl, Nat.le_refl _, ⟨by decide, by decide⟩, by decide⟩, fun i hi => (by cases hi), .inl (by decide)⟩
end Go.Proofs.YtglcaejddckleaaGreatDoor
namespace Go.Proofs.YtglcaejddckleaaGreatDoor
open Go.RowKit
set_option linter.unusedVariables false

/-- A pair lives in a dict. -/
def Has (d : Dc) (p : Pr) : Prop := ∃ i, i < d.n ∧ (d.L i).turn ≠ 0 ∧ d.L i = p
theorem has_at {d : Dc} {i : Nat} (h1 : i < d.n) (h2 : (d.L i).turn ≠ 0) : Has d (d.L i) := ⟨i, h1, h2, rfl⟩
section
variable {K : Vl → Prop} {hf : Vl → Nat} {d : Dc} {k v : Vl}
theorem Inv.uniq (h : Inv K hf d) {p q : Pr} (hp : Has d p) (hq : Has d q) (e : likeB p.key q.key = true) : p = q := by
  obtain ⟨i, h1, h2, rfl⟩ := hp
  obtain ⟨j, g1, g2, rfl⟩ := hq
  rw [h.i0.dist i j h1 g1 h2 g2 e]
theorem Inv.keyOf (h : Inv K hf d) {p : Pr} (hp : Has d p) : K p.key := by
  obtain ⟨i, h1, h2, rfl⟩ := hp
  exact h.i0.keys i h1 h2
theorem Inv.entry (h : Inv K hf d) {p : Pr} (hp : Has d p) : 0 < p.turn ∧ p.turn ≤ d.turns ∧ p.val.ok = true ∧ p.val.kind ≠ 0 := by
  obtain ⟨i, h1, h2, rfl⟩ := hp
  rcases h.i0.log.ent i h1 with e | e
  · exact absurd e.1 h2
  · exact ⟨e.1, e.2.1, e.2.2.2⟩

theorem compact_has (h : Core K d) (p : Pr) : Has (compactD hf d) p ↔ Has d p := compactD_pairs h (fun q => q = p)

/-- A put: taken away, written again, come, or nothing. -/
inductive PutSays (d e : Dc) (k v : Vl) : Prop
  | go (q : Pr) (hq : Has d q) (hl : likeB q.key k = true) (hv : v.kind = 0) (has : ∀ p, Has e p ↔ Has d p ∧ likeB p.key k = false) (live : e.live = d.live - 1) (turns : e.turns = d.turns)
  | set (q : Pr) (hq : Has d q) (hl : likeB q.key k = true) (hv : v.kind ≠ 0) (has : ∀ p, Has e p ↔ (Has d p ∧ likeB p.key k = false) ∨ p = ⟨q.key, v, q.turn⟩) (live : e.live = d.live) (turns : e.turns = d.turns)
  | come (hno : ∀ p, Has d p → likeB p.key k = false) (hv : v.kind ≠ 0) (has : ∀ p, Has e p ↔ Has d p ∨ p = ⟨k, v, d.turns + 1⟩) (live : e.live = d.live + 1) (turns : e.turns = d.turns + 1)
  | not (hno : ∀ p, Has d p → likeB p.key k = false) (hv : ¬ (v.kind ≠ 0 ∧ d.live < 500 ∧ d.turns < 1000000000000)) (eq : e = d)

theorem like_iff (KL : KeyLaw K hf) (h : Inv0 K hf d) (hk : K k) {i : Nat} (h1 : i < d.n) (h2 : (d.L i).turn ≠ 0) (h3 : likeB (d.L i).key k = true) {j : Nat} (g1 : j < d.n) (g2 : (d.L j).turn ≠ 0) : likeB (d.L j).key k = false ↔ j ≠ i := by
  constructor
  · intro e he
    subst he
    rw [h3] at e
    exact absurd e (by decide)
  · intro e
    by_cases hl : likeB (d.L j).key k = true
    · refine absurd (h.dist j i g1 h1 g2 h2 ?_) e
      exact KL.trans _ _ _ (h.keys j g1 g2) hk (h.keys i h1 h2) hl (KL.symm _ _ (h.keys i h1 h2) hk h3)
    · simpa using hl

theorem put_says (KL : KeyLaw K hf) (h : Inv K hf d) (hk : K k) (hkb : keyB k = true) (hv : v.ok = true) : PutSays d (putD hf d k v) k v := by
  rcases h.i0.place KL hk with ⟨i, h1, h2, h3, h4⟩ | ⟨h1, h2⟩
  · have hp : 0 ≤ placeI d k (hf k) := by omega
    have hi : (placeI d k (hf k)).toNat = i := by omega
    by_cases hv0 : v.kind = 0
    · rw [putD_go hp hv0, hi]
      obtain ⟨g1, g2, g3, g4, g5, g6⟩ := goC_inv KL h.i0 h.next h1 h2
      have c := compactD_live (hf := hf) g1.core
      refine .go (d.L i) (has_at h1 h2) h3 hv0 (fun p => ?_) (c.1.trans g5) (c.2.1.trans g6)
      refine (compact_has g1.core p).trans ?_
      constructor
      · rintro ⟨j, j1, j2, rfl⟩
        rw [g4] at j2 ⊢
        by_cases e : j = i
        · subst e; rw [upd_same] at j2; exact absurd rfl j2
        · rw [upd_other _ _ e] at j2 ⊢
          exact ⟨has_at (by omega) j2, (like_iff KL h.i0 hk h1 h2 h3 (by omega) j2).2 e⟩
      · rintro ⟨⟨j, j1, j2, rfl⟩, hl⟩
        have e := (like_iff KL h.i0 hk h1 h2 h3 j1 j2).1 hl
        refine ⟨j, by omega, ?_, ?_⟩
        · rw [g4, upd_other _ _ e]; exact j2
        · rw [g4, upd_other _ _ e]
    · rw [putD_set hp hv0, hi]
      refine .set (d.L i) (has_at h1 h2) h3 hv0 (fun p => ?_) rfl rfl
      constructor
      · rintro ⟨j, j1, j2, rfl⟩
        by_cases e : j = i
        · subst e; right; exact upd_same _ _ _
        · left
          have e2 : (setV d i v).L j = d.L j := upd_other _ _ e
          rw [e2] at j2 ⊢
          exact ⟨has_at j1 j2, (like_iff KL h.i0 hk h1 h2 h3 j1 j2).2 e⟩
      · rintro (⟨⟨j, j1, j2, rfl⟩, hl⟩ | rfl)
        · have e := (like_iff KL h.i0 hk h1 h2 h3 j1 j2).1 hl
          have e2 : (setV d i v).L j = d.L j := upd_other _ _ e
          exact ⟨j, j1, by rw [e2]; exact j2, e2⟩
        · have e2 : (setV d i v).L i = ⟨(d.L i).key, v, (d.L i).turn⟩ := upd_same _ _ _
          exact ⟨i, h1, by rw [e2]; exact h2, e2⟩
  · have hp : ¬ 0 ≤ placeI d k (hf k) := by omega
    have hno : ∀ p, Has d p → likeB p.key k = false := by
      rintro p ⟨i, i1, i2, rfl⟩
      exact h1 i i1 i2
    by_cases hc : v.kind ≠ 0 ∧ d.live < 500 ∧ d.turns < 1000000000000
    · rw [putD_come hp hc]
      have c := compactD_live (hf := hf) h.i0.core
      have hci := compactD_inv h.i0
      have hcn := compactD_next (hf := hf) h.i0.core h.next
      have hch := fun p => compact_has (hf := hf) h.i0.core p
      have hcno : ∀ i, i < (compactD hf d).n → ((compactD hf d).L i).turn ≠ 0 → likeB ((compactD hf d).L i).key k = false := fun i i1 i2 => hno _ ((hch _).1 (has_at i1 i2))
      obtain ⟨g1, g2, g3, g4, g5, g6⟩ := comeC_inv KL hci hcn hk hkb hv hc.1 hcno (by rw [c.1]; exact hc.2.1) (by rw [c.2.1]; exact hc.2.2)
      have et : (compactD hf d).turns = d.turns := c.2.1
      refine .come hno hc.1 (fun p => ?_) (by rw [← c.1]; exact g5) (by rw [← et]; exact g6)
      show Has (comeC hf (compactD hf d) k v) p ↔ _
      rw [← et]
      constructor
      · rintro ⟨j, j1, j2, rfl⟩
        rw [g4] at j2 ⊢
        by_cases e : j = (compactD hf d).n
        · subst e; right; exact upd_same _ _ _
        · left
          rw [upd_other _ _ e] at j2 ⊢
          exact (hch _).1 (has_at (by omega) j2)
      · rintro (hp | rfl)
        · obtain ⟨j, j1, j2, rfl⟩ := (hch p).2 hp
          refine ⟨j, by omega, ?_, ?_⟩
          · rw [g4, upd_other _ _ (by omega)]; exact j2
          · rw [g4, upd_other _ _ (by omega)]
        · refine ⟨(compactD hf d).n, by omega, ?_, ?_⟩
          · rw [g4, upd_same]; show (compactD hf d).turns + 1 ≠ 0; have := hci.turns.1; omega
          · rw [g4, upd_same]
    · rw [putD_not hp hc]
      exact .not hno hc rfl
theorem put_turns (KL : KeyLaw K hf) (h : Inv K hf d) (hk : K k) (hkb : keyB k = true) (hv : v.ok = true) : d.turns ≤ (putD hf d k v).turns ∧ (putD hf d k v).turns ≤ d.turns + 1 := by
  rcases put_says KL h hk hkb hv with ⟨q, _, _, _, _, _, t⟩ | ⟨q, _, _, _, _, _, t⟩ | ⟨_, _, _, _, t⟩ | ⟨_, _, e⟩
  · omega
  · omega
  · omega
  · rw [e]; omega
end
end Go.Proofs.YtglcaejddckleaaGreatDoor
namespace Go.Proofs.YtglcaejddckleaaGreatDoor
open Go.RowKit
set_option linter.unusedVariables false

/-- The blocks of three rows. -/
def Own3 (v0 v1 v2 : Value) (b : Nat) : Prop := v0.ownBlock = some b ∨ v1.ownBlock = some b ∨ v2.ownBlock = some b

/-- A dict whose rows are its own, behind a pointer. -/
structure DMut (w : World) (c o B : Nat) (v0 v1 v2 : Value) (d : Dc) : Prop where
  lt : c < w.heap.size
  c0 : w.cell? ⟨c, o, none⟩ = some v0
  c1 : w.cell? ⟨c, o + 1, none⟩ = some v1
  c2 : w.cell? ⟨c, o + 2, none⟩ = some v2
  c3 : w.cell? ⟨c, o + 3, none⟩ = some (.int .i64 d.used)
  c4 : w.cell? ⟨c, o + 4, none⟩ = some (.int .i64 d.live)
  c5 : w.cell? ⟨c, o + 5, none⟩ = some (.int .i64 d.turns)
  fz : ∀ q, w.frozen? ⟨c, q, none⟩ = false
  log : POwn w B v0 d.n d.L
  ints : IOwn w B v1 d.m d.I
  index : IOwn w B v2 d.x d.X
  ap : ∀ q, v1.ownBlock = some q → v2.ownBlock ≠ some q
  nc : ¬ Own3 v0 v1 v2 c
  base : B ≤ w.heap.size

/-- What a writing through the pointer leaves as it is. -/
structure Stp (c o : Nat) (v0 v1 v2 : Value) (w : World) (u0 u1 u2 : Value) (w' : World) : Prop where
  os : w'.os = w.os
  tape : w'.tape = w.tape
  output : w'.output = w.output
  size : w.heap.size ≤ w'.heap.size
  block : ∀ b, b < w.heap.size → b ≠ c → ¬ Own3 v0 v1 v2 b → w'.heap[b]? = w.heap[b]?
  cell : ∀ q, (q < o ∨ o + 6 ≤ q) → w'.cell? ⟨c, q, none⟩ = w.cell? ⟨c, q, none⟩
  sub : ∀ b, Own3 u0 u1 u2 b → Own3 v0 v1 v2 b ∨ w.heap.size ≤ b
theorem Stp.refl (c o : Nat) (v0 v1 v2 : Value) (w : World) : Stp c o v0 v1 v2 w v0 v1 v2 w := ⟨rfl, rfl, rfl, Nat.le_refl _, fun _ _ _ _ => rfl, fun _ _ => rfl, fun _ h => .inl h⟩
theorem Stp.trans {c o : Nat} {v0 v1 v2 u0 u1 u2 t0 t1 t2 : Value} {w w' w'' : World} (h : Stp c o v0 v1 v2 w u0 u1 u2 w') (k : Stp c o u0 u1 u2 w' t0 t1 t2 w'') : Stp c o v0 v1 v2 w t0 t1 t2 w'' :=
  ⟨k.os.trans h.os, k.tape.trans h.tape, k.output.trans h.output, Nat.le_trans h.size k.size, fun b hb hc ho => (k.block b (Nat.lt_of_lt_of_le hb h.size) hc (fun e => (h.sub b e).elim ho (fun e' => absurd hb (by omega)))).trans (h.block b hb hc ho), fun q hq => (k.cell q hq).trans (h.cell q hq), fun b hb => (k.sub b hb).elim (h.sub b) (fun e => .inr (Nat.le_trans h.size e))⟩
theorem Stp.of_below {c o : Nat} {v0 v1 v2 : Value} {w w' : World} (h : Below w.heap.size w w') (hc : c < w.heap.size) : Stp c o v0 v1 v2 w v0 v1 v2 w' :=
  ⟨h.os, h.tape, h.output, h.size, fun b hb _ _ => h.block b hb, fun q _ => h.cell (p := ⟨c, q, none⟩) hc, fun _ e => .inl e⟩
theorem Stp.below {c o : Nat} {v0 v1 v2 u0 u1 u2 : Value} {w w' : World} (h : Stp c o v0 v1 v2 w u0 u1 u2 w') {B : Nat} (hc : B ≤ c) (hb : B ≤ w.heap.size) (ho : ∀ b, Own3 v0 v1 v2 b → B ≤ b) : Below B w w' :=
  ⟨h.os, h.tape, h.output, h.size, fun k hk => h.block k (by omega) (by omega) (fun e => by have := ho k e; omega)⟩
theorem DMut.own3 {w : World} {c o B : Nat} {v0 v1 v2 : Value} {d : Dc} (h : DMut w c o B v0 v1 v2 d) {b : Nat} (e : Own3 v0 v1 v2 b) : B ≤ b ∧ b < w.heap.size := by
  rcases e with e | e | e
  · exact h.log.lt b e
  · exact h.ints.lt b e
  · exact h.index.lt b e
theorem DMut.below {w w' : World} {c o B : Nat} {v0 v1 v2 : Value} {d : Dc} (h : DMut w c o B v0 v1 v2 d) (hb : Below w.heap.size w w') : DMut w' c o B v0 v1 v2 d := by
  have e : ∀ q, w'.cell? ⟨c, q, none⟩ = w.cell? ⟨c, q, none⟩ := fun q => hb.cell (p := ⟨c, q, none⟩) h.lt
  exact ⟨Nat.lt_of_lt_of_le h.lt hb.size, (e _).trans h.c0, (e _).trans h.c1, (e _).trans h.c2, (e _).trans h.c3, (e _).trans h.c4, (e _).trans h.c5, fun q => (hb.frozen (p := ⟨c, q, none⟩) h.lt).trans (h.fz q), own_block h.log hb.size (fun q _ hq => hb.block q hq), own_block h.ints hb.size (fun q _ hq => hb.block q hq), own_block h.index hb.size (fun q _ hq => hb.block q hq), h.ap, h.nc, Nat.le_trans h.base hb.size⟩
theorem DMut.ptr {w : World} {c o B : Nat} {v0 v1 v2 : Value} {d : Dc} (h : DMut w c o B v0 v1 v2 d) : ∃ la lc ia ic xa xc, v0 = .slice la d.n lc ∧ v1 = .slice ia d.m ic ∧ v2 = .slice xa d.x xc ∧ DPtr w c o la lc ia ic xa xc d := by
  obtain ⟨la, lc, e0, hL⟩ := h.log.at
  obtain ⟨ia, ic, e1, hI⟩ := h.ints.at
  obtain ⟨xa, xc, e2, hX⟩ := h.index.at
  subst e0 e1 e2
  exact ⟨la, lc, ia, ic, xa, xc, rfl, rfl, rfl, h.lt, h.c0, h.c1, h.c2, h.c3, h.c4, h.c5, hL, hI, hX⟩
theorem DMut.of_same {w : World} {c o B : Nat} {v0 v1 v2 : Value} {d e : Dc} (h : DMut w c o B v0 v1 v2 d) (n : e.n = d.n) (L : ∀ i, i < d.n → e.L i = d.L i) (m : e.m = d.m) (I : ∀ i, i < d.m → e.I i = d.I i) (x : e.x = d.x) (X : ∀ i, i < d.x → e.X i = d.X i) (hu : e.used = d.used) (hl : e.live = d.live) (ht : e.turns = d.turns) : DMut w c o B v0 v1 v2 e := by
  have hp : ∀ (f g : Nat → Pr) (n : Nat), (∀ i, i < n → f i = g i) → pL f n = pL g n := by
    intro f g n hh
    induction n with
    | zero => rfl
    | succ n ih => show pL f n ++ prL (f n) = pL g n ++ prL (g n); rw [ih (fun j hj => hh j (by omega)), hh n (by omega)]
  have hi : ∀ (f g : Nat → Int) (n : Nat), (∀ i, i < n → f i = g i) → iL f n = iL g n := by
    intro f g n hh
    induction n with
    | zero => rfl
    | succ n ih => show iL f n ++ [_] = iL g n ++ [_]; rw [ih (fun j hj => hh j (by omega)), hh n (by omega)]
  refine ⟨h.lt, h.c0, h.c1, h.c2, by rw [hu]; exact h.c3, by rw [hl]; exact h.c4, by rw [ht]; exact h.c5, h.fz, ?_, ?_, ?_, h.ap, h.nc, h.base⟩
  · show w.ownsRow _ _ _ _ e.n (pL e.L e.n); rw [n, hp e.L d.L d.n L]; exact h.log
  · show w.ownsRow _ _ _ _ e.m (iL e.I e.m); rw [m, hi e.I d.I d.m I]; exact h.ints
  · show w.ownsRow _ _ _ _ e.x (iL e.X e.x); rw [x, hi e.X d.X d.x X]; exact h.index

theorem IOwn.form {w : World} {B n : Nat} {v : Value} {f : Nat → Int} (h : IOwn w B v n f) (hn : 0 < n) : ∃ g cp, v = .slice (some ⟨g, 0, none⟩) n cp ∧ B ≤ g ∧ g < w.heap.size ∧ n ≤ cp ∧ (∀ i, i < n → w.cell? ⟨g, i, none⟩ = some (.int .i64 (f i))) ∧ ∀ q, w.frozen? ⟨g, q, none⟩ = false := by
  have h' := h
  obtain ⟨hl, ⟨hv, h0⟩ | ⟨g, cap, cur, hv, hb, hblk, h1, h2, h3, h4⟩⟩ := h'
  · omega
  · subst hv
    exact ⟨g, cap, rfl, hb, (h.lt g rfl).2, h1, fun i hi => by rw [World.ownsRow.cellAt h _ (by omega), iL_get hi], fun q => World.ownsRow.frozenAt h q⟩
theorem POwn.form {w : World} {B n : Nat} {v : Value} {f : Nat → Pr} (h : POwn w B v n f) (hn : 0 < n) : ∃ g cp, v = .slice (some ⟨g, 0, none⟩) n cp ∧ B ≤ g ∧ g < w.heap.size ∧ n ≤ cp ∧ (∀ i, i < n → PCell w g (i * 11) (f i)) ∧ ∀ q, w.frozen? ⟨g, q, none⟩ = false := by
  have h' := h
  obtain ⟨hl, ⟨hv, h0⟩ | ⟨g, cap, cur, hv, hb, hblk, h1, h2, h3, h4⟩⟩ := h'
  · omega
  · subst hv
    refine ⟨g, cap, rfl, hb, (h.lt g rfl).2, h1, fun i hi => PCell.of fun j u hu => ?_, fun q => World.ownsRow.frozenAt h q⟩
    have hj : j < 11 := by
      have := (List.getElem?_eq_some_iff.1 hu).1
      simpa [prL] using this
    rw [World.ownsRow.cellAt h _ (by omega), pL_get hi hj, hu]
theorem iL_set (f : Nat → Int) (n i : Nat) (x : Int) (hi : i < n) : (iL f n).set i (.int .i64 x) = iL (upd f i x) n := by
  apply List.ext_getElem?
  intro q
  rw [List.getElem?_set]
  by_cases hq : q < n
  · by_cases e : i = q
    · subst e; rw [if_pos rfl, if_pos (by rw [iL_length]; omega), iL_get hq, upd_same]
    · rw [if_neg e, iL_get hq, iL_get hq, upd_other _ _ (fun e' => e e'.symm)]
  · rw [if_neg (by omega), List.getElem?_eq_none (by rw [iL_length]; omega), List.getElem?_eq_none (by rw [iL_length]; omega)]
theorem IOwn.set {w : World} {B g n cp : Nat} {f : Nat → Int} (h : IOwn w B (.slice (some ⟨g, 0, none⟩) n cp) n f) {i : Nat} (hi : i < n) (x : Int) : IOwn (w.setCell ⟨g, i, none⟩ (.int .i64 x)) B (.slice (some ⟨g, 0, none⟩) n cp) n (upd f i x) := by
  have h1 := (World.ownsRow.stored h i (.int .i64 x)).1
  rw [iL_set f n i x hi] at h1
  exact h1
theorem own_setOther {w : World} {B e size n : Nat} {v : Value} {xs : List Value} (h : w.ownsRow B e size v n xs) {a : Addr} (u : Value) (hne : v.ownBlock ≠ some a.block) : (w.setCell a u).ownsRow B e size v n xs :=
  World.ownsRow.kept h (grown_setCell w a u) (.inr hne)
/-- A row of pairs is none of ints. -/
theorem own_apart {w : World} {B B' n n' : Nat} {v v' : Value} {f : Nat → Pr} {f' : Nat → Int} (h : POwn w B v n f) (h' : IOwn w B' v' n' f') {q : Nat} (e : v.ownBlock = some q) : v'.ownBlock ≠ some q := by
  intro e'
  obtain ⟨_, ⟨rfl, _⟩ | ⟨g, cap, cur, rfl, hb, hblk, _⟩⟩ := h
  · cases e
  · obtain ⟨_, ⟨rfl, _⟩ | ⟨g', cap', cur', rfl, hb', hblk', _⟩⟩ := h'
    · cases e'
    · simp [Value.ownBlock] at e e'
      subst e e'
      rw [hblk] at hblk'
      cases hblk'

/-- A field of the dict is written. -/
theorem cell_set_same {w : World} {b o : Nat} {v u : Value} (h : w.cell? ⟨b, o, none⟩ = some u) : (w.setCell ⟨b, o, none⟩ v).cell? ⟨b, o, none⟩ = some v := World.cell?_setCell_same' _ _ _ (by rw [h]; rfl)
theorem stp_field {c o : Nat} {v0 v1 v2 u0 u1 u2 : Value} {w : World} {q : Nat} (u : Value) (hq : o ≤ q ∧ q < o + 6) (hs : ∀ b, Own3 u0 u1 u2 b → Own3 v0 v1 v2 b ∨ w.heap.size ≤ b) : Stp c o v0 v1 v2 w u0 u1 u2 (w.setCell ⟨c, q, none⟩ u) :=
  ⟨rfl, rfl, rfl, by simp, fun b _ hc _ => Deep.blk_setCell_other _ _ _ _ (by exact hc), fun p hp => cell_set_other (by omega), hs⟩
theorem stp_row {c o : Nat} {v0 v1 v2 : Value} {w : World} {g q : Nat} (u : Value) (hg : Own3 v0 v1 v2 g) (hc : g ≠ c) : Stp c o v0 v1 v2 w v0 v1 v2 (w.setCell ⟨g, q, none⟩ u) :=
  ⟨rfl, rfl, rfl, by simp, fun b _ _ ho => Deep.blk_setCell_other _ _ _ _ (fun e => ho (by have e : b = g := e; rw [e]; exact hg)), fun p _ => cell_set_block hc, fun b e => .inl e⟩
section
variable {w : World} {c o B : Nat} {v0 v1 v2 : Value} {d : Dc}
theorem DMut.fld (h : DMut w c o B v0 v1 v2 d) {q : Nat} {u : Value} {u0 u1 u2 : Value} {e : Dc}
    (g0 : (w.setCell ⟨c, q, none⟩ u).cell? ⟨c, o, none⟩ = some u0) (g1 : (w.setCell ⟨c, q, none⟩ u).cell? ⟨c, o + 1, none⟩ = some u1) (g2 : (w.setCell ⟨c, q, none⟩ u).cell? ⟨c, o + 2, none⟩ = some u2)
    (g3 : (w.setCell ⟨c, q, none⟩ u).cell? ⟨c, o + 3, none⟩ = some (.int .i64 e.used)) (g4 : (w.setCell ⟨c, q, none⟩ u).cell? ⟨c, o + 4, none⟩ = some (.int .i64 e.live)) (g5 : (w.setCell ⟨c, q, none⟩ u).cell? ⟨c, o + 5, none⟩ = some (.int .i64 e.turns))
    (l : POwn w B u0 e.n e.L) (i : IOwn w B u1 e.m e.I) (x : IOwn w B u2 e.x e.X) (ap : ∀ q, u1.ownBlock = some q → u2.ownBlock ≠ some q) (nc : ¬ Own3 u0 u1 u2 c) : DMut (w.setCell ⟨c, q, none⟩ u) c o B u0 u1 u2 e :=
  ⟨by simpa using h.lt, g0, g1, g2, g3, g4, g5, fun p => by rw [World.frozen?_setCell]; exact h.fz p, own_setOther l _ (fun e => nc (.inl e)), own_setOther i _ (fun e => nc (.inr (.inl e))), own_setOther x _ (fun e => nc (.inr (.inr e))), ap, nc, by simpa using h.base⟩
theorem DMut.setLog (h : DMut w c o B v0 v1 v2 d) {u : Value} {n : Nat} {L : Nat → Pr} (l : POwn w B u n L) (nc : u.ownBlock ≠ some c) : DMut (w.setCell ⟨c, o, none⟩ u) c o B u v1 v2 { d with n := n, L := L } :=
  h.fld (cell_set_same h.c0) ((cell_set_other (by omega)).trans h.c1) ((cell_set_other (by omega)).trans h.c2) ((cell_set_other (by omega)).trans h.c3) ((cell_set_other (by omega)).trans h.c4) ((cell_set_other (by omega)).trans h.c5) l h.ints h.index h.ap (fun e => e.elim nc (fun e => h.nc (.inr e)))
theorem DMut.setInts (h : DMut w c o B v0 v1 v2 d) {u : Value} {m : Nat} {I : Nat → Int} (l : IOwn w B u m I) (nc : u.ownBlock ≠ some c) (ap : ∀ q, u.ownBlock = some q → v2.ownBlock ≠ some q) : DMut (w.setCell ⟨c, o + 1, none⟩ u) c o B v0 u v2 { d with m := m, I := I } :=
  h.fld ((cell_set_other (by omega)).trans h.c0) (cell_set_same h.c1) ((cell_set_other (by omega)).trans h.c2) ((cell_set_other (by omega)).trans h.c3) ((cell_set_other (by omega)).trans h.c4) ((cell_set_other (by omega)).trans h.c5) h.log l h.index ap (fun e => e.elim (fun e => h.nc (.inl e)) (fun e => e.elim nc (fun e => h.nc (.inr (.inr e)))))
theorem DMut.setIndex (h : DMut w c o B v0 v1 v2 d) {u : Value} {x : Nat} {X : Nat → Int} (l : IOwn w B u x X) (nc : u.ownBlock ≠ some c) (ap : ∀ q, v1.ownBlock = some q → u.ownBlock ≠ some q) : DMut (w.setCell ⟨c, o + 2, none⟩ u) c o B v0 v1 u { d with x := x, X := X } :=
  h.fld ((cell_set_other (by omega)).trans h.c0) ((cell_set_other (by omega)).trans h.c1) (cell_set_same h.c2) ((cell_set_other (by omega)).trans h.c3) ((cell_set_other (by omega)).trans h.c4) ((cell_set_other (by omega)).trans h.c5) h.log h.ints l ap (fun e => e.elim (fun e => h.nc (.inl e)) (fun e => e.elim (fun e => h.nc (.inr (.inl e))) nc))
theorem DMut.setUsed (h : DMut w c o B v0 v1 v2 d) (u : Int) : DMut (w.setCell ⟨c, o + 3, none⟩ (.int .i64 u)) c o B v0 v1 v2 { d with used := u } :=
  h.fld ((cell_set_other (by omega)).trans h.c0) ((cell_set_other (by omega)).trans h.c1) ((cell_set_other (by omega)).trans h.c2) (cell_set_same h.c3) ((cell_set_other (by omega)).trans h.c4) ((cell_set_other (by omega)).trans h.c5) h.log h.ints h.index h.ap h.nc
theorem DMut.setLive (h : DMut w c o B v0 v1 v2 d) (u : Int) : DMut (w.setCell ⟨c, o + 4, none⟩ (.int .i64 u)) c o B v0 v1 v2 { d with live := u } :=
  h.fld ((cell_set_other (by omega)).trans h.c0) ((cell_set_other (by omega)).trans h.c1) ((cell_set_other (by omega)).trans h.c2) ((cell_set_other (by omega)).trans h.c3) (cell_set_same h.c4) ((cell_set_other (by omega)).trans h.c5) h.log h.ints h.index h.ap h.nc
theorem DMut.setTurns (h : DMut w c o B v0 v1 v2 d) (u : Int) : DMut (w.setCell ⟨c, o + 5, none⟩ (.int .i64 u)) c o B v0 v1 v2 { d with turns := u } :=
  h.fld ((cell_set_other (by omega)).trans h.c0) ((cell_set_other (by omega)).trans h.c1) ((cell_set_other (by omega)).trans h.c2) ((cell_set_other (by omega)).trans h.c3) ((cell_set_other (by omega)).trans h.c4) (cell_set_same h.c5) h.log h.ints h.index h.ap h.nc
theorem DMut.rowc (h : DMut w c o B v0 v1 v2 d) {g q : Nat} {u : Value} (hg : Own3 v0 v1 v2 g) {e : Dc} (hu : e.used = d.used) (hl : e.live = d.live) (ht : e.turns = d.turns)
    (l : POwn (w.setCell ⟨g, q, none⟩ u) B v0 e.n e.L) (i : IOwn (w.setCell ⟨g, q, none⟩ u) B v1 e.m e.I) (x : IOwn (w.setCell ⟨g, q, none⟩ u) B v2 e.x e.X) : DMut (w.setCell ⟨g, q, none⟩ u) c o B v0 v1 v2 e := by
  have hc : g ≠ c := fun e => h.nc (e ▸ hg)
  exact ⟨by simpa using h.lt, (cell_set_block hc).trans h.c0, (cell_set_block hc).trans h.c1, (cell_set_block hc).trans h.c2, by rw [hu]; exact (cell_set_block hc).trans h.c3, by rw [hl]; exact (cell_set_block hc).trans h.c4, by rw [ht]; exact (cell_set_block hc).trans h.c5, fun p => by rw [World.frozen?_setCell]; exact h.fz p, l, i, x, h.ap, h.nc, by simpa using h.base⟩
end
/-- A slot of the index is written. -/
theorem DMut.putX {w : World} {c o B g cp : Nat} {v0 v1 : Value} {d : Dc} (h : DMut w c o B v0 v1 (.slice (some ⟨g, 0, none⟩) d.x cp) d) {i : Nat} (hi : i < d.x) (x : Int) : DMut (w.setCell ⟨g, i, none⟩ (.int .i64 x)) c o B v0 v1 (.slice (some ⟨g, 0, none⟩) d.x cp) { d with X := upd d.X i x } :=
  h.rowc (.inr (.inr rfl)) rfl rfl rfl (own_setOther h.log _ (fun e => own_apart h.log h.index e rfl)) (own_setOther h.ints _ (fun e => h.ap _ e rfl)) (h.index.set hi x)
/-- An int's place is written. -/
theorem DMut.putI {w : World} {c o B g cp : Nat} {v0 v2 : Value} {d : Dc} (h : DMut w c o B v0 (.slice (some ⟨g, 0, none⟩) d.m cp) v2 d) {i : Nat} (hi : i < d.m) (x : Int) : DMut (w.setCell ⟨g, i, none⟩ (.int .i64 x)) c o B v0 (.slice (some ⟨g, 0, none⟩) d.m cp) v2 { d with I := upd d.I i x } :=
  h.rowc (.inr (.inl rfl)) rfl rfl rfl (own_setOther h.log _ (fun e => own_apart h.log h.ints e rfl)) (h.ints.set hi x) (own_setOther h.index _ (fun e => h.ap _ rfl e))
theorem stp_new {c o : Nat} {v0 v1 v2 u0 u1 u2 : Value} {w : World} {q : Nat} (ob : Obj) (u : Value) (hc : c < w.heap.size) (hq : o ≤ q ∧ q < o + 6) (hs : ∀ b, Own3 u0 u1 u2 b → Own3 v0 v1 v2 b ∨ w.heap.size ≤ b) : Stp c o v0 v1 v2 w u0 u1 u2 ((w.alloc ob).setCell ⟨c, q, none⟩ u) :=
  ⟨rfl, rfl, rfl, by simp, fun b hb hc _ => (Deep.blk_setCell_other _ _ _ _ (by exact hc)).trans (Deep.blk_alloc_lt _ _ _ hb), fun p hp => (cell_set_other (by omega)).trans (World.cell?_alloc_lt _ _ _ (by exact hc)), hs⟩
/-- Behind an append to one of the rows. -/
theorem stp_grown {c o : Nat} {v0 v1 v2 u0 u1 u2 : Value} {w w3 : World} {q : Nat} {row : Option Nat} (u : Value) (hg : w.grownBy w3 row) (hr : ∀ b, row = some b → Own3 v0 v1 v2 b ∨ w.heap.size ≤ b) (hc : c < w.heap.size) (hn : row ≠ some c) (hq : o ≤ q ∧ q < o + 6) (hs : ∀ b, Own3 u0 u1 u2 b → Own3 v0 v1 v2 b ∨ w.heap.size ≤ b) : Stp c o v0 v1 v2 w u0 u1 u2 (w3.setCell ⟨c, q, none⟩ u) :=
  ⟨hg.os, hg.tape, hg.output, by simpa using hg.size, fun b hb hc ho => (Deep.blk_setCell_other _ _ _ _ (by exact hc)).trans (hg.block b hb (fun e => (hr b e.symm).elim ho (fun e' => by omega))), fun p hp => (cell_set_other (by omega)).trans (World.cell?_of_block (hg.block c hc (fun e => hn e.symm))), hs⟩
theorem iL_zero (n : Nat) : (madeCells #[Value.int .i64 0] n).toList = iL (fun _ => 0) n := by
  rw [toList_madeCells_one]
  induction n with
  | zero => rfl
  | succ n ih => rw [List.replicate_succ']; show _ = iL (fun _ => 0) n ++ [.int .i64 0]; rw [← ih]
theorem IOwn.made (w : World) (B n : Nat) (hb : B ≤ w.heap.size) (hn : n ≤ 4194304) : IOwn (w.alloc (.cells (madeCells #[Value.int .i64 0] n) 3)) B (.slice (some ⟨w.heap.size, 0, none⟩) n n) n (fun _ => 0) := by
  have h := World.ownsRow_lit (base := B) (e := 3) (size := 1) w (madeCells #[Value.int .i64 0] n) n hb (by unfold maxLen; omega) (by rw [size_madeCells]; omega)
  rw [iL_zero] at h
  exact h
theorem IOwn.cut {w : World} {B g m cp : Nat} {I : Nat → Int} (h : IOwn w B (.slice (some ⟨g, 0, none⟩) m cp) m I) {n : Nat} (hn : n ≤ m) : IOwn w B (.slice (some ⟨g, 0, none⟩) n cp) n I := by
  obtain ⟨hl, ⟨hv, h0⟩ | ⟨g', cap, cur, hv, hb, hblk, h1, h2, h3, h4⟩⟩ := h
  · cases hv
  · cases hv
    refine ⟨by rw [iL_length]; omega, .inr ⟨g, cp, cur, rfl, hb, hblk, by omega, h2, h3, ?_⟩⟩
    have e : ∀ j, iL I (n + j) = iL I n ++ (iL I (n + j)).drop n := by
      intro j
      have hp : iL I n <+: iL I (n + j) := by
        induction j with
        | zero => exact List.prefix_refl _
        | succ j ih => exact ih.trans (List.prefix_append _ _)
      obtain ⟨t, ht⟩ := hp
      rw [← ht]
      congr 1
      rw [List.drop_append_of_le_length (by rw [iL_length]; omega), List.drop_of_length_le (by rw [iL_length]; omega)]
      rfl
    have e' := e (m - n)
    rw [show n + (m - n) = m by omega] at e'
    have : cur.toList.take (n * 1) = (cur.toList.take (m * 1)).take n := by rw [List.take_take]; congr 1; omega
    rw [this, h4, e', List.take_append_of_le_length (by rw [iL_length]; omega), List.take_of_length_le (by rw [iL_length]; omega)]
end Go.Proofs.YtglcaejddckleaaGreatDoor
namespace Go.Proofs.YtglcaejddckleaaGreatDoor
open Go.RowKit
set_option linter.unusedVariables false
attribute [local go_sem] run_store_float run_equalIn_float

theorem back_mod {x a t : Nat} (ha : a < x) (ht : t < x) : ((a + t) % x + x - a) % x = t := by
  by_cases h : a + t < x
  · rw [Nat.mod_eq_of_lt h, show a + t + x - a = t + x by omega, Nat.add_mod_right, Nat.mod_eq_of_lt ht]
  · have e : (a + t) % x = a + t - x := by rw [Nat.mod_eq_sub_mod (by omega), Nat.mod_eq_of_lt (by omega)]
    rw [e, show a + t - x + x - a = t by omega, Nat.mod_eq_of_lt ht]
theorem next_mod {x a t : Nat} (hx : 0 < x) : ((a + t) % x + 1) % x = (a + (t + 1)) % x := by
  rw [Nat.mod_add_mod]; rfl

set_option maxRecDepth 100000 in
set_option maxHeartbeats 2000000 in
theorem l1enter_any (hf : Vl → Nat) (c o B : Nat) (v0 v1 v2 : Value) (d : Dc) (k : Vl) (p : Nat) (w : World) (hM : DMut w c o B v0 v1 v2 d) (hx : 8 ≤ d.x ∧ d.x ≤ 4000 ∧ Pow2 d.x) (hu : useN d.X d.x < d.x) (hus : 0 ≤ d.used ∧ d.used ≤ 4000) (hp : p ≤ 4194304) (hh : HsS k (hf k)) :
    Calls Tryz.prog 131 #[Pc c o, V k.kind k.num k.flt k.str k.ref, .int .i64 (p : Int)] w fun e w' => ((∃ u, e = .returned u) ∧ DMut w' c o B v0 v1 v2 (enterD hf d k p)) ∧ Stp c o v0 v1 v2 w v0 v1 v2 w' := by
  obtain ⟨T, hT, hfr, hX0, hXp⟩ := freeSlot_some (a := hf k % d.x) (Nat.mod_lt _ (by omega)) hu
  have HE := hide (enterD_some (p := p) hfr)
  obtain ⟨g, cp, rfl, hBg, hgl, hcp, hcs, hfz⟩ := hM.index.form (by omega)
  have hand := and_mask (h := hf k) hx.2.2 hx.2.1 hh.lt
  have hml : hf k % d.x < d.x := Nat.mod_lt _ (by omega)
  obtain ⟨a0, ha0⟩ : ∃ a0, a0 = hf k % d.x := ⟨_, rfl⟩
  rw [← ha0] at hand hml hX0 hXp HE
  have hx1 := hx.1
  have hx2 := hx.2.1
  have c2 := hM.c2
  have hcl := hM.lt
  have hgc : g ≠ c := fun e => hM.nc (.inr (.inr (by rw [← e]; rfl)))
  have hcg : c ≠ g := fun e => hgc e.symm
  have HM := hide hM
  have HH := hide hh
  have HX0 := hide hX0
  have HXp := hide hXp
  have HCS := hide hcs
  have HFZ := hide hfz
  have hb0 : Below w.heap.size w (w.alloc (.cells #[.int .i64 k.kind, .int .i64 k.num, .float .f64 k.flt, .string k.str, .int .i64 k.ref] 30)) := (Below.refl _ _).alloc (Nat.le_refl _) _
  have HB0 := hide hb0
  clear hM hh hx hX0 hXp hcs hfz ha0 hb0 hfr
  go_enter Tryz.func131, Tryz.ntmps131
  go_wp2_with fail
  refine ((unhide HH).call _).mono ?_
  rintro e w1 ⟨rfl, hb1⟩
  have HB1 := hide ((unhide HB0).trans (hb1.mono (unhide HB0).size))
  clear hb1 c2
  go_wp2_with fail
  go_loopw [7] (fun a wr => ∃ t : Nat, a = .int .i64 ((((a0 + t) % d.x : Nat)) : Int) ∧ t ≤ T ∧ wr = w1) (fun a _ => d.x - (((intOf a).toNat + d.x - a0) % d.x))
  case atStart => exact ⟨0, by rw [Nat.add_zero, Nat.mod_eq_of_lt hml], by omega, rfl⟩
  case round =>
    obtain ⟨t, rfl, htT, rfl⟩ := hrel
    have c2 := ((unhide HB1).cell (p := ⟨c, o + 2, none⟩) hcl).trans (unhide HM).c2
    have hcl1 := Nat.lt_of_lt_of_le hcl (unhide HB1).size
    have hgl1 := Nat.lt_of_lt_of_le hgl (unhide HB1).size
    obtain ⟨a, ha⟩ : ∃ a, a = (a0 + t) % d.x := ⟨_, rfl⟩
    have hax : a < d.x := by rw [ha]; exact Nat.mod_lt _ (by omega)
    have e0 := ((unhide HB1).cell (p := ⟨g, a, none⟩) hgl).trans (unhide HCS a hax)
    have HA := hide ha
    have HN : Hid ((a + 1) % d.x = (a0 + (t + 1)) % d.x) := hide (by rw [ha]; exact next_mod (by omega))
    have HK : Hid ((a + d.x - a0) % d.x = t) := hide (by rw [ha]; exact back_mod hml (by omega))
    rw [← ha]
    clear ha
    by_cases htn : t < T
    · have hpos : 0 < d.X a := by rw [unhide HA]; exact unhide HXp t htn
      have hpos' : decide (0 < d.X a) = true := by simp [hpos]
      by_cases hw : a + 1 = d.x
      · have hw' : ((a : Int) + 1 == d.x) = true := by simp; omega
        have HR : Hid ((a0 + (t + 1)) % d.x = 0) := hide (by rw [← unhide HN, hw]; exact Nat.mod_self _)
        clear hw
        go_wp2
        go_roundw
        case rel => exact ⟨t + 1, by rw [unhide HR]; rfl, by omega, by first | rfl | trivial⟩
        case measure =>
          have h1 := back_mod (x := d.x) (a := a0) (t := t + 1) hml (by omega)
          rw [unhide HR] at h1
          have h2 := unhide HK
          have e0 : ((0 : Int).toNat + d.x - a0) % d.x = t + 1 := h1
          simp only [intOf, Int.toNat_natCast]
          rw [h2, e0]
          omega
      · have hw' : ((a : Int) + 1 == d.x) = false := by simp; omega
        have HR : Hid ((a0 + (t + 1)) % d.x = a + 1) := hide (by rw [← unhide HN]; exact Nat.mod_eq_of_lt (by omega))
        have hax' : a + 1 < d.x := by omega
        clear hw
        go_wp2
        go_roundw
        case rel => exact ⟨t + 1, by rw [unhide HR]; go_num, by omega, by first | rfl | trivial⟩
        case measure =>
          have h1 := back_mod (x := d.x) (a := a0) (t := t + 1) hml (by omega)
          rw [unhide HR] at h1
          have h2 := unhide HK
          have e1 : ((a : Int) + 1).toNat = a + 1 := by omega
          simp only [intOf, Int.toNat_natCast]
          rw [h2, e1, h1]
          omega
    · have htT' : t = T := by omega
      subst htT'
      have hle : d.X a ≤ 0 := by rw [unhide HA]; exact unhide HX0
      have hpos' : decide (0 < d.X a) = false := by simp; omega
      have HMw := hide ((unhide HM).below (unhide HB1))
      have f0 : wr.frozen? ⟨g, a, none⟩ = false := ((unhide HB1).frozen (p := ⟨g, a, none⟩) hgl).trans (unhide HFZ a)
      have f3 := (unhide HMw).fz (o + 3)
      have c3 := (unhide HMw).c3
      rw [← unhide HA] at HE
      have hS1 : Stp c o v0 v1 (.slice (some ⟨g, 0, none⟩) d.x cp) w v0 v1 (.slice (some ⟨g, 0, none⟩) d.x cp) wr := Stp.of_below (unhide HB1) hcl
      have HS1 := hide hS1
      clear hS1
      by_cases h0 : d.X a = 0
      · have HR : Hid (enterD hf d k p = { d with X := upd d.X a ((p : Int) + 1), used := d.used + 1 }) := hide (by rw [unhide HE, if_pos h0])
        rw [h0] at e0
        have hd1 : DMut (wr.setCell ⟨c, o + 3, none⟩ (.int .i64 (d.used + 1))) c o B v0 v1 (.slice (some ⟨g, 0, none⟩) d.x cp) { d with used := d.used + 1 } := (unhide HMw).setUsed _
        have hd2 := DMut.putX (d := { d with used := d.used + 1 }) hd1 (i := a) hax ((p : Int) + 1)
        have hs2 := ((unhide HS1).trans (stp_field (c := c) (o := o) (v0 := v0) (v1 := v1) (v2 := .slice (some ⟨g, 0, none⟩) d.x cp) (q := o + 3) (.int .i64 (d.used + 1)) (by omega) (fun b e => .inl e))).trans (stp_row (q := a) (.int .i64 ((p : Int) + 1)) (.inr (.inr rfl)) hgc)
        have HD2 := hide (And.intro hd2 hs2)
        clear hd1 hd2 hs2 h0 hle
        go_wp2
        go_end0
        exact ⟨⟨⟨_, rfl⟩, by rw [unhide HR]; exact (unhide HD2).1⟩, (unhide HD2).2⟩
      · have HR : Hid (enterD hf d k p = { d with X := upd d.X a ((p : Int) + 1) }) := hide (by rw [unhide HE, if_neg h0])
        have h0' : (d.X a == 0) = false := by simp [h0]
        have hd2 := (unhide HMw).putX (i := a) hax ((p : Int) + 1)
        have hs2 := (unhide HS1).trans (stp_row (q := a) (.int .i64 ((p : Int) + 1)) (.inr (.inr rfl)) hgc)
        have HD2 := hide (And.intro hd2 hs2)
        clear hd2 hs2 h0 hle
        go_wp2
        go_end0
        exact ⟨⟨⟨_, rfl⟩, by rw [unhide HR]; exact (unhide HD2).1⟩, (unhide HD2).2⟩
end Go.Proofs.YtglcaejddckleaaGreatDoor
namespace Go.Proofs.YtglcaejddckleaaGreatDoor
open Go.RowKit
set_option linter.unusedVariables false
attribute [local go_sem] run_store_float run_equalIn_float

theorem make_intsO (n : Nat) (hn : n ≤ 4194304) (w : World) :
    (Instr.makeSlice 24 (.int .i64 (n : Int)) (.int .i64 (n : Int))).run Tryz.prog w = .ok (.slice (some ⟨w.heap.size, 0, none⟩) n n) (w.alloc (.cells (madeCells #[Value.int .i64 0] n) 3)) := by
  have := make_ints n hn w
  simpa [Value.cells] using this

theorem ownB {g n cp b : Nat} (h : (Value.slice (some ⟨g, 0, none⟩) n cp).ownBlock = some b) : g = b := by simpa [Value.ownBlock] using h
theorem Dc.eq_of {a b : Dc} (n : a.n = b.n) (L : a.L = b.L) (m : a.m = b.m) (I : a.I = b.I) (x : a.x = b.x) (X : a.X = b.X) (u : a.used = b.used) (l : a.live = b.live) (t : a.turns = b.turns) : a = b := by
  obtain ⟨⟩ := a
  obtain ⟨⟩ := b
  dsimp only at n L m I x X u l t
  subst n L m I x X u l t
  rfl
theorem refill_eq {hf : Vl → Nat} {d : Dc} {x k : Nat} (h : idxN d k < x) : { d with x := x, X := (refill hf d x k).X, used := (refill hf d x k).used } = refill hf d x k := by
  obtain ⟨f1, f2, f3, f4, f5, f6, f7, f8, f9, f10⟩ := refill_says (hf := hf) (d := d) (x := x) k h
  exact Dc.eq_of f5.symm f6.symm f7.symm f8.symm f4.symm rfl rfl f9.symm f10.symm

set_option maxRecDepth 100000 in
set_option maxHeartbeats 4000000 in
theorem l1reindex_any (hf : Vl → Nat) (c o B : Nat) (v0 v1 v2 : Value) (d : Dc) (more : Nat) (w : World) (hM : DMut w c o B v0 v1 v2 d) (hS : Small d) (hm : idxN d d.n + more ≤ 500) (hh : ∀ i, i < d.n → indexedK d i → HsS (d.L i).key (hf (d.L i).key)) :
    Calls Tryz.prog 130 #[Pc c o, .int .i64 (more : Int)] w fun e w' => ((∃ u, e = .returned u) ∧ ∃ u2, DMut w' c o B v0 v1 u2 (reindexD hf d more) ∧ Stp c o v0 v1 v2 w v0 v1 u2 w') := by
  have hn := hS.n
  have c0 := hM.c0
  have hcl := hM.lt
  obtain ⟨la, lc, e0, _⟩ := hM.log.at
  subst e0
  have HM := hide hM
  have HS := hide hS
  have HH := hide hh
  clear hM hS hh
  go_enter Tryz.func130, Tryz.ntmps130
  go_wp2_with fail
  go_loopw [14, 4] (fun i q wr => ∃ k : Nat, i = .int .i64 (k : Int) ∧ k ≤ d.n ∧ q = .int .i64 (((idxN d k + more : Nat)) : Int) ∧ Below w.heap.size w wr) (fun i _ _ => d.n - (intOf i).toNat)
  case atStart => exact ⟨0, rfl, by omega, by simp [idxN], Below.refl _ _⟩
  case round =>
    obtain ⟨k, rfl, hk, rfl, hb⟩ := hrel
    by_cases hkn : k < d.n
    · have hmw := (unhide HM).below hb
      obtain ⟨la', lc', ia, ic, xa, xc, ee0, rfl, rfl, hP⟩ := hmw.ptr
      cases ee0
      have hle := Nat.le_trans (idxN_mono d (k := k) (n := d.n) (by omega)) (show idxN d d.n ≤ 500 by omega)
      have HB := hide hb
      have HP := hide hP
      clear hb hmw hP
      go_wp2_with fail
      refine (l1indexed_any c o la lc ia ic xa xc d k _ (unhide HP) (unhide HS) hkn).mono ?_
      rintro e w1 ⟨rfl, hb1⟩
      have HB1 := hide ((unhide HB).trans (hb1.mono (unhide HB).size))
      clear hb1
      by_cases hx : indexedK d k
      · rw [tells_yes hx]
        have HN := hide (idxN_yes hx)
        clear hx
        go_wp2
        go_roundw
        case rel => exact ⟨k + 1, by go_num, by omega, by rw [unhide HN]; go_num, unhide HB1⟩
        case measure => simp [intOf]; omega
      · rw [tells_no hx]
        have HN := hide (idxN_no hx)
        clear hx
        go_wp2
        go_roundw
        case rel => exact ⟨k + 1, by go_num, by omega, by rw [unhide HN, Int.natCast_add], unhide HB1⟩
        case measure => simp [intOf]; omega
    have hkn' : k = d.n := by omega
    subst hkn'
    have hmw := (unhide HM).below hb
    have hs1 : Stp c o (.slice la d.n lc) v1 v2 w (.slice la d.n lc) v1 v2 wr := Stp.of_below hb hcl
    have hcl1 := hmw.lt
    have c2 := hmw.c2
    have c3 := hmw.c3
    have f2 := hmw.fz (o + 2)
    have f3 := hmw.fz (o + 3)
    have hd1 := (hmw.setIndex (u := .slice none 0 0) (x := 0) (X := fun _ => 0) (World.ownsRow_nil _ _ _ _) (fun e => by cases e) (fun q _ e => by cases e)).setUsed 0
    have hs2 := (hs1.trans (stp_field (u2 := .slice none 0 0) (q := o + 2) (.slice none 0 0) (by omega) (fun b e => .inl (e.elim .inl (fun e => e.elim (fun e => .inr (.inl e)) (fun e => by cases e)))))).trans (stp_field (q := o + 3) (.int .i64 0) (by omega) (fun b e => .inl e))
    have HD1 := hide hd1
    have HS2 := hide hs2
    clear hb hmw hs1 hd1 hs2 hk hkn
    by_cases hz : idxN d d.n + more = 0
    · have HR := hide (reindexD_none (hf := hf) hz)
      have hz' : (((idxN d d.n + more : Nat) : Int) == 0) = true := by rw [hz]; rfl
      generalize idxN d d.n + more = N at hz hz' hm
      clear hz
      go_wp2
      refine bodyPost_ret (results_none rfl _ _ _) rfl ?_
      refine ⟨⟨_, rfl⟩, _, ?_, unhide HS2⟩
      rw [unhide HR]
      exact (unhide HD1).of_same rfl (fun _ _ => rfl) rfl (fun _ _ => rfl) rfl (fun i hi => by cases hi) rfl rfl rfl
    have HR := hide (reindexD_some (hf := hf) hz)
    have HSZ := hide (sizeFor_says hm)
    have hidx : idxN d d.n ≤ idxN d d.n + more := by omega
    have hz' : (((idxN d d.n + more : Nat) : Int) == 0) = false := by simp; omega
    have HIX : Hid (idxN d d.n < sizeFor (idxN d d.n + more)) := hide (by have := (unhide HSZ).1; omega)
    generalize hNN : idxN d d.n + more = N at hz hz' hm HR HSZ HIX hidx
    clear hNN hidx
    obtain ⟨W1, hW1⟩ : ∃ W1, W1 = (wr.setCell ⟨c, o + 2, none⟩ (.slice none 0 0)).setCell ⟨c, o + 3, none⟩ (.int .i64 0) := ⟨_, rfl⟩
    go_wp2_with fail
    rw [← hW1]
    rw [← hW1] at HD1 HS2
    clear hW1 c2 c3 f2 f3 hcl1
    go_loopw [6] (fun a wr => ∃ f s : Nat, a = .int .i64 (s : Int) ∧ sizeGo f s (4 * N) = sizeFor N ∧ 8 ≤ s ∧ s ≤ 4000 ∧ wr = W1) (fun a _ => 4 * N - (intOf a).toNat)
    case atStart => exact ⟨9, 8, rfl, rfl, by omega, by omega, rfl⟩
    case round =>
      obtain ⟨f, s, rfl, hgo, hs8, hs4, rfl⟩ := hrel
      by_cases hlt : s < 4 * N
      · obtain ⟨f', rfl⟩ : ∃ f', f = f' + 1 := by
          cases f with
          | zero =>
            exfalso
            have h1 := (unhide HSZ).1
            have h2 : sizeGo 0 s (4 * N) = s := rfl
            omega
          | succ f => exact ⟨f, rfl⟩
        have HG : Hid (sizeGo f' (2 * s) (4 * N) = sizeFor N) := hide (by
          have h1 : sizeGo (f' + 1) s (4 * N) = if s < 4 * N then sizeGo f' (2 * s) (4 * N) else s := rfl
          rw [h1, if_pos hlt] at hgo
          exact hgo)
        clear hgo
        go_wp2
        go_roundw
        case rel => exact ⟨f', 2 * s, by go_num, unhide HG, by omega, by omega, by first | rfl | trivial⟩
        case measure => simp [intOf]; omega
      · have HG : Hid (s = sizeFor N) := hide (by
          cases f with
          | zero => exact hgo
          | succ f =>
            have h1 : sizeGo (f + 1) s (4 * N) = if s < 4 * N then sizeGo f (2 * s) (4 * N) else s := rfl
            rw [h1, if_neg hlt] at hgo
            exact hgo)
        clear hgo
        have mk := make_intsO s (by omega)
        have c2 := (unhide HD1).c2
        have f2 := (unhide HD1).fz (o + 2)
        have c0 := (unhide HD1).c0
        have hcl1 := (unhide HD1).lt
        obtain ⟨WA, hWA⟩ : ∃ WA, WA = (wr.setCell ⟨c, o + 2, none⟩ (.slice (some ⟨wr.heap.size, 0, none⟩) s s)).alloc (.cells (madeCells #[Value.int .i64 0] s) 3) := ⟨_, rfl⟩
        have hdA := ((unhide HD1).below ((Below.refl _ _).alloc (Nat.le_refl _) (.cells (madeCells #[Value.int .i64 0] s) 3))).setIndex (IOwn.made wr B s (unhide HD1).base (by omega)) (fun e => Nat.ne_of_gt hcl1 (ownB e)) (fun q e e' => by
            have e1 := (unhide HD1).own3 (.inr (.inl e))
            have e2 := ownB e'
            omega)
        have hsA := (unhide HS2).trans (stp_new (u0 := .slice la d.n lc) (u1 := v1) (u2 := .slice (some ⟨wr.heap.size, 0, none⟩) s s) (q := o + 2) (.cells (madeCells #[Value.int .i64 0] s) 3) (.slice (some ⟨wr.heap.size, 0, none⟩) s s) hcl1 (by omega) (fun b e => e.elim (fun e => .inl (.inl e)) (fun e => e.elim (fun e => .inl (.inr (.inl e))) (fun e => .inr (Nat.le_of_eq (ownB e))))))
        rw [World.setCell_alloc_past _ _ _ _ hcl1, ← hWA] at hdA hsA
        have HDA : Hid (DMut WA c o B (.slice la d.n lc) v1 (.slice (some ⟨wr.heap.size, 0, none⟩) s s) (refill hf d s 0)) := hide (hdA.of_same rfl (fun _ _ => rfl) rfl (fun _ _ => rfl) rfl (fun _ _ => rfl) rfl rfl rfl)
        have HSA := hide hsA
        have HC0 := hide hdA.c0
        have HCL := hide hdA.lt
        clear hdA hsA
        obtain ⟨G, hGG⟩ : ∃ G, G = wr.heap.size := ⟨_, rfl⟩
        rw [← hGG] at HDA HSA
        go_wp2_with fail
        rw [← hWA, ← hGG]
        clear hGG
        have c0 := unhide HC0
        have hclA := unhide HCL
        clear hWA mk c2 f2
        go_wp2_with fail
        have hPw := (unhide HSZ).2.2.2
        rw [← unhide HG] at hPw
        have HPW := hide hPw
        have hIX : idxN d d.n < s := by have := unhide HIX; rw [← unhide HG] at this; exact this
        have HIX' := hide hIX
        have HRR : Hid (reindexD hf d more = refill hf d s d.n) := hide (by rw [unhide HR, unhide HG])
        clear hPw hIX HG HIX HR HSZ
        go_loopw [47] (fun i wz => ∃ (k : Nat) (X' : Nat → Int) (u' : Int), i = .int .i64 (k : Int) ∧ k ≤ d.n ∧ { d with x := s, X := X', used := u' } = refill hf d s k ∧ DMut wz c o B (.slice la d.n lc) v1 (.slice (some ⟨G, 0, none⟩) s s) { d with x := s, X := X', used := u' } ∧ Stp c o (.slice la d.n lc) v1 (.slice (some ⟨G, 0, none⟩) s s) WA (.slice la d.n lc) v1 (.slice (some ⟨G, 0, none⟩) s s) wz) (fun i _ => d.n - (intOf i).toNat)
        case atStart => exact ⟨0, _, _, rfl, by omega, rfl, unhide HDA, Stp.refl _ _ _ _ _ _⟩
        case round =>
          clear HDA c0 hclA HC0 HCL
          obtain ⟨k, X', u', rfl, hk, heq, hd, hst⟩ := hrel
          by_cases hkn : k < d.n
          · have hix : idxN d k < s := by have h1 := idxN_mono d (k := k) (n := d.n) (by omega); have h2 := unhide HIX'; omega
            obtain ⟨f1, f2, f3, f4, f5, f6, f7, f8, f9, f10⟩ := refill_says (hf := hf) (d := d) (x := s) k hix
            rw [← heq] at f2 f3
            have f2 : (useN X' s : Int) = u' := f2
            have f3 : useN X' s ≤ idxN d k := f3
            have hud : 0 ≤ u' ∧ u' ≤ 4000 := by omega
            have hus : useN X' s < s := by omega
            have HUD := hide (And.intro hud hus)
            have HEQ := hide heq
            have hsm : Small { d with x := s, X := X', used := u' } := ⟨(unhide HS).n, (unhide HS).m, by show s ≤ _; omega⟩
            have HSM := hide hsm
            have HST := hide hst
            have HDZ := hide hd
            obtain ⟨la', lc', ia, ic, xa, xc, ee0, ee1, ee2, hP⟩ := hd.ptr
            cases ee0
            cases ee2
            subst ee1
            have cz0 := hd.c0
            have hlz := hd.lt
            obtain ⟨lb, hlb⟩ : ∃ lb, lb = la := ⟨_, rfl⟩
            have hpl := hP.rows.log
            have HP := hide hP
            clear hd hP hst heq hud hus hsm f1 f2 f3 f4 f5 f6 f7 f8 f9 f10 hlb lb
            go_wp2_with fail
            refine (l1indexed_any c o la lc ia ic (some ⟨G, 0, none⟩) s _ k _ (unhide HP) (unhide HSM) hkn).mono ?_
            rintro e w1 ⟨rfl, hb1⟩
            have hdz1 := (unhide HDZ).below hb1
            have HST1 := hide ((unhide HST).trans (Stp.of_below hb1 hlz))
            have hpl1 := hpl.below hb1 rfl
            have c01 := hdz1.c0
            have hl1 := hdz1.lt
            have HDZ1 := hide hdz1
            clear hb1 hdz1 hpl cz0
            by_cases hx : indexedK d k
            · rw [show tells (indexedK { d with x := s, X := X', used := u' } k) = true from tells_yes hx]
              have HH' := hide (unhide HH k hkn hx)
              have HN : Hid ({ d with x := s, X := (refill hf d s (k + 1)).X, used := (refill hf d s (k + 1)).used } = refill hf d s (k + 1)) := hide (refill_eq (by have h1 := idxN_mono d (k := k + 1) (n := d.n) (by omega); have h2 := unhide HIX'; omega))
              have HN2 : Hid (refill hf d s (k + 1) = enterD hf { d with x := s, X := X', used := u' } (d.L k).key k) := hide (by rw [refill_yes hx, unhide HEQ])
              obtain ⟨pb, off, rfl, hpb, hpc⟩ := hpl1.resolve_left (by show d.n ≠ 0; omega)
              obtain ⟨p0, p1, p2, p3, p4, _, _, _, _, _, _⟩ := hpc k hkn
              clear hx hpc hpl1
              go_wp2_with fail
              refine (l1enter_any hf c o B _ _ (.slice (some ⟨G, 0, none⟩) s s) { d with x := s, X := X', used := u' } (d.L k).key k _ (unhide HDZ1) ⟨hs8, hs4, unhide HPW⟩ (unhide HUD).2 (unhide HUD).1 (by omega) (unhide HH')).mono ?_
              rintro e w2 ⟨⟨⟨u, rfl⟩, hd2⟩, hst2⟩
              rw [← unhide HN2, ← unhide HN] at hd2
              have HD2 := hide hd2
              have HST2 := hide ((unhide HST1).trans hst2)
              clear hd2 hst2 p0 p1 p2 p3 p4 c01
              go_wp2
              go_roundw
              case rel => exact ⟨k + 1, _, _, by go_num, by omega, unhide HN, unhide HD2, unhide HST2⟩
              case measure => simp [intOf]; omega
            · rw [show tells (indexedK { d with x := s, X := X', used := u' } k) = false from tells_no hx]
              have HN : Hid ({ d with x := s, X := X', used := u' } = refill hf d s (k + 1)) := hide (by rw [refill_no hx, unhide HEQ])
              clear hx hpl1 c01
              go_wp2
              go_roundw
              case rel => exact ⟨k + 1, X', u', by go_num, by omega, unhide HN, unhide HDZ1, unhide HST1⟩
              case measure => simp [intOf]; omega
          have hkn' : k = d.n := by omega
          subst hkn'
          have HEND := hide (And.intro (heq ▸ hd) ((unhide HSA).trans hst))
          clear hd hst heq hk hkn
          go_wp2
          go_end0
          exact ⟨⟨_, rfl⟩, _, by rw [unhide HRR]; exact (unhide HEND).1, (unhide HEND).2⟩
end Go.Proofs.YtglcaejddckleaaGreatDoor
namespace Go.Proofs.YtglcaejddckleaaGreatDoor
open Go.RowKit
set_option linter.unusedVariables false
attribute [local go_sem] run_store_float run_equalIn_float

/-- Where the living went. -/
def Whr (w : World) (b : Nat) (d : Dc) (k : Nat) : Prop := ∃ g, w.rowIs b 3 d.n g ∧ ∀ j, j < k → (d.L j).turn ≠ 0 → g j = .int .i64 ((rank d j : Int) + 1)
theorem Whr.keep {w w' : World} {b : Nat} {d : Dc} {k : Nat} (h : Whr w b d k) (e : w'.heap[b]? = w.heap[b]?) : Whr w' b d k := by
  obtain ⟨g, h1, h2⟩ := h
  exact ⟨g, h1.of_block e, h2⟩
theorem Whr.lt {w : World} {b : Nat} {d : Dc} {k : Nat} (h : Whr w b d k) : b < w.heap.size := by
  obtain ⟨g, h1, h2⟩ := h
  exact h1.lt
theorem Whr.cell {w : World} {b : Nat} {d : Dc} {k : Nat} (h : Whr w b d k) {j : Nat} (hj : j < k) (hn : j < d.n) (ht : (d.L j).turn ≠ 0) : w.cell? ⟨b, j, none⟩ = some (.int .i64 ((rank d j : Int) + 1)) := by
  obtain ⟨g, h1, h2⟩ := h
  rw [h1.cell hn, h2 j hj ht]
theorem Whr.any {w : World} {b : Nat} {d : Dc} {k : Nat} (h : Whr w b d k) {j : Nat} (hn : j < d.n) : ∃ u, w.cell? ⟨b, j, none⟩ = some u := by
  obtain ⟨g, h1, h2⟩ := h
  exact ⟨_, h1.cell hn⟩
theorem Whr.frozen {w : World} {b : Nat} {d : Dc} {k : Nat} (h : Whr w b d k) (j : Nat) : w.frozen? ⟨b, j, none⟩ = false := by
  obtain ⟨g, h1, h2⟩ := h
  exact h1.frozen j
theorem Whr.put {w : World} {b : Nat} {d : Dc} {k : Nat} (h : Whr w b d k) : Whr (w.setCell ⟨b, k, none⟩ (.int .i64 ((rank d k : Int) + 1))) b d (k + 1) := by
  obtain ⟨g, h1, h2⟩ := h
  refine ⟨_, h1.set k _, fun j hj ht => ?_⟩
  by_cases e : j = k
  · subst e; simp
  · simp only [e, if_false]; exact h2 j (by omega) ht
theorem Whr.skip {w : World} {b : Nat} {d : Dc} {k : Nat} (h : Whr w b d k) (ht : (d.L k).turn = 0) : Whr w b d (k + 1) := by
  obtain ⟨g, h1, h2⟩ := h
  refine ⟨g, h1, fun j hj ht' => ?_⟩
  by_cases e : j = k
  · subst e; exact absurd ht ht'
  · exact h2 j (by omega) ht'

/-- The ints' places, the first k of them made anew. -/
def packI (d : Dc) (k : Nat) : Nat → Int := fun j => if j < k then (packD d).I j else d.I j
theorem packI_zero (d : Dc) (j : Nat) : packI d 0 j = d.I j := if_neg (by omega)
theorem packI_at (d : Dc) (k : Nat) : packI d k k = d.I k := if_neg (by omega)
theorem packI_all {d : Dc} {k j : Nat} (h : j < k) : packI d k j = (packD d).I j := if_pos h
theorem packI_dead {d : Dc} {k : Nat} (h : ¬ 0 < d.I k) (j : Nat) : packI d (k + 1) j = packI d k j := by
  unfold packI
  by_cases e : j = k
  · subst e
    rw [if_pos (by omega), if_neg (by omega)]
    show (if 0 < d.I j then _ else d.I j) = _
    rw [if_neg h]
  · by_cases e2 : j < k
    · rw [if_pos (by omega), if_pos e2]
    · rw [if_neg (by omega), if_neg e2]
theorem packI_live {d : Dc} {k q : Nat} (h : d.I k = (q : Int) + 1) (j : Nat) : packI d (k + 1) j = upd (packI d k) k ((rank d q : Int) + 1) j := by
  unfold packI
  by_cases e : j = k
  · subst e
    rw [if_pos (by omega), upd_same]
    show (if 0 < d.I j then (rank d (d.I j - 1).toNat : Int) + 1 else d.I j) = _
    rw [if_pos (by omega), h, show ((q : Int) + 1 - 1).toNat = q by omega]
  · rw [upd_other _ _ e]
    by_cases e2 : j < k
    · rw [if_pos (by omega), if_pos e2]
    · rw [if_neg (by omega), if_neg e2]

theorem compactD_not {hf : Vl → Nat} {d : Dc} (h : (d.n : Int) < 8 ∨ (d.n : Int) ≤ 2 * d.live) : compactD hf d = d := if_pos h
theorem compactD_yes {hf : Vl → Nat} {d : Dc} (h : ¬ ((d.n : Int) < 8 ∨ (d.n : Int) ≤ 2 * d.live)) : compactD hf d = reindexD hf (packD d) 0 := if_neg h

set_option maxRecDepth 100000 in
set_option maxHeartbeats 8000000 in
theorem l1compact_any (hf : Vl → Nat) (K : Vl → Prop) (c o B : Nat) (v0 v1 v2 : Value) (d : Dc) (w : World) (hM : DMut w c o B v0 v1 v2 d) (hS : Small d) (hC : Core K d) (hh : ∀ v, K v → HsS v (hf v)) :
    Calls Tryz.prog 129 #[Pc c o] w fun e w' => ((∃ u, e = .returned u) ∧ ∃ u0 u2, DMut w' c o B u0 v1 u2 (compactD hf d) ∧ Stp c o v0 v1 v2 w u0 v1 u2 w') := by
  obtain ⟨i0, hi, hz0, hz1, hz2⟩ := info_parts infoPair
  have hn := hS.n
  have hm := hS.m
  have hlv : (lvN d : Int) = d.live := hC.live_n
  have hl5 := hC.le
  have c0 := hM.c0
  have c4 := hM.c4
  have hcl := hM.lt
  have hBw := hM.base
  obtain ⟨la, lc, e0, hPA⟩ := hM.log.at
  subst e0
  have HM := hide hM
  have HS := hide hS
  have HC := hide hC
  have HH := hide hh
  have HPA := hide hPA
  have hw2 : IntKind.i64.wrap (2 * d.live) = 2 * d.live := by rw [IntKind.wrap_i64]; omega
  clear hM hS hC hh hPA
  by_cases h1 : (d.n : Int) < 8
  · have HR := hide (compactD_not (hf := hf) (d := d) (.inl h1))
    have hd1 : decide ((d.n : Int) < 8) = true := by simp; omega
    clear h1
    go_enter Tryz.func129, Tryz.ntmps129
    go_wp2_with fail
    go_quiet (fail)
    go_wp2
    refine bodyPost_ret (results_none rfl _ _ _) rfl ?_
    exact ⟨⟨_, rfl⟩, _, _, by rw [unhide HR]; exact (unhide HM).below (below_drewN' (Below.refl _ _) _), Stp.of_below (below_drewN' (Below.refl _ _) _) hcl⟩
  have hd1 : decide ((d.n : Int) < 8) = false := by simp; omega
  by_cases h2 : (d.n : Int) ≤ 2 * d.live
  · have HR := hide (compactD_not (hf := hf) (d := d) (.inr h2))
    have hd2 : decide ((d.n : Int) ≤ 2 * d.live) = true := by simp; omega
    clear h1 h2
    go_enter Tryz.func129, Tryz.ntmps129
    go_wp2_with fail
    go_quiet (fail)
    go_wp2
    refine bodyPost_ret (results_none rfl _ _ _) rfl ?_
    exact ⟨⟨_, rfl⟩, _, _, by rw [unhide HR]; exact (unhide HM).below (below_drewN' (Below.refl _ _) _), Stp.of_below (below_drewN' (Below.refl _ _) _) hcl⟩
  have hd2 : decide ((d.n : Int) ≤ 2 * d.live) = false := by simp; omega
  have HR := hide (compactD_yes (hf := hf) (d := d) (by omega))
  have mk := make_intsO d.n hn
  clear h1 h2
  go_enter Tryz.func129, Tryz.ntmps129
  go_wp2_with fail
  go_quiet (fail)
  obtain ⟨W0, hW0⟩ : ∃ W0, W0 = w.drewN nq := ⟨_, rfl⟩
  rw [← hW0]
  have HB0 : Hid (Below w.heap.size w W0) := hide (by rw [hW0]; exact below_drewN' (Below.refl _ _) _)
  have hzW : W0.heap.size = w.heap.size := by rw [hW0]; rfl
  have HZW := hide hzW
  clear hzW
  clear hW0
  have hM0 := (unhide HM).below (unhide HB0)
  have c0 := hM0.c0
  have hcl := hM0.lt
  have hPA0 := (unhide HPA).below (unhide HB0) rfl
  have HM0 := hide hM0
  have HPA0 := hide hPA0
  have hB0 := hM0.base
  clear hM0 hPA0 HPA c4
  go_wp2_with fail
  obtain ⟨W, hW⟩ : ∃ W, W = W0.alloc (.cells (madeCells #[Value.int .i64 0] d.n) 3) := ⟨_, rfl⟩
  rw [← hW]
  have HBW : Hid (Below W0.heap.size W0 W) := hide (by rw [hW]; exact (Below.refl _ _).alloc (Nat.le_refl _) _)
  have hzW1 : W0.heap.size < W.heap.size := by rw [hW]; simp
  have HWH : Hid (Whr W W0.heap.size d 0) := hide ⟨_, by rw [hW]; have h := made_zeros W0 d.n; simpa [Value.cells] using h, fun j hj => by omega⟩
  clear hW mk
  go_loopw [38, 2] (fun i q wr => ∃ (k : Nat) (v : Value), i = .int .i64 (k : Int) ∧ k ≤ d.n ∧ v = q ∧ POwn wr W.heap.size v (livL d k).length (lvF d) ∧ Whr wr W0.heap.size d k ∧ Below W0.heap.size W0 wr ∧ W.heap.size ≤ wr.heap.size) (fun i _ _ => d.n - (intOf i).toNat)
  case atStart => exact ⟨0, _, rfl, by omega, rfl, World.ownsRow_nil _ _ _ _, unhide HWH, unhide HBW, Nat.le_refl _⟩
  case round =>
    clear HWH HBW
    obtain ⟨k, v, rfl, hk, rfl, hown, hwh, hbw, hsz⟩ := hrel
    by_cases hkn : k < d.n
    · obtain ⟨pb, off, rfl, hpb, hpc⟩ := (unhide HPA0).resolve_left (by omega)
      obtain ⟨e0, e1, e2, e3, e4, e5, e6, e7, e8, e9, e10⟩ := (hpc k hkn).keep (fun q => hbw.cell (p := ⟨pb, q, none⟩) hpb)
      have hws := hbw.size
      have hml := livL_le d k
      have HB := hide hbw
      have HO := hide hown
      have HWH := hide hwh
      clear hpc hbw hown hwh
      by_cases hp : 0 < (d.L k).turn
      · have hne : (d.L k).turn ≠ 0 := by omega
        have HF := hide (lvF_at hkn hne)
        have HN := hide (livL_live hne)
        have hdp : decide (0 < (d.L k).turn) = true := by simp [hp]
        have hltv := hide (unhide HO).lt
        have HNE := hide hne
        have hwl := (unhide HWH).lt
        clear hne hp
        go_wp2_with (first | (at_builtin; refine wpList_append_lies _ rfl _ _ 23 rfl W.heap.size 43 i0 PZ 11 104 Tryz.underlying23 hi hz0 hz1 hz2 rfl (by decide) v (livL d k).length (pL (lvF d) (livL d k).length) rfl (((unhide HO).alloc _).alloc _) ⟨wr.heap.size + 1, 0, none⟩ 1 1 (prL (d.L k)) rfl rfl (news_after wr _ (prL (d.L k)) _) (prL_one _) (by decide) (by unfold maxLen; omega) (by omega) (by simp; omega) _ rfl ?_; intro g3 cp3 w3 hown3 hgr3 hloc3 hlt3; have hwb3 : w3.heap[W0.heap.size]? = wr.heap[W0.heap.size]? := ((hgr3.block W0.heap.size (by simp; omega) (fun e => by have := (unhide hltv _ e.symm).1; omega)).trans (Deep.blk_alloc_lt _ _ _ (by simp; omega))).trans (Deep.blk_alloc_lt _ _ _ hwl); have HW3 := hide ((unhide HWH).keep hwb3); have hs3 : W.heap.size ≤ w3.heap.size := (by have := hgr3.size; simp at this; omega); obtain ⟨wu, r0⟩ := (unhide HW3).any hkn; have r1 := (unhide HW3).frozen k; have hwl3 := (unhide HW3).lt; have HG3 := hide ((((unhide HB).alloc (by omega) _).alloc (by simp; omega) _).trans (grown_below hgr3 (fun q e => Nat.le_trans (by omega) (unhide hltv q e).1) (by simp; omega))); have hg3 := (hown3.lt g3 rfl).1; have HO3 := hide hown3; clear hown3 hgr3 hwb3) | go_in)
        go_roundw
        case rel =>
          refine ⟨k + 1, _, by go_num, by omega, rfl, ?_, ?_, (unhide HG3).setCell (by exact Nat.le_refl _) _, by simpa using hs3⟩
          · have h := own_setOther (a := ⟨W0.heap.size, k, none⟩) (unhide HO3) (.int .i64 ((rank d k : Int) + 1)) (fun e => by have e' : g3 = W0.heap.size := ownB e; omega)
            rw [unhide HN, List.length_append, List.length_singleton]
            show World.ownsRow _ W.heap.size _ 11 _ _ (pL (lvF d) (livL d k).length ++ prL (lvF d (livL d k).length))
            rw [unhide HF]
            exact h
          · exact (unhide HW3).put
        case measure => simp [intOf]; omega
      · have hz0' : (d.L k).turn = 0 := by
          rcases (unhide HC).log.ent k hkn with h | h
          · exact h.1
          · exact absurd h.1 hp
        have HN : Hid (livL d (k + 1) = livL d k) := hide (livL_dead hz0')
        have HW3 := hide ((unhide HWH).skip hz0')
        clear hp
        rw [hz0'] at e10
        clear hz0'
        go_wp2
        go_roundw
        case rel =>
          refine ⟨k + 1, _, by go_num, by omega, rfl, ?_, (unhide HW3).keep (Deep.blk_alloc_lt _ _ _ (unhide HW3).lt), (unhide HB).alloc hws _, by simp; omega⟩
          rw [unhide HN]
          exact (unhide HO).alloc _
        case measure => simp [intOf]; omega
    have hkn' : k = d.n := by omega
    subst hkn'
    have hM1 := (unhide HM0).below hbw
    have hd1 := hM1.setLog (own_mono hown (by omega)) (fun e => by have := hown.lt c e; omega)
    have hs1 : Stp c o (.slice la d.n lc) v1 v2 w v v1 v2 (wr.setCell ⟨c, o, none⟩ v) := by
      refine stp_grown (row := none) v (grown_of_below ((unhide HB0).trans (hbw.mono (Nat.le_of_eq (unhide HZW).symm)))) (fun b e => by cases e) (by rw [← unhide HZW]; exact hcl) (fun e => by cases e) (by omega) (fun b e => ?_)
      rcases e with e | e
      · right
        have h1 := (hown.lt b e).1
        have h2 := unhide HZW
        omega
      · exact .inl (.inr e)
    have hwh1 : Whr (wr.setCell ⟨c, o, none⟩ v) W0.heap.size d d.n := hwh.keep (Deep.blk_setCell_other _ _ _ _ (by show W0.heap.size ≠ c; omega))
    have hcl1 := hM1.lt
    have c01 := hM1.c0
    have f01 := hM1.fz o
    have c1w := hM1.c1
    have hwn : ∀ b, Own3 v v1 v2 b → b ≠ W0.heap.size := fun b e => by
      rcases e with e | e
      · have := (hown.lt b e).1; omega
      · have := ((unhide HM0).own3 (.inr e)).2; omega
    obtain ⟨ia, ic, e1, _⟩ := hM1.ints.at
    have HFM : Hid (0 < d.m → ∃ g cp, v1 = .slice (some ⟨g, 0, none⟩) d.m cp) := hide (fun h => by obtain ⟨g, cp, h, _⟩ := hM1.ints.form h; exact ⟨g, cp, h⟩)
    subst e1
    have HWN := hide hwn
    have HD1 := hide hd1
    have HS1 := hide hs1
    have HWH1 := hide hwh1
    have hwlt : W0.heap.size < wr.heap.size := by omega
    obtain ⟨W1, hW1⟩ : ∃ W1, W1 = wr.setCell ⟨c, o, none⟩ v := ⟨_, rfl⟩
    have c11 := (unhide HD1).c1
    have hclW := (unhide HD1).lt
    rw [← hW1] at HD1 HS1 HWH1 c11 hclW
    obtain ⟨va, vc, ev, _⟩ := hown.at
    subst ev
    clear hM1 hd1 hs1 hown hwh hbw hwh1 hwn hk hkn
    go_wp2_with fail
    rw [← hW1]
    clear hW1 c01 f01 hcl1 c1w
    go_loopw [65] (fun i wz => ∃ (k : Nat), i = .int .i64 (k : Int) ∧ k ≤ d.m ∧ DMut wz c o B (.slice va (livL d d.n).length vc) (.slice ia d.m ic) v2 { d with n := lvN d, L := lvF d, I := packI d k } ∧ Whr wz W0.heap.size d d.n ∧ Stp c o (.slice va (livL d d.n).length vc) (.slice ia d.m ic) v2 W1 (.slice va (livL d d.n).length vc) (.slice ia d.m ic) v2 wz) (fun i _ => d.m - (intOf i).toNat)
    case atStart => exact ⟨0, rfl, by omega, (unhide HD1).of_same rfl (fun _ _ => rfl) rfl (fun j _ => packI_zero d j) rfl (fun _ _ => rfl) rfl rfl rfl, unhide HWH1, Stp.refl _ _ _ _ _ _⟩
    case round =>
      clear HD1 HWH1 c11 hclW
      obtain ⟨k, rfl, hk, hd, hwh, hst⟩ := hrel
      by_cases hkm : k < d.m
      · obtain ⟨g, cp, eg⟩ := unhide HFM (by omega)
        cases eg
        obtain ⟨g', cp', eg', hBg, hgl, hcp, hcs, hfz⟩ := hd.ints.form (by show 0 < d.m; omega)
        cases eg'
        have e0 := hcs k hkm
        rw [show ({ d with n := lvN d, L := lvF d, I := packI d k } : Dc).I k = d.I k from packI_at d k] at e0
        have f0 := hfz k
        have hgw : g ≠ W0.heap.size := unhide HWN g (.inr (.inl rfl))
        have hwg : W0.heap.size ≠ g := fun e => hgw e.symm
        have hgc : g ≠ c := fun e => hd.nc (.inr (.inl (by rw [← e]; rfl)))
        have c1 := hd.c1
        have hcl := hd.lt
        have HDK := hide hd
        have HST := hide hst
        have HWH := hide hwh
        have hwl := hwh.lt
        clear hcs hfz hd hst hwh
        rcases (unhide HC).ints k hkm with hz | ⟨g1, g2, g3, g4, g5⟩
        · rw [hz] at e0
          go_wp2
          go_roundw
          case rel => exact ⟨k + 1, by go_num, by omega, (unhide HDK).of_same rfl (fun _ _ => rfl) rfl (fun j _ => packI_dead (by omega) j) rfl (fun _ _ => rfl) rfl rfl rfl, unhide HWH, unhide HST⟩
          case measure => simp [intOf]; omega
        · obtain ⟨q, hq⟩ : ∃ q : Nat, d.I k = (q : Int) + 1 := ⟨(d.I k - 1).toNat, by omega⟩
          have hqn : q < d.n := by omega
          have hqt : (d.L q).turn ≠ 0 := by have h := g3; unfold Dc.at at h; rw [hq, show ((q : Int) + 1 - 1).toNat = q by omega] at h; exact h
          have r0 := (unhide HWH).cell hqn hqn hqt
          have HN : Hid (DMut (wr.setCell ⟨g, k, none⟩ (.int .i64 ((rank d q : Int) + 1))) c o B (.slice va (livL d d.n).length vc) (.slice (some ⟨g, 0, none⟩) d.m ic) v2 { d with n := lvN d, L := lvF d, I := packI d (k + 1) }) := hide (by
            have h := DMut.putI (d := { d with n := lvN d, L := lvF d, I := packI d k }) (unhide HDK) (i := k) hkm ((rank d q : Int) + 1)
            exact h.of_same rfl (fun _ _ => rfl) rfl (fun j _ => packI_live hq j) rfl (fun _ _ => rfl) rfl rfl rfl)
          have hst2 := (unhide HST).trans (stp_row (c := c) (o := o) (v0 := (.slice va (livL d d.n).length vc)) (v1 := .slice (some ⟨g, 0, none⟩) d.m ic) (v2 := v2) (w := wr) (g := g) (q := k) (.int .i64 ((rank d q : Int) + 1)) (.inr (.inl rfl)) hgc)
          have HST2 := hide hst2
          have HW2 := hide ((unhide HWH).keep (w' := wr.setCell ⟨g, k, none⟩ (.int .i64 ((rank d q : Int) + 1))) (Deep.blk_setCell_other _ _ _ _ (by exact hwg)))
          have hwq : IntKind.i64.wrap (q : Int) = q := by rw [IntKind.wrap_i64]; omega
          rw [hq] at e0
          clear hq g1 g2 g3 g4 g5 hst2 hqt
          go_wp2_with fail
          go_region
          go_wp2
          go_roundw
          case rel => exact ⟨k + 1, by go_num, by omega, (unhide HN).below (Below.refl _ _).drew, (unhide HW2).keep rfl, (unhide HST2).trans (Stp.of_below (Below.refl _ _).drew (by simpa using hcl))⟩
          case measure => simp [intOf]; omega
      have hkm' : k = d.m := by omega
      subst hkm'
      have hdp : DMut wr c o B (.slice va (livL d d.n).length vc) (.slice ia d.m ic) v2 (packD d) := hd.of_same rfl (fun _ _ => rfl) rfl (fun j hj => (packI_all hj).symm) rfl (fun _ _ => rfl) rfl rfl rfl
      have hsm : Small (packD d) := ⟨Nat.le_trans (lvN_le d) hn, hm, (unhide HS).x⟩
      have hcp := packD_core (unhide HC)
      have HDP := hide hdp
      have HSP := hide hsm
      have HCP := hide hcp
      have HSTZ := hide ((unhide HS1).trans hst)
      clear hd hst hwh hdp hsm hcp hk hkm
      go_wp2_with fail
      refine (l1reindex_any hf c o B _ _ v2 (packD d) 0 _ (unhide HDP) (unhide HSP) (packD_idx (unhide HC)) (fun i hi hx => unhide HH _ ((unhide HCP).keys i hi (by have := hx.1; omega)))).mono ?_
      rintro e w9 ⟨⟨u, rfl⟩, u2, hd9, hs9⟩
      have HD9 := hide hd9
      have HS9 := hide ((unhide HSTZ).trans hs9)
      clear hd9 hs9
      go_wp2
      go_end0
      exact ⟨⟨_, rfl⟩, _, _, by rw [unhide HR]; exact unhide HD9, unhide HS9⟩
end Go.Proofs.YtglcaejddckleaaGreatDoor
