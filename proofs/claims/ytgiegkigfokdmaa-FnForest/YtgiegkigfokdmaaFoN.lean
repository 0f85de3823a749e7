/-
  Shapes: a grown forest is sound, and what its new shape's fields are.
-/
import Derived.Test.YtgiegkigfokdmaaFoM
namespace Go.Proofs.Ytgiegkigfokdmaa
open Go.RowKit
set_option linter.unusedVariables false

theorem anc_all {n : Nat} {f : Nat → Shp} (h2 : Rule2 f) (h3 : Rule3 n f) {i : Nat} (hi : i < n) : ∀ t, anc f i t < n := by
  intro t
  induction t with
  | zero => exact hi
  | succ t ih =>
    show (f (anc f i t)).parent.toNat < n
    rcases Nat.eq_zero_or_pos (anc f i t) with e | e
    · rw [e, h2.1]; exact Nat.lt_of_le_of_lt (Nat.zero_le _) hi
    · have := (h3 _ e ih).2.1; omega

theorem anc_congr {n : Nat} {f g : Nat → Shp} (h2 : Rule2 f) (h3 : Rule3 n f) (hg : ∀ j, j < n → g j = f j) {i : Nat} (hi : i < n) : ∀ t, anc g i t = anc f i t := by
  intro t
  induction t with
  | zero => rfl
  | succ t ih =>
    show (g (anc g i t)).parent.toNat = (f (anc f i t)).parent.toNat
    rw [ih, hg _ (anc_all h2 h3 hi t)]

theorem plcI_congr {n : Nat} {f g : Nat → Shp} (h2 : Rule2 f) (h3 : Rule3 n f) (hg : ∀ j, j < n → g j = f j) {i : Nat} (hi : i < n) (key : ByteArray) : plcI g i key = plcI f i key := by
  refine Plc.eq ?_
  have ha := anc_congr h2 h3 hg hi
  have hf : ∀ t, g (anc g i t) = f (anc f i t) := fun t => by rw [ha t, hg _ (anc_all h2 h3 hi t)]
  rcases plc_holds f i key with ⟨t, a, b, c, d⟩ | ⟨a, b⟩
  · exact .inl ⟨t, fun s hs => by rw [ha s]; exact a s hs, by rw [hf t]; exact b, fun s hs => by rw [hf s]; exact c s hs, by rw [hf t]; exact d⟩
  · exact .inr ⟨a, fun t ht => by rw [hf t]; exact b t (fun s hs => by rw [← ha s]; exact ht s hs)⟩

theorem grown_lt {f : Nat → Shp} {n k : Nat} {key : ByteArray} : ∀ j, j < n → grown f n k key j = f j := fun j hj => by unfold grown; rw [if_neg (by omega)]
theorem grown_new {f : Nat → Shp} {n k : Nat} {key : ByteArray} : grown f n k key n = ⟨k, key, (f k).count + 1⟩ := by simp [grown]

/-- One shape more, and the forest is sound. -/
theorem grow_sound {n : Nat} {f : Nat → Shp} (h : forestOk n f = 0) {k : Nat} (hk : k < n) {key : ByteArray} (hs : key.size ≤ 4000) (hp : plcI f k key < 0) (hno : ∀ j, ¬ Kid n f k key j) (hc : (f k).count ≠ 12) (hn : n ≠ 200) : forestOk (n + 1) (grown f n k key) = 0 := by
  obtain ⟨h1, h2, h3, h4, h5⟩ := forestOk_zero h
  have hcb := count_bound (k := n) h2 (fun j a b => h3 j a b) k hk
  have hn0 : 0 < n := by omega
  have H1 : Rule1 (n + 1) := ⟨by omega, by have := h1.2; omega⟩
  have H2 : Rule2 (grown f n k key) := by
    unfold Rule2
    rw [grown_lt 0 hn0]
    exact h2
  have H3 : Rule3 (n + 1) (grown f n k key) := by
    intro i hi1 hi
    unfold Ok3
    by_cases e : i = n
    · subst e
      rw [grown_new]
      refine ⟨by show (0 : Int) ≤ k; omega, by show (k : Int) < i; omega, ?_, by show (f k).count + 1 ≤ 12; omega, hs⟩
      show (f k).count + 1 = (grown f i k key ((k : Int).toNat)).count + 1
      rw [Int.toNat_natCast, grown_lt k hk]
    · have hi' : i < n := by omega
      obtain ⟨a, b, c, d, e⟩ := h3 i hi1 hi'
      rw [grown_lt i hi', grown_lt _ (by omega)]
      exact ⟨a, b, c, d, e⟩
  have H4 : Rule4 (n + 1) (grown f n k key) := by
    intro i j hj1 hji hi ht
    unfold Twin at ht
    by_cases e : i = n
    · subst e
      rw [grown_lt j hji, grown_new] at ht
      exact hno j ⟨by omega, hji, ht.1, ht.2⟩
    · rw [grown_lt i (by omega), grown_lt j (by omega)] at ht
      exact h4 i j hj1 hji (by omega) ht
  refine forestOk0 H1 H2 H3 H4 (Classical.byContradiction fun h5' => ?_)
  obtain ⟨i, hi0, hi, hpp⟩ := (repeats_iff H2 H3).2 h5'
  by_cases e : i = n
  · subst e
    have hsp : shPar (grown f i k key) i = k := by unfold shPar; rw [grown_new]; rfl
    rw [hsp, plcI_congr h2 h3 (fun j hj => grown_lt j hj) hk, grown_new] at hpp
    have hpp : 0 ≤ plcI f k key := hpp
    omega
  · have hi' : i < n := by omega
    have hsp : shPar (grown f n k key) i = shPar f i := by unfold shPar; rw [grown_lt i hi']
    have hpn : shPar f i < n := by have := (h3 i hi0 hi').2.1; unfold shPar; omega
    rw [hsp, plcI_congr h2 h3 (fun j hj => grown_lt j hj) hpn, grown_lt i hi'] at hpp
    exact (repeats_iff h2 h3).1 ⟨i, hi0, hi', hpp⟩ h5

/-- A kid's fields: its parent's, and its key behind them. -/
theorem nf_kid {n : Nat} {f : Nat → Shp} (h2 : Rule2 f) (h3 : Rule3 n f) {k r : Nat} {key : ByteArray} (hK : Kid n f k key r) : nf f r = nf f k + 1 := by
  obtain ⟨a, b, c, d⟩ := hK
  have h := (h3 r a b).2.2.1
  have hp := (h3 r a b).2.1
  rw [c] at h hp
  have hk : k < n := by omega
  have := (count_bound (k := n) h2 (fun j a b => h3 j a b) k hk).1
  unfold nf
  rw [h]
  show ((f k).count + 1).toNat = _
  omega

theorem anc_kid {n : Nat} {f : Nat → Shp} {k r : Nat} {key : ByteArray} (hK : Kid n f k key r) : ∀ t, anc f r (t + 1) = anc f k t := by
  intro t
  induction t with
  | zero => show (f r).parent.toNat = k; rw [hK.2.2.1]; rfl
  | succ t ih => show (f (anc f r (t + 1))).parent.toNat = _; rw [ih]; rfl

theorem fld_kid_last {n : Nat} {f : Nat → Shp} (h2 : Rule2 f) (h3 : Rule3 n f) {k r : Nat} {key : ByteArray} (hK : Kid n f k key r) : (fld f r (nf f k)).toList = key.toList := by
  unfold fld
  rw [nf_kid h2 h3 hK, show nf f k + 1 - 1 - nf f k = 0 by omega]
  exact hK.2.2.2

theorem fld_kid {n : Nat} {f : Nat → Shp} (h2 : Rule2 f) (h3 : Rule3 n f) {k r : Nat} {key : ByteArray} (hK : Kid n f k key r) {j : Nat} (hj : j < nf f k) : fld f r j = fld f k j := by
  unfold fld
  rw [nf_kid h2 h3 hK, show nf f k + 1 - 1 - j = (nf f k - 1 - j) + 1 by omega, anc_kid hK]

theorem nf_congr {n : Nat} {f g : Nat → Shp} (hg : ∀ j, j < n → g j = f j) {i : Nat} (hi : i < n) : nf g i = nf f i := by unfold nf; rw [hg i hi]
theorem fld_congr {n : Nat} {f g : Nat → Shp} (h2 : Rule2 f) (h3 : Rule3 n f) (hg : ∀ j, j < n → g j = f j) {i : Nat} (hi : i < n) (j : Nat) : fld g i j = fld f i j := by
  unfold fld
  rw [nf_congr hg hi, anc_congr h2 h3 hg hi, hg _ (anc_all h2 h3 hi _)]

/-- What is true of a forest that Grow has answered, where there is a shape. -/
theorem grown_facts {n : Nat} {f : Nat → Shp} {i : Int} {key : ByteArray} {n' : Nat} {f' : Nat → Shp} {r : Int} (h : Grw n f i key n' f' r) (hr : 0 ≤ r) :
    ∃ k q : Nat, i = k ∧ r = q ∧ k < n ∧ q < n' ∧ forestOk n f = 0 ∧ forestOk n' f' = 0 ∧ key.size ≤ 4000 ∧ nf f' q = nf f k + 1 ∧ (fld f' q (nf f k)).toList = key.toList ∧ (∀ j, j < nf f k → fld f' q j = fld f k j) ∧ Grw n' f' i key n' f' r := by
  rcases h with ⟨_, _, _, rfl⟩ | ⟨hb, hG⟩
  · omega
  have hg : Good n f i := Classical.byContradiction fun h => hb (.inl h)
  have hs : key.size ≤ 4000 := Nat.le_of_not_lt fun h => hb (.inr (.inl h))
  have hp : plcI f i.toNat key < 0 := Int.not_le.1 fun h => hb (.inr (.inr h))
  obtain ⟨k, hk⟩ : ∃ k : Nat, i = k := ⟨i.toNat, by have := hg.2.1; omega⟩
  subst hk
  have hkn : k < n := by have := hg.2.2; omega
  have hp : plcI f k key < 0 := hp
  obtain ⟨h1, h2, h3, h4, h5⟩ := forestOk_zero hg.1
  rcases hG with ⟨j, hK, rfl, rfl, rfl⟩ | ⟨_, _, rfl, _, _⟩ | ⟨hno, hc, hn, rfl, rfl, rfl⟩
  · exact ⟨k, j, rfl, rfl, hkn, hK.2.1, hg.1, hg.1, hs, nf_kid h2 h3 hK, fld_kid_last h2 h3 hK, fun q hq => fld_kid h2 h3 hK hq, .inr ⟨hb, .inl ⟨j, hK, rfl, rfl, rfl⟩⟩⟩
  · omega
  · have hno : ∀ j, ¬ Kid n f k key j := hno
    have hc : (f k).count ≠ 12 := hc
    have hsound := grow_sound hg.1 hkn hs hp hno hc hn
    obtain ⟨H1, H2, H3, H4, H5⟩ := forestOk_zero hsound
    have hK : Kid (n + 1) (grown f n k key) k key n := ⟨by omega, by omega, by rw [grown_new], by rw [grown_new]⟩
    have hcg : ∀ j, j < n → grown f n k key j = f j := fun j hj => grown_lt j hj
    refine ⟨k, n, rfl, rfl, hkn, by omega, hg.1, hsound, hs, ?_, ?_, fun j hj => ?_, .inr ⟨?_, .inl ⟨n, hK, rfl, rfl, rfl⟩⟩⟩
    · show nf (grown f n k key) n = _
      rw [nf_kid H2 H3 hK, nf_congr hcg hkn]
    · show (fld (grown f n k key) n (nf f k)).toList = _
      rw [← nf_congr hcg hkn]; exact fld_kid_last H2 H3 hK
    · show fld (grown f n k key) n j = _
      rw [fld_kid H2 H3 hK (by rw [nf_congr hcg hkn]; exact hj), fld_congr h2 h3 hcg hkn]
    · rintro (h | h | h)
      · exact h ⟨hsound, by omega, by omega⟩
      · omega
      · have h : 0 ≤ plcI (grown f n k key) k key := h
        rw [plcI_congr h2 h3 hcg hkn] at h
        omega
end Go.Proofs.Ytgiegkigfokdmaa
