/-
  Shapes: the place of a field, as the model looks for it.
-/
import Derived.Test.YtgiegkigfokdmabNodI
namespace Go.Proofs.Ytgiegkigfokdmab
open Go.RowKit
set_option linter.unusedVariables false

theorem anc_add (f : Nat → Shp) (i t : Nat) : ∀ s, anc f (anc f i t) s = anc f i (t + s)
  | 0 => rfl
  | s + 1 => by
    show (f (anc f (anc f i t) s)).parent.toNat = _
    rw [anc_add f i t s]
    rfl

theorem anc_pos {n : Nat} {f : Nat → Shp} (h2 : Rule2 f) (h3 : Rule3 n f) {i : Nat} (hi : i < n) {t : Nat} (ht : t < nf f i) : 0 < anc f i t := by
  have := (anc_bound h2 h3 hi t (by omega)).2
  rcases Nat.eq_zero_or_pos (anc f i t) with e | e
  · rw [e, h2.2.2] at this; omega
  · exact e

theorem anc_ends {n : Nat} {f : Nat → Shp} (h2 : Rule2 f) (h3 : Rule3 n f) {i : Nat} (hi : i < n) {t : Nat} (ht : ∀ s, s ≤ t → 0 < anc f i s) : t < nf f i := by
  by_cases h : t < nf f i
  · exact h
  · obtain ⟨a, b⟩ := anc_bound h2 h3 hi (nf f i) (Nat.le_refl _)
    have := (count_pos h2 h3 a (ht (nf f i) (by omega))).1
    omega

/-- No field stands twice. -/
theorem anc_apart {n : Nat} {f : Nat → Shp} (h2 : Rule2 f) (h3 : Rule3 n f) (h5 : Rule5 n f) {i : Nat} (hi : i < n) {t u : Nat} (htu : t < u) (hu : u < nf f i) : (f (anc f i t)).key.toList ≠ (f (anc f i u)).key.toList := by
  intro e
  have h0 := anc_pos h2 h3 hi (show t < nf f i by omega)
  have ha := (anc_bound h2 h3 hi t (by omega)).1
  have hs : shPar f (anc f i t) = anc f i (t + 1) := rfl
  have hsn : shPar f (anc f i t) < n := by have := (h3 _ h0 ha).2.1; unfold shPar; omega
  refine (repeats_iff h2 h3).1 ⟨anc f i t, h0, ha, ?_⟩ h5
  refine (plc_pos h2 h3 hsn _).2 ⟨u - t - 1, fun s hs' => ?_, ?_⟩
  · rw [hs, anc_add]; exact anc_pos h2 h3 hi (by omega)
  · rw [hs, anc_add, show t + 1 + (u - t - 1) = u by omega]; exact e.symm

theorem plc_at {n : Nat} {f : Nat → Shp} (h2 : Rule2 f) (h3 : Rule3 n f) (h5 : Rule5 n f) {i : Nat} (hi : i < n) (key : ByteArray) {j : Nat} (hj : j < nf f i) (e : (fld f i j).toList = key.toList) : plcI f i key = j := by
  have hp := plc_holds f i key
  have hpos : ∀ s, s ≤ nf f i - 1 - j → 0 < anc f i s := fun s hs => anc_pos h2 h3 hi (by omega)
  have e' : (f (anc f i (nf f i - 1 - j))).key.toList = key.toList := e
  rcases hp with ⟨t, a, b, _, d⟩ | ⟨_, c⟩
  · have ht := anc_ends h2 h3 hi a
    have : t = nf f i - 1 - j := by
      rcases Nat.lt_trichotomy t (nf f i - 1 - j) with h | h | h
      · exact absurd (b.trans e'.symm) (anc_apart h2 h3 h5 hi h (by omega))
      · exact h
      · exact absurd (e'.trans b.symm) (anc_apart h2 h3 h5 hi h ht)
    have hc := (anc_bound h2 h3 hi t (by omega)).2
    rw [d, hc]
    omega
  · exact absurd e' (c _ hpos)

theorem plc_none {n : Nat} {f : Nat → Shp} (h2 : Rule2 f) (h3 : Rule3 n f) {i : Nat} (hi : i < n) (key : ByteArray) (hno : ∀ j, j < nf f i → (fld f i j).toList ≠ key.toList) : plcI f i key = -1 := by
  have hp := plc_holds f i key
  rcases hp with ⟨t, a, b, _, d⟩ | ⟨c, _⟩
  · have ht := anc_ends h2 h3 hi a
    refine absurd ?_ (hno (nf f i - 1 - t) (by omega))
    show (f (anc f i (nf f i - 1 - (nf f i - 1 - t)))).key.toList = _
    rw [show nf f i - 1 - (nf f i - 1 - t) = t by omega]
    exact b
  · exact c

set_option maxRecDepth 100000 in
set_option maxHeartbeats 1000000 in
theorem l2at_any (b n cap i : Nat) (key : ByteArray) (f : Nat → Shp) (w : World) (hA : ShRow w b n f) (h1 : Rule1 n) (h2 : Rule2 f) (h3 : Rule3 n f) (h5 : Rule5 n f) (hi : i < n) :
    Calls Try.prog 41 #[.agg #[.slice (some ⟨b, 0, none⟩) n cap], .int .i64 i, .string key] w fun e w' => e = .returned (.int .i64 (plcI f i key)) ∧ Below w.heap.size w w' := by
  have hl := hA.lt
  have hnf : nf f i ≤ 12 := by have := (count_bound (k := n) h2 (fun j h1 h2 => h3 j h1 h2) i hi).2; unfold nf; omega
  obtain ⟨m, hm⟩ : ∃ m, nf f i = m := ⟨_, rfl⟩
  have HM := hide hm
  have HA := hide hA
  have H1 := hide h1
  have H2 := hide h2
  have H3 := hide h3
  have H5 := hide h5
  have hm12 : m ≤ 12 := by omega
  clear hA h1 h2 h3 h5 hm hnf
  have hb0 : Below w.heap.size w (w.alloc (.cells #[.slice (some ⟨b, 0, none⟩) n cap] 29)) := (Below.refl _ _).alloc (Nat.le_refl _) _
  go_enter Try.func41, Try.ntmps41
  go_wp2_with fail
  refine (l2fields_any b n cap i f _ ((unhide HA).below hb0 hl) (unhide H1) (unhide H2) (unhide H3) hi).mono ?_
  rintro e w1 ⟨⟨g, rfl, hg, hr⟩, hb1⟩
  rw [unhide HM] at hr ⊢
  have hgl := World.rowIs.lt hr
  have HB1 := hide (hb0.trans (hb1.mono hb0.size))
  have HR := hide hr
  clear hb1 hb0 hr
  go_wp2
  go_loopw [13] (fun v wr => ∃ k : Nat, k ≤ m ∧ v = .int .i64 k ∧ wr = w1 ∧ ∀ j, j < k → (fld f i j).toList ≠ key.toList) (fun v _ => m - (intOf v).toNat)
  case atStart => exact ⟨0, by omega, rfl, rfl, fun j hj => by omega⟩
  case round =>
    obtain ⟨k, hk, rfl, hw, hall⟩ := hrel
    subst hw
    have c0 : k < m → wr.cell? ⟨g, k, none⟩ = some (.string (fld f i k)) := fun h => World.rowIs.cell (unhide HR) h
    have HALL := hide hall
    clear hall
    by_cases hkm : k < m
    · have d0 := c0 hkm
      clear c0
      by_cases hK : (fld f i k).toList = key.toList
      · have hd : ((fld f i k).toList == key.toList) = true := by simp [hK]
        have HP := hide (plc_at (unhide H2) (unhide H3) (unhide H5) hi key (by rw [unhide HM]; exact hkm) hK)
        clear hK
        go_wp2
        go_ret
        exact ⟨by rw [unhide HP]; rfl, unhide HB1⟩
      · have hd : ((fld f i k).toList == key.toList) = false := by simp [hK]
        have HK := hide hK
        clear hK
        go_wp2
        go_roundw
        case rel =>
          refine ⟨k + 1, by omega, by go_num, trivial, fun j hj => ?_⟩
          by_cases e : j = k
          · rw [e]; exact unhide HK
          · exact unhide HALL j (by omega)
        case measure => simp [intOf]; omega
    · have HP := hide (plc_none (unhide H2) (unhide H3) hi key (fun j hj => unhide HALL j (by rw [unhide HM] at hj; omega)))
      go_wp2
      go_ret
      exact ⟨by rw [unhide HP]; rfl, unhide HB1⟩

set_option maxRecDepth 100000 in
set_option maxHeartbeats 1000000 in
theorem specFieldAt_any (b n cap : Nat) (i : Int) (key : ByteArray) (f : Nat → Shp) (w : World) (hA : ShRow w b n f) (hn : n ≤ 1048576) :
    Calls Try.prog 19 #[.agg #[.slice (some ⟨b, 0, none⟩) n cap], .int .i64 i, .string key] w fun e w' => ((e = .returned (.int .i64 (-1)) ∧ ¬ Good n f i) ∨ (Good n f i ∧ e = .returned (.int .i64 (plcI f i.toNat key)))) ∧ Below w.heap.size w w' := by
  have hl := hA.lt
  have HA := hide hA
  clear hA
  have hb0 : Below w.heap.size w (w.alloc (.cells #[.slice (some ⟨b, 0, none⟩) n cap] 29)) := (Below.refl _ _).alloc (Nat.le_refl _) _
  have HB0 := hide hb0
  clear hb0
  go_enter Try.func19, Try.ntmps19
  go_wp2_with fail
  refine (specForestOk b n cap f _ ((unhide HA).below (unhide HB0) hl) hn).mono ?_
  rintro e w1 ⟨rfl, hb1⟩
  obtain ⟨r, hr⟩ : ∃ r, forestOk n f = r := ⟨_, rfl⟩
  rw [hr]
  have HR := hide hr
  clear hr
  obtain ⟨hc1, hf1⟩ := bcell hb1
  have hz1 := hb1.size
  simp at hz1
  have HB1 := hide ((unhide HB0).trans (hb1.mono (unhide HB0).size))
  have y1 : w.heap.size < w1.heap.size := by omega
  have a1 : w1.cell? ⟨w.heap.size, 0, none⟩ = some (.slice (some ⟨b, 0, none⟩) n cap) := by rw [hc1 _ _ (by simp)]; simp [go_sem]
  clear hb1 hc1 hf1 hz1
  by_cases h0 : r = 0
  case neg =>
    have hd : (r != 0) = true := by simp [h0]
    have HG : Hid (¬ Good n f i) := hide (fun h => h0 (by rw [← unhide HR]; exact h.1))
    go_wp2
    go_ret
    exact ⟨.inl ⟨rfl, unhide HG⟩, unhide HB1⟩
  subst h0
  go_wp2_with fail
  refine (l2shape_any b n cap i _).mono ?_
  rintro e w2 ⟨rfl, hb2⟩
  have a2 := (hb2.cell (p := ⟨w.heap.size, 0, none⟩) y1).trans a1
  have HB2 := hide ((unhide HB1).trans (hb2.mono (unhide HB1).size))
  clear hb2 a1
  by_cases hg : 0 ≤ i ∧ i < n
  case neg =>
    have hd : (decide ((0 : Int) ≤ i) && decide ((i : Int) < n)) = false := by simp; omega
    have HG : Hid (¬ Good n f i) := hide (fun h => hg ⟨h.2.1, h.2.2⟩)
    rw [hd]
    go_wp2
    go_ret
    exact ⟨.inl ⟨rfl, unhide HG⟩, unhide HB2⟩
  obtain ⟨k, hk⟩ : ∃ k : Nat, i = k := ⟨i.toNat, by omega⟩
  subst hk
  have hd : (decide ((0 : Int) ≤ k) && decide ((k : Int) < n)) = true := by simp; omega
  rw [hd]
  obtain ⟨h1, h2, h3, _, h5⟩ := forestOk_zero (unhide HR)
  have hkn : k < n := by omega
  have HX := hide (And.intro h1 (And.intro h2 (And.intro h3 h5)))
  clear h1 h2 h3 h5 hg hd
  go_wp2_with fail
  refine (l2at_any b n cap k key f _ ((unhide HA).below (unhide HB2) hl) (unhide HX).1 (unhide HX).2.1 (unhide HX).2.2.1 (unhide HX).2.2.2 hkn).mono ?_
  rintro e w3 ⟨rfl, hb3⟩
  have HB3 := hide ((unhide HB2).trans (hb3.mono (unhide HB2).size))
  clear hb3
  go_wp2
  go_ret
  exact ⟨.inr ⟨⟨unhide HR, by omega, by omega⟩, rfl⟩, unhide HB3⟩
end Go.Proofs.Ytgiegkigfokdmab
