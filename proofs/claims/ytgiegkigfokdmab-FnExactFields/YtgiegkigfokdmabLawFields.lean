/-
  The law of Fields: the walk.
-/
import Derived.Test.YtgiegkigfokdmabLawForestOk
import Derived.Test.YtgiegkigfokdmabFoE
namespace Go.Proofs.Ytgiegkigfokdmab
open Go.RowKit
set_option linter.unusedVariables false

/-- The fields of a shape, or nothing, in a block from lo to below hi; what its strings are. -/
def FV (g : Nat → ByteArray) (n : Nat) (f : Nat → Shp) (i : Int) (w : World) (v : Value) (lo hi : Nat) : Prop :=
  (¬ Good n f i ∧ v = .slice none 0 0) ∨ (Good n f i ∧ ∃ b, v = .slice (some ⟨b, 0, none⟩) (nf f i.toNat) (nf f i.toNat) ∧ lo ≤ b ∧ b < hi ∧ StRow w b (nf f i.toNat) g)

open Classical in
noncomputable def lenF (n : Nat) (f : Nat → Shp) (i : Int) : Nat := if Good n f i then nf f i.toNat else 0

theorem nf_bound {n : Nat} {f : Nat → Shp} {i : Int} (h : Good n f i) : nf f i.toNat ≤ 12 := by
  obtain ⟨h1, h2, h3, _⟩ := forestOk_zero h.1
  have := (count_bound (k := n) h2 (fun j h1 h2 => h3 j h1 h2) i.toNat (by have := h.2; omega)).2
  unfold nf
  omega

theorem FV.keep {g : Nat → ByteArray} {n : Nat} {f : Nat → Shp} {i : Int} {w w' : World} {v : Value} {lo hi : Nat} (h : FV g n f i w v lo hi) (hk : ∀ b, lo ≤ b → b < hi → w'.heap[b]? = w.heap[b]?) : FV g n f i w' v lo hi := by
  rcases h with h | ⟨h, b, h1, h2, h3, h4⟩
  · exact .inl h
  · exact .inr ⟨h, b, h1, h2, h3, World.rowIs.of_block h4 (hk b h2 h3)⟩

theorem FV.below {g : Nat → ByteArray} {n : Nat} {f : Nat → Shp} {i : Int} {w w' : World} {v : Value} {lo hi B : Nat} (h : FV g n f i w v lo hi) (hb : Below B w w') (hB : hi ≤ B) : FV g n f i w' v lo hi := h.keep fun b _ h2 => hb.block b (by omega)

theorem eqFV {n : Nat} {f : Nat → Shp} {i : Int} {w : World} {v v' : Value} {lo hi lo' hi' : Nat} (h : FV (fld f i.toNat) n f i w v lo hi) (h' : FV (fld f i.toNat) n f i w v' lo' hi') :
    Calls Try.prog 15 #[v, v'] w fun e w' => e = .returned (.bool true) ∧ Below w.heap.size w w' := by
  rcases h with ⟨hg, rfl⟩ | ⟨hg, b, rfl, _, _, hr⟩
  · rcases h' with ⟨_, rfl⟩ | ⟨hg', _⟩
    · exact (eqStringS_nil w).mono fun e w' h => ⟨h.1, by rw [h.2]; exact Below.refl _ _⟩
    · exact absurd hg' hg
  · rcases h' with ⟨hg', _⟩ | ⟨_, b', rfl, _, _, hr'⟩
    · exact absurd hg hg'
    · exact eqStringS_same b b' _ _ _ _ w hr hr' (by have := nf_bound hg; omega)

theorem markFV {n : Nat} {f : Nat → Shp} {i : Int} {w : World} {v : Value} {lo hi : Nat} (h : FV (fld f i.toNat) n f i w v lo hi) (hl : lo ≤ w.heap.size) :
    Calls Try.prog 17 #[v, .int .i64 1] w fun e w' => (e = .returned (.int .i64 (1 + (lenF n f i : Int))) ∧ FV (fun j => mark (1 + j)) n f i w' v lo hi) ∧ Below lo w w' := by
  rcases h with ⟨hg, rfl⟩ | ⟨hg, b, rfl, h1, h2, hr⟩
  · refine (markStringS_nil w).mono fun e w' h => ?_
    rw [h.2]
    exact ⟨⟨by rw [h.1]; unfold lenF; rw [if_neg hg]; rfl, .inl ⟨hg, rfl⟩⟩, Below.refl _ _⟩
  · refine (markStringS_any b _ _ _ w hr (by have := nf_bound hg; omega)).mono fun e w' h => ?_
    exact ⟨⟨by rw [h.1]; unfold lenF; rw [if_pos hg], .inr ⟨hg, b, rfl, h1, h2, h.2.2⟩⟩, h.2.1.below h1 hl⟩

theorem heldFV {n : Nat} {f : Nat → Shp} {i : Int} {w : World} {v : Value} {lo hi : Nat} (h : FV (fun j => mark (1 + j)) n f i w v lo hi) :
    Calls Try.prog 18 #[v, .int .i64 1] w fun e w' => e = .returned (.int .i64 (1 + (lenF n f i : Int))) ∧ Below w.heap.size w w' := by
  rcases h with ⟨hg, rfl⟩ | ⟨hg, b, rfl, h1, h2, hr⟩
  · refine (heldStringS_nil w).mono fun e w' h => ?_
    rw [h.2]
    exact ⟨by rw [h.1]; unfold lenF; rw [if_neg hg]; rfl, Below.refl _ _⟩
  · refine (heldStringS_any b _ _ w hr (by have := nf_bound hg; omega)).mono fun e w' h => ?_
    exact ⟨by rw [h.1]; unfold lenF; rw [if_pos hg], h.2⟩

theorem specFV (b n cap : Nat) (i : Int) (f : Nat → Shp) (w : World) (hA : ShRow w b n f) (hn : n ≤ 1048576) :
    Calls Try.prog 13 #[.agg #[.slice (some ⟨b, 0, none⟩) n cap], .int .i64 i] w fun e w' => (∃ v, e = .returned v ∧ FV (fld f i.toNat) n f i w' v w.heap.size w'.heap.size) ∧ Below w.heap.size w w' := by
  by_cases hg : Good n f i
  · obtain ⟨k, hk⟩ : ∃ k : Nat, i = k := ⟨i.toNat, by have := hg.2.1; omega⟩
    subst hk
    refine (specFields_good b n cap k f w hA hn hg).mono fun e w' h => ?_
    obtain ⟨⟨m, he, hm, hr⟩, hb⟩ := h
    exact ⟨⟨_, he, .inr ⟨hg, m, rfl, hm, World.rowIs.lt hr, hr⟩⟩, hb⟩
  · refine (specFields_bad b n cap i f w hA hn hg).mono fun e w' h => ?_
    exact ⟨⟨_, h.1, .inl ⟨hg, rfl⟩⟩, h.2⟩

theorem implFV (b n cap : Nat) (i : Int) (f : Nat → Shp) (w : World) (hA : ShRow w b n f) (hn : n ≤ 1048576) :
    Calls Try.prog 14 #[.agg #[.slice (some ⟨b, 0, none⟩) n cap], .int .i64 i] w fun e w' => (∃ v, e = .returned v ∧ FV (fld f i.toNat) n f i w' v w.heap.size w'.heap.size) ∧ Below w.heap.size w w' := by
  refine (implFields_any b n cap i f w hA hn).mono fun e w' h => ?_
  obtain ⟨h, hb⟩ := h
  rcases h with ⟨he, hg⟩ | ⟨m, hg, he, hm, hr⟩
  · exact ⟨⟨_, he, .inl ⟨hg, rfl⟩⟩, hb⟩
  · exact ⟨⟨_, he, .inr ⟨hg, m, rfl, hm, World.rowIs.lt hr, hr⟩⟩, hb⟩

set_option maxRecDepth 100000 in
set_option maxHeartbeats 4000000 in
theorem law_fields (a : Option Addr) (n cap : Nat) (i : Int) (f : Nat → Shp) (w : World) (hA : ShAt w a n f) (hn : n ≤ maxLen) (hk : ∀ i, i < n → (f i).key.size ≤ maxLen) :
    Calls Try.prog 4 #[Fo a n cap, .int .i64 i] w fun e w' => e = .returned (.bool true) ∧ Below w.heap.size w w' := by
  have HA := hide hA
  have HK := hide hk
  clear hA hk
  have hb0 : Below w.heap.size w (w.alloc (.cells #[.slice a n cap] 24)) := (Below.refl _ _).alloc (Nat.le_refl _) _
  go_enter Try.func4, Try.ntmps4
  go_wp2_with fail
  refine (szForest_any a n cap f _ ((unhide HA).below hb0 rfl) hn (unhide HK)).mono ?_
  rintro e w1 ⟨⟨r, rfl, hr⟩, hb1⟩
  obtain ⟨hc1, hf1⟩ := bcell hb1
  have hz1 := hb1.size
  simp at hz1
  have y1 : w.heap.size < w1.heap.size := by omega
  have a1 : w1.cell? ⟨w.heap.size, 0, none⟩ = some (.slice a n cap) := by rw [hc1 _ _ (by simp)]; simp [go_sem]
  have HB1 := hide (hb0.trans (hb1.mono hb0.size))
  clear hb1 hc1 hf1 hz1 hb0
  rcases hr with rfl | ⟨hr0, hr1, hL⟩
  · go_wp2
    go_ret
    exact ⟨rfl, unhide HB1⟩
  have hn' : n ≤ 1048576 := hL.1
  clear hL
  go_wp2_with fail
  refine (toForest_any a n cap f _ ((unhide HA).below (unhide HB1) rfl) hn').mono ?_
  rintro e w2 ⟨⟨m, rfl, hm, hrow⟩, hb2⟩
  have a2 := (hb2.cell (p := ⟨w.heap.size, 0, none⟩) y1).trans a1
  have y2 : w.heap.size < w2.heap.size := Nat.lt_of_lt_of_le y1 hb2.size
  have HB2 := hide ((unhide HB1).trans (hb2.mono (unhide HB1).size))
  have HR := hide hrow
  clear hb2 hrow a1
  go_wp2_with fail
  refine (specFV m n n i f _ (unhide HR) hn').mono ?_
  rintro e w3 ⟨⟨v3, rfl, hv3⟩, hb3⟩
  have a3 := (hb3.cell (p := ⟨w.heap.size, 0, none⟩) y2).trans a2
  have y3 : w.heap.size < w3.heap.size := Nat.lt_of_lt_of_le y2 hb3.size
  have HB3 := hide ((unhide HB2).trans (hb3.mono (unhide HB2).size))
  have HV3 := hide hv3
  clear hb3 HR a2 hv3
  go_wp2_with fail
  refine (toForest_any a n cap f _ ((unhide HA).below (unhide HB3) rfl) hn').mono ?_
  rintro e w4 ⟨⟨m4, rfl, hm4, hrow⟩, hb4⟩
  have a4 := (hb4.cell (p := ⟨w.heap.size, 0, none⟩) y3).trans a3
  have y4 : w.heap.size < w4.heap.size := Nat.lt_of_lt_of_le y3 hb4.size
  have HB4 := hide ((unhide HB3).trans (hb4.mono (unhide HB3).size))
  have HV4 := hide ((unhide HV3).below hb4 (Nat.le_refl _))
  have z34 : w3.heap.size ≤ w4.heap.size := hb4.size
  have HR := hide hrow
  have hm4l := ShRow.lt hrow
  clear hb4 hrow a3 HV3
  go_wp2_with fail
  refine (implFV m4 n n i f _ ((unhide HR).alloc _) hn').mono ?_
  rintro e w5 ⟨⟨v5, rfl, hv5⟩, hb5⟩
  obtain ⟨hc5, hf5⟩ := bcell hb5
  have hz5 := hb5.size
  simp at hz5
  have a5 : w5.cell? ⟨w.heap.size, 0, none⟩ = some (.slice a n cap) := by rw [hc5 _ _ (by simp; omega)]; simp [go_sem, y4, a4]
  have x5 : w5.cell? ⟨w4.heap.size, 0, none⟩ = some (.slice (some ⟨m4, 0, none⟩) n n) := by rw [hc5 _ _ (by simp)]; simp [go_sem]
  have y5 : w.heap.size < w5.heap.size := by omega
  have z5 : w4.heap.size < w5.heap.size := by omega
  have hrx : ShRow (w4.alloc (.cells #[.slice (some ⟨m4, 0, none⟩) n n] 29)) m4 n f := ShRow.alloc (unhide HR) _
  have HR5 := hide (hrx.below hb5 (by simp; omega))
  have HB5 := hide (((unhide HB4).alloc (by omega) (.cells #[.slice (some ⟨m4, 0, none⟩) n n] 29)).trans (hb5.mono (by simp; omega)))
  have HV35 := hide (((unhide HV4).keep (w' := w4.alloc (.cells #[.slice (some ⟨m4, 0, none⟩) n n] 29)) (fun b _ h2 => Deep.blk_alloc_lt _ _ _ (by omega))).below hb5 (by simp; omega))
  have hv5' : FV (fld f i.toNat) n f i w5 v5 (w4.heap.size + 1) w5.heap.size := by simpa using hv5
  have HV5 := hide hv5'
  clear hb5 hc5 hf5 a4 HR hrx hz5 hv5 hv5' HV4
  go_wp2_with fail
  refine (eqFV (unhide HV5) (unhide HV35)).mono ?_
  rintro e w6 ⟨rfl, hb6⟩
  have a6 := (hb6.cell (p := ⟨w.heap.size, 0, none⟩) y5).trans a5
  have x6 := (hb6.cell (p := ⟨w4.heap.size, 0, none⟩) z5).trans x5
  have y6 := Nat.lt_of_lt_of_le y5 hb6.size
  have z6 := Nat.lt_of_lt_of_le z5 hb6.size
  have z56 := hb6.size
  have HR6 := hide (ShRow.below (unhide HR5) hb6 (ShRow.lt (unhide HR5)))
  have HB6 := hide ((unhide HB5).trans (hb6.mono (unhide HB5).size))
  have HV36 := hide ((unhide HV35).below hb6 (by omega))
  have HV56 := hide ((unhide HV5).below hb6 (Nat.le_refl _))
  clear hb6 a5 x5 HR5 HB5 HV35 HV5
  go_wp2
  have HBd : Hid (Below w.heap.size w w6.drew) := hide (unhide HB6).drew
  have HRd : Hid (ShRow w6.drew m4 n f) := hide (unhide HR6)
  have ad : w6.drew.cell? ⟨w.heap.size, 0, none⟩ = some (.slice a n cap) := a6
  have xd : w6.drew.cell? ⟨w4.heap.size, 0, none⟩ = some (.slice (some ⟨m4, 0, none⟩) n n) := x6
  have HV3d : Hid (FV (fld f i.toNat) n f i w6.drew v3 w2.heap.size w3.heap.size) := hide ((unhide HV36).keep fun b _ _ => rfl)
  have HV5d : Hid (FV (fld f i.toNat) n f i w6.drew v5 (w4.heap.size + 1) w5.heap.size) := hide ((unhide HV56).keep fun b _ _ => rfl)
  go_region_held3 (fun w' => w'.cell? ⟨w.heap.size, 0, none⟩ = some (.slice a n cap) ∧ w'.cell? ⟨w4.heap.size, 0, none⟩ = some (.slice (some ⟨m4, 0, none⟩) n n)) (first | exact ⟨by assumption, by assumption⟩ | go_keep)
    (first
      | (go_at_call 10; refine (toForest_any a n cap f _ ((unhide HA).below (unhide HBd) rfl) hn').mono ?_; rintro e w7 ⟨⟨m7, rfl, hm7, hrow7⟩, hb7⟩; have a7 := (hb7.cell (p := ⟨w.heap.size, 0, none⟩) y6).trans ad; have x7 := (hb7.cell (p := ⟨w4.heap.size, 0, none⟩) z6).trans xd; have y7 := Nat.lt_of_lt_of_le y6 hb7.size; have z7 := Nat.lt_of_lt_of_le z6 hb7.size; have z67 : w6.heap.size ≤ w7.heap.size := hb7.size; have HR7 := hide hrow7; have HX7 := hide (ShRow.below (unhide HRd) hb7 (ShRow.lt (unhide HRd))); have HB7 := hide ((unhide HBd).trans (hb7.mono (unhide HBd).size)); have HV37 := hide ((unhide HV3d).below hb7 (by show _ ≤ w6.heap.size; omega)); have HV57 := hide ((unhide HV5d).below hb7 (by show _ ≤ w6.heap.size; omega)); clear hrow7 hb7)
      | (go_at_call 12; refine (eqForest_same m4 m7 n n n f f _ (unhide HX7) (unhide HR7) hn' (fun i hi => ⟨rfl, rfl, rfl⟩)).mono ?_; rintro e w8 ⟨rfl, hb8⟩; have a8 := (hb8.cell (p := ⟨w.heap.size, 0, none⟩) y7).trans a7; have x8 := (hb8.cell (p := ⟨w4.heap.size, 0, none⟩) z7).trans x7; have z78 : w7.heap.size ≤ w8.heap.size := hb8.size; have HX8 := hide (ShRow.below (unhide HX7) hb8 (ShRow.lt (unhide HX7))); have HB8 := hide ((unhide HB7).trans (hb8.mono (unhide HB7).size)); have HV38 := hide ((unhide HV37).below hb8 (by omega)); have HV58 := hide ((unhide HV57).below hb8 (by omega)); clear hb8))
  clear HBd HRd ad xd HV3d HV5d HR7 HX7 HB7 HV37 HV57 a6 x6 HR6 HB6 HV36 HV56
  go_wp2_with fail
  refine (markForest_any m4 n n f _ (unhide HX8) hn').mono ?_
  rintro e w9 ⟨rfl, hb9⟩
  have z49 : w8.heap.size ≤ w9.heap.size := hb9.size
  have a9 : w9.cell? ⟨w.heap.size, 0, none⟩ = some (.slice a n cap) := (World.cell?_of_block (hb9.block _ (by show w.heap.size < w8.heap.size; omega) (by show w.heap.size ≠ m4; omega))).trans a8
  have HB9 := hide ((unhide HB8).trans (hb9.below (by omega) (unhide HB8).size))
  have HV39 := hide ((unhide HV38).keep (w' := w9) (fun b h1 h2 => hb9.block b (by omega) (by omega)))
  have HV59 := hide ((unhide HV58).keep (w' := w9) (fun b h1 h2 => hb9.block b (by omega) (by omega)))
  have hk9 : ¬ (1 + 3 * (n : Int)) < 0 := by omega
  have hd9 : decide ((1 + 3 * (n : Int)) < 0) = false := by simp; omega
  obtain ⟨k9, hk9'⟩ : ∃ k9 : Int, k9 = 1 + 3 * (n : Int) := ⟨_, rfl⟩
  rw [← hk9'] at hk9 hd9 ⊢
  clear hk9' hb9 a8 x8 HX8 HB8 HV38 HV58
  go_wp2_with fail
  refine (eqFV (unhide HV59) (unhide HV39)).mono ?_
  rintro e w10 ⟨rfl, hb10⟩
  have z910 : w9.heap.size ≤ w10.heap.size := hb10.size
  have a10 := (hb10.cell (p := ⟨w.heap.size, 0, none⟩) (by show w.heap.size < w9.heap.size; omega)).trans a9
  have HB10 := hide ((unhide HB9).trans (hb10.mono (unhide HB9).size))
  have HV310 := hide ((unhide HV39).below hb10 (by omega))
  have HV510 := hide ((unhide HV59).below hb10 (by omega))
  clear hb10 a9 HB9 HV39 HV59
  go_wp2_with fail
  refine (markFV (unhide HV510) (by omega)).mono ?_
  rintro e w11 ⟨⟨rfl, hv11⟩, hb11⟩
  obtain ⟨q, hq⟩ : ∃ q : Int, q = 1 + (lenF n f i : Int) := ⟨_, rfl⟩
  have hq0 : ¬ q < 0 := by omega
  rw [← hq]
  have z1011 : w10.heap.size ≤ w11.heap.size := hb11.size
  have a11 := (hb11.cell (p := ⟨w.heap.size, 0, none⟩) (by show w.heap.size < w4.heap.size + 1; omega)).trans a10
  have HB11 := hide ((unhide HB10).trans (hb11.mono (by omega)))
  have HV311 := hide ((unhide HV310).below hb11 (by omega))
  have HM11 := hide hv11
  have HQ := hide hq
  clear hb11 a10 HB10 HV310 HV510 hv11 hq
  go_wp2_with fail
  refine (heldFV (unhide HM11)).mono ?_
  rintro e w12 ⟨rfl, hb12⟩
  rw [← unhide HQ]
  have z1112 : w11.heap.size ≤ w12.heap.size := hb12.size
  have a12 := (hb12.cell (p := ⟨w.heap.size, 0, none⟩) (by show w.heap.size < w11.heap.size; omega)).trans a11
  have HB12 := hide ((unhide HB11).trans (hb12.mono (unhide HB11).size))
  have HV312 := hide ((unhide HV311).below hb12 (by omega))
  have HM12 := hide ((unhide HM11).below hb12 (by omega))
  clear hb12 a11 HB11 HV311 HM11
  go_wp2_with fail
  refine (toForest_any a n cap f _ ((unhide HA).below (unhide HB12) rfl) hn').mono ?_
  rintro e w13 ⟨⟨m13, rfl, hm13, hrow13⟩, hb13⟩
  have z1213 : w12.heap.size ≤ w13.heap.size := hb13.size
  have HB13 := hide ((unhide HB12).trans (hb13.mono (unhide HB12).size))
  have HV313 := hide ((unhide HV312).below hb13 (by omega))
  have HM13 := hide ((unhide HM12).below hb13 (by omega))
  have HR13 := hide hrow13
  clear hb13 a12 HB12 HV312 HM12 hrow13
  go_wp2_with fail
  refine (implFV m13 n n i f _ (unhide HR13) hn').mono ?_
  rintro e w14 ⟨⟨v14, rfl, hv14⟩, hb14⟩
  have z1314 : w13.heap.size ≤ w14.heap.size := hb14.size
  have HB14 := hide ((unhide HB13).trans (hb14.mono (unhide HB13).size))
  have HV314 := hide ((unhide HV313).below hb14 (by omega))
  have HM14 := hide ((unhide HM13).below hb14 (by omega))
  have HV14 := hide hv14
  clear hb14 HB13 HV313 HM13 HR13 hv14
  go_wp2_with fail
  refine (eqFV (unhide HV14) (unhide HV314)).mono ?_
  rintro e w15 ⟨rfl, hb15⟩
  have z1415 : w14.heap.size ≤ w15.heap.size := hb15.size
  have HB15 := hide ((unhide HB14).trans (hb15.mono (unhide HB14).size))
  have HM15 := hide ((unhide HM14).below hb15 (by omega))
  clear hb15 HB14 HM14 HV14 HV314
  go_wp2_with fail
  refine (heldFV (unhide HM15)).mono ?_
  rintro e w16 ⟨rfl, hb16⟩
  rw [← unhide HQ]
  have HB16 := hide ((unhide HB15).trans (hb16.mono (unhide HB15).size))
  clear hb16 HB15 HM15
  go_wp2
  go_ret
  exact ⟨rfl, unhide HB16⟩
end Go.Proofs.Ytgiegkigfokdmab
