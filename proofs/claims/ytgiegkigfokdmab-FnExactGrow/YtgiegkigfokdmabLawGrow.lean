/-
  The law of Grow: the walk.
-/
import Derived.Test.YtgiegkigfokdmabLawForestOk
import Derived.Test.YtgiegkigfokdmabNodJ
namespace Go.Proofs.Ytgiegkigfokdmab
open Go.RowKit
set_option linter.unusedVariables false

/-- What the law's own variables hold. -/
structure Bag (w : World) (A D X E : Nat) (sa s3 sx s5 : Value) (r : Int) : Prop where
  a : w.cell? ⟨A, 0, none⟩ = some sa
  d0 : w.cell? ⟨D, 0, none⟩ = some s3
  d1 : w.cell? ⟨D, 1, none⟩ = some (.int .i64 r)
  x : w.cell? ⟨X, 0, none⟩ = some sx
  e0 : w.cell? ⟨E, 0, none⟩ = some s5
  e1 : w.cell? ⟨E, 1, none⟩ = some (.int .i64 r)

theorem Bag.keep {w w' : World} {A D X E : Nat} {sa s3 sx s5 : Value} {r : Int} (h : Bag w A D X E sa s3 sx s5 r) (hk : ∀ b, b = A ∨ b = D ∨ b = X ∨ b = E → w'.heap[b]? = w.heap[b]?) : Bag w' A D X E sa s3 sx s5 r :=
  ⟨(World.cell?_of_block (hk A (.inl rfl))).trans h.a, (World.cell?_of_block (hk D (.inr (.inl rfl)))).trans h.d0, (World.cell?_of_block (hk D (.inr (.inl rfl)))).trans h.d1, (World.cell?_of_block (hk X (.inr (.inr (.inl rfl))))).trans h.x, (World.cell?_of_block (hk E (.inr (.inr (.inr rfl))))).trans h.e0, (World.cell?_of_block (hk E (.inr (.inr (.inr rfl))))).trans h.e1⟩

theorem Bag.below {w w' : World} {A D X E B : Nat} {sa s3 sx s5 : Value} {r : Int} (h : Bag w A D X E sa s3 sx s5 r) (hb : Below B w w') (hA : A < B) (hD : D < B) (hX : X < B) (hE : E < B) : Bag w' A D X E sa s3 sx s5 r :=
  h.keep fun b hb' => hb.block b (by rcases hb' with rfl | rfl | rfl | rfl <;> assumption)

set_option maxRecDepth 100000 in
set_option maxHeartbeats 4000000 in
theorem law_grow (a : Option Addr) (n cap : Nat) (i : Int) (key : ByteArray) (f : Nat → Shp) (w : World) (hs : key.size ≤ maxLen) (hA : ShAt w a n f) (hn : n ≤ maxLen) (hk : ∀ i, i < n → (f i).key.size ≤ maxLen) :
    Calls Try.prog 6 #[Fo a n cap, .int .i64 i, .string key] w fun e w' => e = .returned (.bool true) ∧ Below w.heap.size w w' := by
  have HA := hide hA
  have HK := hide hk
  clear hA hk
  have hb0 : Below w.heap.size w (w.alloc (.cells #[.slice a n cap] 24)) := (Below.refl _ _).alloc (Nat.le_refl _) _
  unfold maxLen at hs
  by_cases hlong : (1048576 : Int) < key.size
  · go_enter Try.func6, Try.ntmps6
    go_wp2
    go_ret
    exact ⟨rfl, hb0⟩
  have hks : key.size ≤ 1048576 := by omega
  go_enter Try.func6, Try.ntmps6
  go_wp2_with fail
  refine (szForest_any a n cap f _ ((unhide HA).below hb0 rfl) hn (unhide HK)).mono ?_
  rintro e w1 ⟨⟨r, rfl, hr⟩, hb1⟩
  obtain ⟨hc1, hf1⟩ := bcell hb1
  have hz1 := hb1.size
  simp at hz1
  have y1 : w.heap.size < w1.heap.size := by omega
  have a1 : w1.cell? ⟨w.heap.size, 0, none⟩ = some (.slice a n cap) := by rw [hc1 _ _ (by simp)]; simp [go_sem]
  have HB1 := hide (hb0.trans (hb1.mono hb0.size))
  clear hb1 hc1 hf1 hz1 hb0
  rcases hr with rfl | ⟨hr0, hr1, hL⟩
  · go_wp2
    go_ret
    exact ⟨rfl, unhide HB1⟩
  have hn' : n ≤ 1048576 := hL.1
  clear hL
  go_wp2_with fail
  refine (toForest_any a n cap f _ ((unhide HA).below (unhide HB1) rfl) hn').mono ?_
  rintro e w2 ⟨⟨m, rfl, hm, hrow⟩, hb2⟩
  have a2 := (hb2.cell (p := ⟨w.heap.size, 0, none⟩) y1).trans a1
  have y2 : w.heap.size < w2.heap.size := Nat.lt_of_lt_of_le y1 hb2.size
  have HB2 := hide ((unhide HB1).trans (hb2.mono (unhide HB1).size))
  have HR := hide hrow
  clear hb2 hrow a1
  go_wp2_with fail
  refine (specGrow_any m n n i key f _ (unhide HR) hn' hks).mono ?_
  rintro e w3 ⟨⟨v3, r3, n3, f3, rfl, hgr3, hv3⟩, hb3⟩
  obtain ⟨s3, cp3, rfl⟩ := hv3.form
  have a3 := (hb3.cell (p := ⟨w.heap.size, 0, none⟩) y2).trans a2
  have y3 : w.heap.size < w3.heap.size := Nat.lt_of_lt_of_le y2 hb3.size
  have hn3 : n3 ≤ 1048576 := by have := hgr3.bound; omega
  have HB3 := hide ((unhide HB2).trans (hb3.mono (unhide HB2).size))
  have HV3 := hide hv3
  have HG3 := hide hgr3
  clear hb3 HR a2 hv3 hgr3
  go_wp2_with fail
  obtain ⟨W3, hW3⟩ : ∃ W3, W3 = w3.alloc (.cells #[.slice s3 n3 cp3, .int .i64 r3] 42) := ⟨_, rfl⟩
  rw [← hW3]
  have hb3 : Below w3.heap.size w3 W3 := by rw [hW3]; exact (Below.refl _ _).alloc (Nat.le_refl _) _
  have zW3 : W3.heap.size = w3.heap.size + 1 := by rw [hW3]; simp
  have d30 : W3.cell? ⟨w3.heap.size, 0, none⟩ = some (.slice s3 n3 cp3) := by rw [hW3]; simp [go_sem]
  have d31 : W3.cell? ⟨w3.heap.size, 1, none⟩ = some (.int .i64 r3) := by rw [hW3]; simp [go_sem]
  have a3' := (hb3.cell (p := ⟨w.heap.size, 0, none⟩) y3).trans a3
  have HBW3 := hide ((unhide HB3).trans (hb3.mono (unhide HB3).size))
  have HVW3 := hide ((unhide HV3).below hb3 (Nat.le_refl _))
  clear hW3 hb3 a3 HB3 HV3
  refine (toForest_any a n cap f _ ((unhide HA).below (unhide HBW3) rfl) hn').mono ?_
  rintro e w4 ⟨⟨m4, rfl, hm4, hrow⟩, hb4⟩
  have z34 : W3.heap.size ≤ w4.heap.size := hb4.size
  have a4 := (hb4.cell (p := ⟨w.heap.size, 0, none⟩) (by show w.heap.size < W3.heap.size; omega)).trans a3'
  have d40 := (hb4.cell (p := ⟨w3.heap.size, 0, none⟩) (by show w3.heap.size < W3.heap.size; omega)).trans d30
  have d41 := (hb4.cell (p := ⟨w3.heap.size, 1, none⟩) (by show w3.heap.size < W3.heap.size; omega)).trans d31
  have HB4 := hide ((unhide HBW3).trans (hb4.mono (unhide HBW3).size))
  have HV4 := hide ((unhide HVW3).below hb4 (by omega))
  have HR := hide hrow
  have hm4l := ShRow.lt hrow
  have HZ3 := hide zW3
  have hD4 : w3.heap.size < w4.heap.size := by omega
  have hm43 : w3.heap.size < m4 := by omega
  clear hb4 hrow a3' d30 d31 HBW3 HVW3 zW3 hm4 z34
  go_wp2_with fail
  obtain ⟨W4, hW4⟩ : ∃ W4, W4 = w4.alloc (.cells #[.slice (some ⟨m4, 0, none⟩) n n] 29) := ⟨_, rfl⟩
  rw [← hW4]
  have hb4 : Below w4.heap.size w4 W4 := by rw [hW4]; exact (Below.refl _ _).alloc (Nat.le_refl _) _
  have zW4 : W4.heap.size = w4.heap.size + 1 := by rw [hW4]; simp
  have x4 : W4.cell? ⟨w4.heap.size, 0, none⟩ = some (.slice (some ⟨m4, 0, none⟩) n n) := by rw [hW4]; simp [go_sem]
  have a4' := (hb4.cell (p := ⟨w.heap.size, 0, none⟩) (by show w.heap.size < w4.heap.size; omega)).trans a4
  have d40' := (hb4.cell (p := ⟨w3.heap.size, 0, none⟩) (by exact hD4)).trans d40
  have d41' := (hb4.cell (p := ⟨w3.heap.size, 1, none⟩) (by exact hD4)).trans d41
  have HRW4 := hide (ShRow.below (unhide HR) hb4 hm4l)
  have HBW4 := hide ((unhide HB4).trans (hb4.mono (unhide HB4).size))
  have HVW4 := hide ((unhide HV4).below hb4 (by omega))
  clear hW4 hb4 a4 d40 d41 HB4 HV4 HR
  refine (implGrow_any m4 n n i key f _ (unhide HRW4) hn' hks).mono ?_
  rintro e w5 ⟨⟨v5, r5, n5, f5, rfl, hgr5, hv5⟩, hb5⟩
  obtain ⟨rfl, rfl, rfl⟩ := (unhide HG3).unique hgr5
  obtain ⟨s5, cp5, rfl⟩ := hv5.form
  have z45 : W4.heap.size ≤ w5.heap.size := hb5.size
  have a5 := (hb5.cell (p := ⟨w.heap.size, 0, none⟩) (by show w.heap.size < W4.heap.size; omega)).trans a4'
  have d50 := (hb5.cell (p := ⟨w3.heap.size, 0, none⟩) (by show w3.heap.size < W4.heap.size; omega)).trans d40'
  have d51 := (hb5.cell (p := ⟨w3.heap.size, 1, none⟩) (by show w3.heap.size < W4.heap.size; omega)).trans d41'
  have x5 := (hb5.cell (p := ⟨w4.heap.size, 0, none⟩) (by show w4.heap.size < W4.heap.size; omega)).trans x4
  have HR5 := hide (ShRow.below (unhide HRW4) hb5 (by omega))
  have HB5 := hide ((unhide HBW4).trans (hb5.mono (unhide HBW4).size))
  have HV35 := hide ((unhide HVW4).below hb5 (by omega))
  have hv5' : GV f3 n3 w5 (.slice s5 n3 cp5) (w4.heap.size + 1) w5.heap.size := by rw [← zW4]; exact hv5
  have HV5 := hide hv5'
  have hX5 : w4.heap.size < w5.heap.size := by omega
  have hD5 : w3.heap.size < w5.heap.size := by omega
  clear hb5 a4' d40' d41' x4 HRW4 HBW4 HVW4 hv5 hv5' hgr5 zW4 z45
  go_wp2_with fail
  obtain ⟨W5, hW5⟩ : ∃ W5, W5 = w5.alloc (.cells #[.slice s5 n3 cp5, .int .i64 r3] 42) := ⟨_, rfl⟩
  rw [← hW5]
  have hb5 : Below w5.heap.size w5 W5 := by rw [hW5]; exact (Below.refl _ _).alloc (Nat.le_refl _) _
  have zW5 : W5.heap.size = w5.heap.size + 1 := by rw [hW5]; simp
  have hbag5 : Bag W5 w.heap.size w3.heap.size w4.heap.size w5.heap.size (.slice a n cap) (.slice s3 n3 cp3) (.slice (some ⟨m4, 0, none⟩) n n) (.slice s5 n3 cp5) r3 :=
    ⟨(hb5.cell (by show w.heap.size < w5.heap.size; omega)).trans a5, (hb5.cell (by show w3.heap.size < w5.heap.size; omega)).trans d50, (hb5.cell (by show w3.heap.size < w5.heap.size; omega)).trans d51, (hb5.cell (by exact hX5)).trans x5, by rw [hW5]; simp [go_sem], by rw [hW5]; simp [go_sem]⟩
  have HRW5 := hide (ShRow.below (unhide HR5) hb5 (by omega))
  have HBW5 := hide ((unhide HB5).trans (hb5.mono (unhide HB5).size))
  have HV3W5 := hide ((unhide HV35).below hb5 (by omega))
  have HV5W5 := hide ((unhide HV5).below hb5 (Nat.le_refl _))
  have HBag5 := hide hbag5
  have hE5 : w5.heap.size < W5.heap.size := by omega
  clear hW5 hb5 a5 d50 d51 x5 HR5 HB5 HV35 HV5 hbag5 zW5
  refine (eqGrownV (unhide HV5W5) (unhide HV3W5) hn3 (by omega) (by omega)).mono ?_
  rintro e w6 ⟨rfl, hb6⟩
  have z56 : W5.heap.size ≤ w6.heap.size := hb6.size
  have hE6 : w5.heap.size < w6.heap.size := by omega
  have HR6 := hide (ShRow.below (unhide HRW5) hb6 (by omega))
  have HB6 := hide ((unhide HBW5).trans (hb6.mono (unhide HBW5).size))
  have HV36 := hide ((unhide HV3W5).below hb6 (by omega))
  have HV56 := hide ((unhide HV5W5).below hb6 (by omega))
  have hbag6 := (unhide HBag5).below hb6 (by omega) (by omega) (by omega) (by omega)
  have HBag6 := hide hbag6
  have a6 := hbag6.a
  have x6 := hbag6.x
  clear hb6 HRW5 HBW5 HV3W5 HV5W5 HBag5 hbag6 z56
  go_wp2
  have HBd : Hid (Below w.heap.size w w6.drew) := hide (unhide HB6).drew
  have HRd : Hid (ShRow w6.drew m4 n f) := hide (unhide HR6)
  have ad : w6.drew.cell? ⟨w.heap.size, 0, none⟩ = some (.slice a n cap) := a6
  have xd : w6.drew.cell? ⟨w4.heap.size, 0, none⟩ = some (.slice (some ⟨m4, 0, none⟩) n n) := x6
  have HV3d : Hid (GV f3 n3 w6.drew (.slice s3 n3 cp3) w2.heap.size w3.heap.size) := hide ((unhide HV36).keep fun b _ _ => rfl)
  have HV5d : Hid (GV f3 n3 w6.drew (.slice s5 n3 cp5) (w4.heap.size + 1) w5.heap.size) := hide ((unhide HV56).keep fun b _ _ => rfl)
  have HBagd : Hid (Bag w6.drew w.heap.size w3.heap.size w4.heap.size w5.heap.size (.slice a n cap) (.slice s3 n3 cp3) (.slice (some ⟨m4, 0, none⟩) n n) (.slice s5 n3 cp5) r3) := hide ((unhide HBag6).keep fun b _ => rfl)
  have y6 : w.heap.size < w6.heap.size := by omega
  have z6 : w4.heap.size < w6.heap.size := by omega
  have u6 : w3.heap.size < w6.heap.size := by omega
  go_region_held3 (fun w' => w'.cell? ⟨w.heap.size, 0, none⟩ = some (.slice a n cap) ∧ w'.cell? ⟨w4.heap.size, 0, none⟩ = some (.slice (some ⟨m4, 0, none⟩) n n)) (first | exact ⟨by assumption, by assumption⟩ | go_keep)
    (first
      | (go_at_call 10; refine (toForest_any a n cap f _ ((unhide HA).below (unhide HBd) rfl) hn').mono ?_; rintro e w7 ⟨⟨m7, rfl, hm7, hrow7⟩, hb7⟩; have a7 := (hb7.cell (p := ⟨w.heap.size, 0, none⟩) y6).trans ad; have x7 := (hb7.cell (p := ⟨w4.heap.size, 0, none⟩) z6).trans xd; have y7 := Nat.lt_of_lt_of_le y6 hb7.size; have z7 := Nat.lt_of_lt_of_le z6 hb7.size; have z67 : w6.heap.size ≤ w7.heap.size := hb7.size; have HR7 := hide hrow7; have HX7 := hide (ShRow.below (unhide HRd) hb7 (ShRow.lt (unhide HRd))); have HB7 := hide ((unhide HBd).trans (hb7.mono (unhide HBd).size)); have HV37 := hide ((unhide HV3d).below hb7 (by show _ ≤ w6.heap.size; omega)); have HV57 := hide ((unhide HV5d).below hb7 (by show _ ≤ w6.heap.size; omega)); have HBag7 := hide ((unhide HBagd).below hb7 y6 u6 z6 hE6); clear hrow7 hb7)
      | (go_at_call 12; refine (eqForest_same m4 m7 n n n f f _ (unhide HX7) (unhide HR7) hn' (fun i hi => ⟨rfl, rfl, rfl⟩)).mono ?_; rintro e w8 ⟨rfl, hb8⟩; have a8 := (hb8.cell (p := ⟨w.heap.size, 0, none⟩) y7).trans a7; have x8 := (hb8.cell (p := ⟨w4.heap.size, 0, none⟩) z7).trans x7; have z78 : w7.heap.size ≤ w8.heap.size := hb8.size; have HX8 := hide (ShRow.below (unhide HX7) hb8 (ShRow.lt (unhide HX7))); have HB8 := hide ((unhide HB7).trans (hb8.mono (unhide HB7).size)); have HV38 := hide ((unhide HV37).below hb8 (by omega)); have HV58 := hide ((unhide HV57).below hb8 (by omega)); have HBag8 := hide ((unhide HBag7).below hb8 (by omega) (by omega) (by omega) (by omega)); clear hb8))
  clear HBd HRd ad xd HV3d HV5d HBagd HR7 HX7 HB7 HV37 HV57 HBag7 a6 x6 HR6 HB6 HV36 HV56 HBag6
  go_wp2_with fail
  refine (markForest_any m4 n n f _ (unhide HX8) hn').mono ?_
  rintro e w9 ⟨rfl, hb9⟩
  have z89 : w8.heap.size ≤ w9.heap.size := hb9.size
  have HB9 := hide ((unhide HB8).trans (hb9.below (by omega) (unhide HB8).size))
  have HV39 := hide ((unhide HV38).keep (w' := w9) (fun b h1 h2 => hb9.block b (by omega) (by omega)))
  have HV59 := hide ((unhide HV58).keep (w' := w9) (fun b h1 h2 => hb9.block b (by omega) (by omega)))
  have hbag9 := (unhide HBag8).keep (w' := w9) (fun b hb => hb9.block b (by rcases hb with rfl | rfl | rfl | rfl <;> omega) (by rcases hb with rfl | rfl | rfl | rfl <;> omega))
  have hE9 : w5.heap.size < w9.heap.size := by omega
  have hk9 : ¬ (1 + 3 * (n : Int)) < 0 := by omega
  have hd9 : decide ((1 + 3 * (n : Int)) < 0) = false := by simp; omega
  obtain ⟨k9, hk9'⟩ : ∃ k9 : Int, k9 = 1 + 3 * (n : Int) := ⟨_, rfl⟩
  rw [← hk9'] at hk9 hd9 ⊢
  have HBag9 := hide hbag9
  obtain ⟨ba, bd0, bd1, bx, be0, be1⟩ := hbag9
  clear hk9' hb9 a8 x8 HX8 HB8 HV38 HV58 HBag8
  go_wp2_with fail
  clear ba bd0 bd1 bx be0 be1
  refine (eqGrownV (unhide HV59) (unhide HV39) hn3 (by omega) (by omega)).mono ?_
  rintro e w10 ⟨rfl, hb10⟩
  have z910 : w9.heap.size ≤ w10.heap.size := hb10.size
  have hE10 : w5.heap.size < w10.heap.size := by omega
  have HB10 := hide ((unhide HB9).trans (hb10.mono (unhide HB9).size))
  have HV310 := hide ((unhide HV39).below hb10 (by omega))
  have HV510 := hide ((unhide HV59).below hb10 (by omega))
  have hbag10 := (unhide HBag9).below hb10 (by omega) (by omega) (by omega) (by omega)
  have HBag10 := hide hbag10
  obtain ⟨ba, bd0, bd1, bx, be0, be1⟩ := hbag10
  clear hb10 HB9 HV39 HV59 HBag9
  go_wp2_with fail
  clear ba bd0 bd1 bx be0 be1
  refine (markGrownV (unhide HV510) hn3 (by omega)).mono ?_
  rintro e w11 ⟨⟨rfl, hv11⟩, hb11⟩
  obtain ⟨q, hq⟩ : ∃ q : Int, q = 1 + 3 * (n3 : Int) := ⟨_, rfl⟩
  have hq0 : ¬ q < 0 := by omega
  rw [← hq]
  have z1011 : w10.heap.size ≤ w11.heap.size := hb11.size
  have hE11 : w5.heap.size < w11.heap.size := by omega
  have HB11 := hide ((unhide HB10).trans ((hb11.below (by omega)).mono (by omega)))
  have HV311 := hide ((unhide HV310).keep (w' := w11) (fun b h1 h2 => hb11.block b (by omega) (.inl (by omega))))
  have hbag11 := (unhide HBag10).keep (w' := w11) (fun b hb => hb11.block b (by rcases hb with rfl | rfl | rfl | rfl <;> omega) (by rcases hb with rfl | rfl | rfl | rfl <;> omega))
  have HBag11 := hide hbag11
  have HM11 := hide hv11
  have HQ := hide hq
  obtain ⟨ba, bd0, bd1, bx, be0, be1⟩ := hbag11
  clear hb11 HB10 HV310 HV510 hv11 hq HBag10
  go_wp2_with fail
  clear ba bd0 bd1 bx be0 be1
  refine (heldGrownV (unhide HM11) hn3 (by omega)).mono ?_
  rintro e w12 ⟨rfl, hb12⟩
  rw [← unhide HQ]
  have z1112 : w11.heap.size ≤ w12.heap.size := hb12.size
  have hE12 : w5.heap.size < w12.heap.size := by omega
  have HB12 := hide ((unhide HB11).trans (hb12.mono (unhide HB11).size))
  have HV312 := hide ((unhide HV311).below hb12 (by omega))
  have HM12 := hide ((unhide HM11).below hb12 (by omega))
  have hbag12 := (unhide HBag11).below hb12 (by omega) (by omega) (by omega) (by omega)
  have HBag12 := hide hbag12
  obtain ⟨ba, bd0, bd1, bx, be0, be1⟩ := hbag12
  clear hb12 HB11 HV311 HM11 HBag11
  go_wp2_with fail
  clear ba bd0 bd1 bx be0 be1
  refine (toForest_any a n cap f _ ((unhide HA).below (unhide HB12) rfl) hn').mono ?_
  rintro e w13 ⟨⟨m13, rfl, hm13, hrow13⟩, hb13⟩
  have z1213 : w12.heap.size ≤ w13.heap.size := hb13.size
  have HB13 := hide ((unhide HB12).trans (hb13.mono (unhide HB12).size))
  have HV313 := hide ((unhide HV312).below hb13 (by omega))
  have HM13 := hide ((unhide HM12).below hb13 (by omega))
  have HBag13 := hide ((unhide HBag12).below hb13 (by omega) (by omega) (by omega) (by omega))
  have HR13 := hide hrow13
  clear hb13 HB12 HV312 HM12 hrow13 HBag12
  go_wp2_with fail
  refine (implGrow_any m13 n n i key f _ (unhide HR13) hn' hks).mono ?_
  rintro e w14 ⟨⟨v14, r14, n14, f14, rfl, hgr14, hv14⟩, hb14⟩
  obtain ⟨rfl, rfl, rfl⟩ := (unhide HG3).unique hgr14
  obtain ⟨s14, cp14, rfl⟩ := hv14.form
  have z1314 : w13.heap.size ≤ w14.heap.size := hb14.size
  have hE14 : w5.heap.size < w14.heap.size := by omega
  have HB14 := hide ((unhide HB13).trans (hb14.mono (unhide HB13).size))
  have HV314 := hide ((unhide HV313).below hb14 (by omega))
  have HM14 := hide ((unhide HM13).below hb14 (by omega))
  have hbag14 := (unhide HBag13).below hb14 (by omega) (by omega) (by omega) (by omega)
  have HBag14 := hide hbag14
  have HV14 := hide hv14
  obtain ⟨ba, bd0, bd1, bx, be0, be1⟩ := hbag14
  clear hb14 HB13 HV313 HM13 HR13 hv14 HBag13 hgr14
  have hD14 : w3.heap.size < w14.heap.size := by omega
  go_wp2_with fail
  clear ba bd0 bd1 bx be0 be1
  obtain ⟨W14, hW14⟩ : ∃ W14, W14 = w14.alloc (.cells #[.slice s14 n3 cp14, .int .i64 r3] 42) := ⟨_, rfl⟩
  rw [← hW14]
  have hb14 : Below w14.heap.size w14 W14 := by rw [hW14]; exact (Below.refl _ _).alloc (Nat.le_refl _) _
  have zW14 : w14.heap.size < W14.heap.size := by rw [hW14]; simp
  have HBW14 := hide ((unhide HB14).trans (hb14.mono (unhide HB14).size))
  have HVa := hide ((unhide HV314).below hb14 (by omega))
  have HVb := hide ((unhide HV14).below hb14 (Nat.le_refl _))
  have HMc := hide ((unhide HM14).below hb14 (by omega))
  have HBagc := hide ((unhide HBag14).below hb14 (by omega) (by omega) (by omega) (by omega))
  clear hW14 hb14 HB14 HV314 HV14 HM14 HBag14
  refine (eqGrownV (unhide HVb) (unhide HVa) hn3 (by omega) (by omega)).mono ?_
  rintro e w15 ⟨rfl, hb15⟩
  have z1415 : W14.heap.size ≤ w15.heap.size := hb15.size
  have HB15 := hide ((unhide HBW14).trans (hb15.mono (unhide HBW14).size))
  have HM15 := hide ((unhide HMc).below hb15 (by omega))
  have hbag15 := (unhide HBagc).below hb15 (by omega) (by omega) (by omega) (by omega)
  obtain ⟨ba, bd0, bd1, bx, be0, be1⟩ := hbag15
  clear hb15 HBW14 HMc HVa HVb HBagc
  go_wp2_with fail
  clear ba bd0 bd1 bx be0 be1
  refine (heldGrownV (unhide HM15) hn3 (by omega)).mono ?_
  rintro e w16 ⟨rfl, hb16⟩
  rw [← unhide HQ]
  have HB16 := hide ((unhide HB15).trans (hb16.mono (unhide HB15).size))
  clear hb16 HB15 HM15
  go_wp2
  go_ret
  exact ⟨rfl, unhide HB16⟩
end Go.Proofs.Ytgiegkigfokdmab
