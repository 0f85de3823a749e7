/-
  The law of ForestOk: the walk.
-/
import Derived.Test.YtgiegkigfokdmabFoH
import Derived.Deep.RegionHeld3
namespace Go.Proofs.Ytgiegkigfokdmab
open Go.RowKit
set_option linter.unusedVariables false

abbrev Fo (a : Option Addr) (n cap : Nat) : Value := .agg #[.slice a n cap]

set_option maxRecDepth 100000 in
set_option maxHeartbeats 2000000 in
theorem law_forestOk (a : Option Addr) (n cap : Nat) (f : Nat → Shp) (w : World) (hA : ShAt w a n f) (hn : n ≤ maxLen) (hk : ∀ i, i < n → (f i).key.size ≤ maxLen) :
    Calls Try.prog 3 #[Fo a n cap] w fun e w' => e = .returned (.bool true) ∧ Below w.heap.size w w' := by
  have HA := hide hA
  have HK := hide hk
  clear hA hk
  have hb0 : Below w.heap.size w (w.alloc (.cells #[.slice a n cap] 24)) := (Below.refl _ _).alloc (Nat.le_refl _) _
  go_enter Try.func3, Try.ntmps3
  go_wp2_with fail
  refine (szForest_any a n cap f _ ((unhide HA).below hb0 rfl) hn (unhide HK)).mono ?_
  rintro e w1 ⟨⟨r, rfl, hr⟩, hb1⟩
  obtain ⟨hc1, hf1⟩ := bcell hb1
  have hz1 := hb1.size
  simp at hz1
  have y1 : w.heap.size < w1.heap.size := by omega
  have a1 : w1.cell? ⟨w.heap.size, 0, none⟩ = some (.slice a n cap) := by rw [hc1 _ _ (by simp)]; simp [go_sem]
  have HB1 := hide (hb0.trans (hb1.mono hb0.size))
  clear hb1 hc1 hf1 hz1 hb0
  rcases hr with rfl | ⟨hr0, hr1, hL⟩
  · go_wp2
    go_ret
    exact ⟨rfl, unhide HB1⟩
  have hn' : n ≤ 1048576 := hL.1
  clear hL
  go_wp2_with fail
  refine (toForest_any a n cap f _ ((unhide HA).below (unhide HB1) rfl) hn').mono ?_
  rintro e w2 ⟨⟨m, rfl, hm, hrow⟩, hb2⟩
  have a2 := (hb2.cell (p := ⟨w.heap.size, 0, none⟩) y1).trans a1
  have y2 : w.heap.size < w2.heap.size := Nat.lt_of_lt_of_le y1 hb2.size
  have HB2 := hide ((unhide HB1).trans (hb2.mono (unhide HB1).size))
  have HR := hide hrow
  clear hb2 hrow a1
  go_wp2_with fail
  refine (specForestOk m n n f _ (unhide HR) hn').mono ?_
  rintro e w3 ⟨rfl, hb3⟩
  have a3 := (hb3.cell (p := ⟨w.heap.size, 0, none⟩) y2).trans a2
  have y3 : w.heap.size < w3.heap.size := Nat.lt_of_lt_of_le y2 hb3.size
  have HB3 := hide ((unhide HB2).trans (hb3.mono (unhide HB2).size))
  clear hb3 HR a2
  go_wp2_with fail
  refine (toForest_any a n cap f _ ((unhide HA).below (unhide HB3) rfl) hn').mono ?_
  rintro e w4 ⟨⟨m4, rfl, hm4, hrow⟩, hb4⟩
  have a4 := (hb4.cell (p := ⟨w.heap.size, 0, none⟩) y3).trans a3
  have y4 : w.heap.size < w4.heap.size := Nat.lt_of_lt_of_le y3 hb4.size
  have HB4 := hide ((unhide HB3).trans (hb4.mono (unhide HB3).size))
  have HR := hide hrow
  have hm4l := ShRow.lt hrow
  clear hb4 hrow a3
  go_wp2_with fail
  refine (implForestOk m4 n n f _ ((unhide HR).alloc _) hn').mono ?_
  rintro e w5 ⟨rfl, hb5⟩
  obtain ⟨hc5, hf5⟩ := bcell hb5
  have hz5 := hb5.size
  simp at hz5
  have a5 : w5.cell? ⟨w.heap.size, 0, none⟩ = some (.slice a n cap) := by rw [hc5 _ _ (by simp; omega)]; simp [go_sem, y4, a4]
  have x5 : w5.cell? ⟨w4.heap.size, 0, none⟩ = some (.slice (some ⟨m4, 0, none⟩) n n) := by rw [hc5 _ _ (by simp)]; simp [go_sem]
  have y5 : w.heap.size < w5.heap.size := by omega
  have z5 : w4.heap.size < w5.heap.size := by omega
  have hrx : ShRow (w4.alloc (.cells #[.slice (some ⟨m4, 0, none⟩) n n] 29)) m4 n f := ShRow.alloc (unhide HR) _
  have HR5 := hide (hrx.below hb5 (by simp; omega))
  have HB5 := hide (((unhide HB4).alloc (by omega) (.cells #[.slice (some ⟨m4, 0, none⟩) n n] 29)).trans (hb5.mono (by simp; omega)))
  clear hb5 hc5 hf5 a4 HR hrx hz5
  go_wp2
  have HBd : Hid (Below w.heap.size w w5.drew) := hide (unhide HB5).drew
  have HRd : Hid (ShRow w5.drew m4 n f) := hide (unhide HR5)
  have ad : w5.drew.cell? ⟨w.heap.size, 0, none⟩ = some (.slice a n cap) := a5
  have xd : w5.drew.cell? ⟨w4.heap.size, 0, none⟩ = some (.slice (some ⟨m4, 0, none⟩) n n) := x5
  go_region_held3 (fun w' => w'.cell? ⟨w.heap.size, 0, none⟩ = some (.slice a n cap) ∧ w'.cell? ⟨w4.heap.size, 0, none⟩ = some (.slice (some ⟨m4, 0, none⟩) n n)) (first | exact ⟨by assumption, by assumption⟩ | go_keep)
    (first
      | (go_at_call 10; refine (toForest_any a n cap f _ ((unhide HA).below (unhide HBd) rfl) hn').mono ?_; rintro e w6 ⟨⟨m6, rfl, hm6, hrow6⟩, hb6⟩; have a6 := (hb6.cell (p := ⟨w.heap.size, 0, none⟩) y5).trans ad; have x6 := (hb6.cell (p := ⟨w4.heap.size, 0, none⟩) z5).trans xd; have y6 := Nat.lt_of_lt_of_le y5 hb6.size; have z6 := Nat.lt_of_lt_of_le z5 hb6.size; have HR6 := hide hrow6; have HX6 := hide (ShRow.below (unhide HRd) hb6 (ShRow.lt (unhide HRd))); have HB6 := hide ((unhide HBd).trans (hb6.mono (unhide HBd).size)); clear hrow6 hb6)
      | (go_at_call 12; refine (eqForest_same m4 m6 n n n f f _ (unhide HX6) (unhide HR6) hn' (fun i hi => ⟨rfl, rfl, rfl⟩)).mono ?_; rintro e w7 ⟨rfl, hb7⟩; have a7 := (hb7.cell (p := ⟨w.heap.size, 0, none⟩) y6).trans a6; have x7 := (hb7.cell (p := ⟨w4.heap.size, 0, none⟩) z6).trans x6; have HB7 := hide ((unhide HB6).trans (hb7.mono (unhide HB6).size)); clear hb7))
  go_wp2
  go_ret
  exact ⟨rfl, unhide HB7⟩
end Go.Proofs.Ytgiegkigfokdmab
