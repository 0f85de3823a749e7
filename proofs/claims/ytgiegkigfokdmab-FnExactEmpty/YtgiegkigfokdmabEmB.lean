/-
  The law of Empty: the walk.
-/
import Derived.Test.YtgiegkigfokdmabEmA
namespace Go.Proofs.Ytgiegkigfokdmab
open Go.RowKit
set_option linter.unusedVariables false

/-- A Store in a variable. -/
structure Bx (w : World) (b : Nat) (v : Value) : Prop where
  c0 : w.cell? ⟨b, 0, none⟩ = some v
  c1 : w.cell? ⟨b, 1, none⟩ = some (.slice none 0 0)
  c2 : w.cell? ⟨b, 2, none⟩ = some (.slice none 0 0)
theorem Bx.keep {w w' : World} {b : Nat} {v : Value} (h : Bx w b v) (e : w'.heap[b]? = w.heap[b]?) : Bx w' b v :=
  ⟨(World.cell?_of_block e).trans h.c0, (World.cell?_of_block e).trans h.c1, (World.cell?_of_block e).trans h.c2⟩
theorem Bx.new (w : World) (v : Value) (t : TypeId) : Bx (w.alloc (.cells #[v, .slice none 0 0, .slice none 0 0] t)) w.heap.size v :=
  ⟨by simp [go_sem], by simp [go_sem], by simp [go_sem]⟩
theorem heldStore4 {w : World} {v : Value} {lo hi : Nat} (h : GV mk 1 w v lo hi) (hh : hi ≤ w.heap.size) :
    Calls Try.prog 30 #[ES v, .int .i64 1] w fun e w' => e = .returned (.int .i64 4) ∧ Below w.heap.size w w' := heldStoreV h (by omega) hh
theorem markStore4 {f : Nat → Shp} {w : World} {v : Value} {lo hi : Nat} (h : GV f 1 w v lo hi) (hh : hi ≤ w.heap.size) :
    Calls Try.prog 29 #[ES v, .int .i64 1] w fun e w' => (e = .returned (.int .i64 4) ∧ GV mk 1 w' v lo hi) ∧ Out lo hi w w' := markStoreV h (by omega) hh

set_option maxRecDepth 100000 in
set_option maxHeartbeats 4000000 in
theorem law_empty (w : World) :
    Calls Try.prog 7 #[] w fun e w' => e = .returned (.bool true) ∧ Below w.heap.size w w' := by
  go_enter Try.func7, Try.ntmps7
  go_wp2_with fail
  refine (specEmpty1 _).mono ?_
  rintro e w1 ⟨⟨b, rfl, hv⟩, hb1⟩
  have hz1 := hb1.size
  have HV := hide hv
  have HB1 := hide hb1
  clear hv hb1
  go_wp2_with fail
  obtain ⟨W1, hW1⟩ : ∃ W1, W1 = w1.alloc (.cells #[SB b, .slice none 0 0, .slice none 0 0] 49) := ⟨_, rfl⟩
  have hbW1 : Below w1.heap.size w1 W1 := by rw [hW1]; exact (Below.refl _ _).alloc (Nat.le_refl _) _
  have zW1 : W1.heap.size = w1.heap.size + 1 := by rw [hW1]; simp
  have hA1 : Bx W1 w1.heap.size (SB b) := by rw [hW1]; exact Bx.new _ _ _
  rw [← hW1]
  clear hW1
  have HV1 := hide ((unhide HV).below hbW1 (Nat.le_refl _))
  have HBW1 := hide ((unhide HB1).trans (hbW1.mono hz1))
  clear hbW1 HV HB1
  refine (implEmpty1 _).mono ?_
  rintro e w2 ⟨⟨g, rfl, hg⟩, hb2⟩
  have hz2 := hb2.size
  have hA2 := hA1.keep (hb2.block w1.heap.size (by omega))
  have HV2 := hide ((unhide HV1).below hb2 (by omega))
  have HG2 := hide hg
  have HB2 := hide ((unhide HBW1).trans (hb2.mono (unhide HBW1).size))
  have HA2 := hide hA2
  have y12 : w1.heap.size < w2.heap.size := by omega
  have HZ1 := hide zW1
  obtain ⟨a0, a1, a2⟩ := hA2
  clear hg hb2 hA1 HV1 HBW1 zW1 hz2
  go_wp2_with fail
  obtain ⟨W2, hW2⟩ : ∃ W2, W2 = w2.alloc (.cells #[SB g, .slice none 0 0, .slice none 0 0] 49) := ⟨_, rfl⟩
  have hbW2 : Below w2.heap.size w2 W2 := by rw [hW2]; exact (Below.refl _ _).alloc (Nat.le_refl _) _
  have zW2 : W2.heap.size = w2.heap.size + 1 := by rw [hW2]; simp
  have hG2 : Bx W2 w2.heap.size (SB g) := by rw [hW2]; exact Bx.new _ _ _
  rw [← hW2]
  clear hW2 a0 a1 a2
  have hA2 := (unhide HA2).keep (hbW2.block w1.heap.size y12)
  have HVW2 := hide ((unhide HV2).below hbW2 (by omega))
  have HGW2 := hide ((unhide HG2).below hbW2 (Nat.le_refl _))
  have HBW2 := hide ((unhide HB2).trans (hbW2.mono (unhide HB2).size))
  have HZ2 := hide zW2
  clear hbW2 HV2 HG2 HB2 HA2
  refine (eqStoreV (unhide HGW2) (unhide HVW2) (by omega) (by omega) (by omega)).mono ?_
  rintro e w3 ⟨rfl, hb3⟩
  have hz3 := hb3.size
  have y23 : w2.heap.size < w3.heap.size := by omega
  have hA3 := hA2.keep (hb3.block w1.heap.size (by omega))
  have hG3 := hG2.keep (hb3.block w2.heap.size (by omega))
  have HV3 := hide ((unhide HVW2).below hb3 (by omega))
  have HG3 := hide ((unhide HGW2).below hb3 (by omega))
  have HB3 := hide ((unhide HBW2).trans (hb3.mono (unhide HBW2).size))
  have HA3 := hide hA3
  have HX3 := hide hG3
  obtain ⟨g0, g1, g2⟩ := hG3
  clear hb3 hA2 hG2 hA3 HVW2 HGW2 HBW2 zW2 hz3
  go_wp2_with fail
  refine (markStore4 (unhide HG3) (by omega)).mono ?_
  rintro e w4 ⟨⟨rfl, hg4⟩, hb4⟩
  have hz4 := hb4.size
  have zz1 := unhide HZ1
  have y24 : w2.heap.size < w4.heap.size := by omega
  have hA4 := (unhide HA3).keep (hb4.block w1.heap.size (by omega) (.inl (by omega)))
  have hG4 := (unhide HX3).keep (hb4.block w2.heap.size (by omega) (.inr (Nat.le_refl _)))
  have HV4 := hide ((unhide HV3).keep (w' := w4) (fun q h1 h2 => hb4.block q (by omega) (.inl (by omega))))
  have HG4 := hide hg4
  have HB4 := hide ((unhide HB3).trans ((hb4.below (by omega)).mono (by omega)))
  have HA4 := hide hA4
  have HX4 := hide hG4
  clear hg4 hb4 hA4 HV3 HG3 HB3 HA3 HX3 g0 g1 g2 zz1 hz4
  obtain ⟨g0, g1, g2⟩ := hG4
  go_wp2_with fail
  refine (heldStore4 (unhide HG4) (by omega)).mono ?_
  rintro e w5 ⟨rfl, hb5⟩
  have hz5 := hb5.size
  have y25 : w2.heap.size < w5.heap.size := by omega
  have hA5 := (unhide HA4).keep (hb5.block w1.heap.size (by omega))
  have hG5 := (unhide HX4).keep (hb5.block w2.heap.size (by omega))
  have HV5 := hide ((unhide HV4).below hb5 (by omega))
  have HG5 := hide ((unhide HG4).below hb5 (by omega))
  have HB5 := hide ((unhide HB4).trans (hb5.mono (unhide HB4).size))
  have HA5 := hide hA5
  have HX5 := hide hG5
  clear hb5 hA5 hG5 HV4 HG4 HB4 HA4 HX4 g0 g1 g2 hz5
  go_wp2_with fail
  refine (implEmpty1 _).mono ?_
  rintro e w6 ⟨⟨h, rfl, hh⟩, hb6⟩
  have hz6 := hb6.size
  have y26 : w2.heap.size < w6.heap.size := by omega
  have y16 : w1.heap.size < w6.heap.size := by omega
  have hA6 := (unhide HA5).keep (hb6.block w1.heap.size (by omega))
  have hG6 := (unhide HX5).keep (hb6.block w2.heap.size (by omega))
  have HV6 := hide ((unhide HV5).below hb6 (by omega))
  have HG6 := hide ((unhide HG5).below hb6 (by omega))
  have HB6 := hide ((unhide HB5).trans (hb6.mono (unhide HB5).size))
  have HH6 := hide hh
  have HA6 := hide hA6
  have HX6 := hide hG6
  obtain ⟨a0, a1, a2⟩ := hA6
  clear hb6 hh hG6 HV5 HG5 HB5 HA5 HX5 hz6
  go_wp2_with fail
  obtain ⟨W6, hW6⟩ : ∃ W6, W6 = w6.alloc (.cells #[SB h, .slice none 0 0, .slice none 0 0] 49) := ⟨_, rfl⟩
  have hbW6 : Below w6.heap.size w6 W6 := by rw [hW6]; exact (Below.refl _ _).alloc (Nat.le_refl _) _
  have zW6 : W6.heap.size = w6.heap.size + 1 := by rw [hW6]; simp
  rw [← hW6]
  clear hW6 a0 a1 a2
  have hG6 := (unhide HX6).keep (hbW6.block w2.heap.size y26)
  have HVW6 := hide ((unhide HV6).below hbW6 (by omega))
  have HGW6 := hide ((unhide HG6).below hbW6 (by omega))
  have HHW6 := hide ((unhide HH6).below hbW6 (Nat.le_refl _))
  have HBW6 := hide ((unhide HB6).trans (hbW6.mono (unhide HB6).size))
  clear hbW6 HV6 HG6 HH6 HB6 HA6 HX6
  refine (eqStoreV (unhide HHW6) (unhide HVW6) (by omega) (by omega) (by omega)).mono ?_
  rintro e w7 ⟨rfl, hb7⟩
  have hz7 := hb7.size
  have y27 : w2.heap.size < w7.heap.size := by omega
  have hG7 := hG6.keep (hb7.block w2.heap.size (by omega))
  have HG7 := hide ((unhide HGW6).below hb7 (by omega))
  have HB7 := hide ((unhide HBW6).trans (hb7.mono (unhide HBW6).size))
  obtain ⟨g0, g1, g2⟩ := hG7
  clear hb7 hG6 HVW6 HGW6 HHW6 HBW6 zW6 hz7
  go_wp2_with fail
  refine (heldStore4 (unhide HG7) (by omega)).mono ?_
  rintro e w8 ⟨rfl, hb8⟩
  have HB8 := hide ((unhide HB7).trans (hb8.mono (unhide HB7).size))
  clear hb8
  go_wp2
  go_ret
  exact ⟨rfl, unhide HB8⟩
end Go.Proofs.Ytgiegkigfokdmab
