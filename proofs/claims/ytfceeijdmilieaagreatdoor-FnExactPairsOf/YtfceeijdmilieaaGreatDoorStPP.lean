/-
  StP.
-/
import Derived.Test.YtfceeijdmilieaaGreatDoorStNP
import Derived.Test.YtfceeijdmilieaaGreatDoorStOP
import Derived.Test.YtfceeijdmilieaaGreatDoorStDP
import Derived.Deep.RegionHeld3
namespace Go.Proofs.YtfceeijdmilieaaGreatDoor
open Go.RowKit
set_option linter.unusedVariables false

theorem tri3 {w w' : World} {b B : Nat} {v0 v1 v2 : Value} (hb : Below B w w') (hl : b < B) (h : w.cell? ⟨b, 0, none⟩ = some v0 ∧ w.cell? ⟨b, 1, none⟩ = some v1 ∧ w.cell? ⟨b, 2, none⟩ = some v2) :
    w'.cell? ⟨b, 0, none⟩ = some v0 ∧ w'.cell? ⟨b, 1, none⟩ = some v1 ∧ w'.cell? ⟨b, 2, none⟩ = some v2 :=
  ⟨(hb.cell (p := ⟨b, 0, none⟩) hl).trans h.1, (hb.cell (p := ⟨b, 1, none⟩) hl).trans h.2.1, (hb.cell (p := ⟨b, 2, none⟩) hl).trans h.2.2⟩
abbrev PrS (s : Sto) (i : Int) (w : World) (v : Value) (lo hi : Nat) : Prop := PrV (pF s i) (pN s i) w v lo hi
theorem pN_le {s : Sto} (hs : SSmall s) (i : Int) : pN s i ≤ 4194304 := by
  unfold pN
  split
  · next h =>
    obtain ⟨h0, h1, h2⟩ := h
    obtain ⟨q1, q2, q3, q4⟩ := storeOk_zero h0
    have hi : i.toNat < s.nt := by omega
    unfold tnN
    split
    · exact Nat.le_trans (lvN_le _) (hs.dict hi).n
    · next hn =>
      rcases okT_cases (q3 _ hi) with ⟨hsh, _⟩ | ⟨j, hsh, hj, hnv⟩
      · exact absurd hsh hn
      · rw [hsh, Int.toNat_natCast, ← hnv]
        have := hs.nv hi
        omega
  · omega

set_option maxRecDepth 100000 in
set_option maxHeartbeats 8000000 in
theorem law_pairsOf (fa : Option Addr) (fc : Nat) (ta : Option Addr) (tc : Nat) (sa : Option Addr) (sc : Nat) (s : Sto) (i : Int) (w : World) (hA : StAt w fa ta sa s) (hL : SLens s) (hW : SWf s) (hT : Tabs w) :
    Calls Tryz.prog 4 #[StV fa fc ta tc sa sc s, .int .i64 i] w fun e w' => e = .returned (.bool true) ∧ Below w.heap.size w w' := by
  have HA := hide hA
  have HL := hide hL
  have HW := hide hW
  have HT := hide hT
  clear hA hL hW hT
  have hb0 : Below w.heap.size w (w.alloc (.cells #[.slice fa s.nf fc, .slice ta s.nt tc, .slice sa s.ns sc] 53)) := (Below.refl _ _).alloc (Nat.le_refl _) _
  have HB0 := hide hb0
  clear hb0
  go_enter Tryz.func4, Tryz.ntmps4
  go_wp2_with fail
  refine (szStore_w fa fc ta tc sa sc s _ ((unhide HA).below (unhide HB0)) (unhide HL)).mono ?_
  rintro e w1 ⟨⟨r, rfl, hr⟩, hb1⟩
  obtain ⟨hc1, hf1⟩ := bcell hb1
  have hz1 := hb1.size
  simp at hz1
  have y1 : w.heap.size < w1.heap.size := by omega
  have a1 : w1.cell? ⟨w.heap.size, 0, none⟩ = some (.slice fa s.nf fc) ∧ w1.cell? ⟨w.heap.size, 1, none⟩ = some (.slice ta s.nt tc) ∧ w1.cell? ⟨w.heap.size, 2, none⟩ = some (.slice sa s.ns sc) := by
    refine ⟨?_, ?_, ?_⟩ <;> (rw [hc1 _ _ (by simp)]; simp [go_sem])
  have HB1 := hide ((unhide HB0).trans (hb1.mono (unhide HB0).size))
  clear hb1 hc1 hf1 hz1
  rcases hr with rfl | ⟨hr0, hS⟩
  · clear a1
    go_wp2_with fail
    go_ret
    exact ⟨rfl, unhide HB1⟩
  have HS := hide hS
  have hpn : pN s i ≤ 4194304 := pN_le hS i
  clear hS
  obtain ⟨p0, p1, p2⟩ := a1
  go_wp2_with fail
  refine (toStore_row fa fc ta tc sa sc s _ ((unhide HA).below (unhide HB1)) (unhide HS)).mono ?_
  rintro e w2 ⟨⟨m2, t2, s2, rfl, hrow⟩, hb2⟩
  have a2 := tri3 hb2 y1 ⟨p0, p1, p2⟩
  have y2 : w.heap.size < w2.heap.size := Nat.lt_of_lt_of_le y1 hb2.size
  have HB2 := hide ((unhide HB1).trans (hb2.mono (unhide HB1).size))
  have HR := hide hrow
  clear hb2 hrow p0 p1 p2
  go_wp2_with fail
  refine (specPairsOf m2 s.nf (some ⟨t2, 0, none⟩) s.nt (some ⟨s2, 0, none⟩) s.ns s i _ (unhide HR).fo (unhide HR).ta.at (unhide HR).si.at (unhide HS) (unhide HL).sk (unhide HW)).mono ?_
  rintro e w3 ⟨⟨u3, rfl, hv3⟩, hb3⟩
  have HV3 : Hid (PrS s i w3 u3 w2.heap.size w3.heap.size) := hide (PrV.of hv3)
  have a3 := tri3 hb3 y2 a2
  have y3 : w.heap.size < w3.heap.size := Nat.lt_of_lt_of_le y2 hb3.size
  have z23 := hb3.size
  have HB3 := hide ((unhide HB2).trans (hb3.mono (unhide HB2).size))
  clear hb3 HR a2 hv3
  obtain ⟨p0, p1, p2⟩ := a3
  go_wp2_with fail
  refine (toStore_row fa fc ta tc sa sc s _ ((unhide HA).below (unhide HB3)) (unhide HS)).mono ?_
  rintro e w4 ⟨⟨m4, t4, s4, rfl, htr⟩, hb4⟩
  have a4 := tri3 hb4 y3 ⟨p0, p1, p2⟩
  have y4 : w.heap.size < w4.heap.size := Nat.lt_of_lt_of_le y3 hb4.size
  have z34 := hb4.size
  have HB4 := hide ((unhide HB3).trans (hb4.mono (unhide HB3).size))
  have HTR := hide htr
  have HV4 := hide ((unhide HV3).below hb4 (Nat.le_refl _))
  have HBs : Hid (∀ o, Below w.heap.size w (w4.alloc o)) := hide (fun o => (unhide HB4).alloc (by omega) _)
  have HTRs : Hid (∀ o, StMade w3.heap.size w4.heap.size (w4.alloc o) m4 t4 s4 s) := hide (fun o => htr.below ((Below.refl _ _).alloc (Nat.le_refl _) _))
  clear hb4 htr p0 p1 p2 HV3
  go_wp2_with fail
  refine (implPairsOf m4 s.nf (some ⟨t4, 0, none⟩) s.nt (some ⟨s4, 0, none⟩) s.ns s i _ (lastsT _ _ (unhide HT) (unhide HBs _)) (unhide HTRs _).fo (unhide HTRs _).ta.at (unhide HTRs _).si.at (unhide HS) (unhide HL).sk (unhide HW)).mono ?_
  rintro e w5 ⟨⟨u5, rfl, hv5⟩, hb5⟩
  obtain ⟨hc5, hf5⟩ := bcell hb5
  have hz5 := hb5.size
  simp at hz5 hv5
  have y5 : w.heap.size < w5.heap.size := by omega
  have z5 : w4.heap.size < w5.heap.size := by omega
  obtain ⟨p0, p1, p2⟩ := a4
  have a5 : w5.cell? ⟨w.heap.size, 0, none⟩ = some (.slice fa s.nf fc) ∧ w5.cell? ⟨w.heap.size, 1, none⟩ = some (.slice ta s.nt tc) ∧ w5.cell? ⟨w.heap.size, 2, none⟩ = some (.slice sa s.ns sc) := by
    refine ⟨?_, ?_, ?_⟩ <;> (rw [hc5 _ _ (by simp; omega), World.cell?_alloc_lt _ _ _ (by exact y4)]; assumption)
  have x5 : w5.cell? ⟨w4.heap.size, 0, none⟩ = some (.slice (some ⟨m4, 0, none⟩) s.nf s.nf) ∧ w5.cell? ⟨w4.heap.size, 1, none⟩ = some (.slice (some ⟨t4, 0, none⟩) s.nt s.nt) ∧ w5.cell? ⟨w4.heap.size, 2, none⟩ = some (.slice (some ⟨s4, 0, none⟩) s.ns s.ns) := by
    refine ⟨?_, ?_, ?_⟩ <;> (rw [hc5 _ _ (by simp)]; simp [go_sem])
  have HB5 := hide ((unhide HBs _).trans (hb5.mono (by simp; omega)))
  have HTR5 := hide ((unhide HTRs _).below hb5)
  have HV35 := hide (((unhide HV4).below ((Below.refl w4.heap.size w4).alloc (Nat.le_refl _) (.cells #[.slice (some ⟨m4, 0, none⟩) s.nf s.nf, .slice (some ⟨t4, 0, none⟩) s.nt s.nt, .slice (some ⟨s4, 0, none⟩) s.ns s.ns] 29)) (by omega)).below hb5 (by simp; omega))
  have HV5 : Hid (PrS s i w5 u5 (w4.heap.size + 1) w5.heap.size) := hide (PrV.of hv5)
  clear hb5 hc5 hf5 hz5 p0 p1 p2 HBs HTR HTRs HV4 hv5
  go_wp2_with fail
  refine (eqPrV (unhide HV5) (unhide HV35) hpn).mono ?_
  rintro e w6 ⟨rfl, hb6⟩
  have a6 := tri3 hb6 y5 a5
  have x6 := tri3 hb6 z5 x5
  have y6 := Nat.lt_of_lt_of_le y5 hb6.size
  have z6 := Nat.lt_of_lt_of_le z5 hb6.size
  have z56 := hb6.size
  have HB6 := hide ((unhide HB5).trans (hb6.mono (unhide HB5).size))
  have HTR6 := hide ((unhide HTR5).below hb6)
  have HV36 := hide ((unhide HV35).below hb6 (by omega))
  have HV56 := hide ((unhide HV5).below hb6 (Nat.le_refl _))
  clear hb6 a5 x5 HB5 HTR5 HV35 HV5
  go_wp2
  have HBd : Hid (Below w.heap.size w w6.drew) := hide (unhide HB6).drew
  have HTRd : Hid (StMade w3.heap.size w4.heap.size w6.drew m4 t4 s4 s) := hide ((unhide HTR6).below (Below.refl _ _).drew)
  have HV3d : Hid (PrS s i w6.drew u3 w2.heap.size w3.heap.size) := hide ((unhide HV36).keep fun b _ _ => rfl)
  have HV5d : Hid (PrS s i w6.drew u5 (w4.heap.size + 1) w5.heap.size) := hide ((unhide HV56).keep fun b _ _ => rfl)
  have pd : w6.drew.cell? ⟨w.heap.size, 0, none⟩ = some (.slice fa s.nf fc) ∧ w6.drew.cell? ⟨w.heap.size, 1, none⟩ = some (.slice ta s.nt tc) ∧ w6.drew.cell? ⟨w.heap.size, 2, none⟩ = some (.slice sa s.ns sc) := a6
  have qd : w6.drew.cell? ⟨w4.heap.size, 0, none⟩ = some (.slice (some ⟨m4, 0, none⟩) s.nf s.nf) ∧ w6.drew.cell? ⟨w4.heap.size, 1, none⟩ = some (.slice (some ⟨t4, 0, none⟩) s.nt s.nt) ∧ w6.drew.cell? ⟨w4.heap.size, 2, none⟩ = some (.slice (some ⟨s4, 0, none⟩) s.ns s.ns) := x6
  clear a6 x6
  obtain ⟨p0, p1, p2⟩ := pd
  obtain ⟨q0, q1, q2⟩ := qd
  go_region_held3 (fun w' => w'.cell? ⟨w.heap.size, 0, none⟩ = some (.slice fa s.nf fc) ∧ w'.cell? ⟨w.heap.size, 1, none⟩ = some (.slice ta s.nt tc) ∧ w'.cell? ⟨w.heap.size, 2, none⟩ = some (.slice sa s.ns sc) ∧ w'.cell? ⟨w4.heap.size, 0, none⟩ = some (.slice (some ⟨m4, 0, none⟩) s.nf s.nf) ∧ w'.cell? ⟨w4.heap.size, 1, none⟩ = some (.slice (some ⟨t4, 0, none⟩) s.nt s.nt) ∧ w'.cell? ⟨w4.heap.size, 2, none⟩ = some (.slice (some ⟨s4, 0, none⟩) s.ns s.ns)) (first | exact ⟨by assumption, by assumption, by assumption, by assumption, by assumption, by assumption⟩ | go_keep)
    (first
      | (go_at_call 17; refine (toStore_row fa fc ta tc sa sc s _ ((unhide HA).below (unhide HBd)) (unhide HS)).mono ?_; rintro e w7 ⟨⟨m7, t7, s7, rfl, hrow7⟩, hb7⟩; obtain ⟨b0, b1, b2⟩ := tri3 hb7 y6 ⟨p0, p1, p2⟩; obtain ⟨n0, n1, n2⟩ := tri3 hb7 z6 ⟨q0, q1, q2⟩; have y7 := Nat.lt_of_lt_of_le y6 hb7.size; have z7 := Nat.lt_of_lt_of_le z6 hb7.size; have z67 : w6.heap.size ≤ w7.heap.size := hb7.size; have HR7 := hide hrow7; have HB7 := hide ((unhide HBd).trans (hb7.mono (unhide HBd).size)); have HTR7 := hide ((unhide HTRd).below hb7); have HV37 := hide ((unhide HV3d).below hb7 (by show _ ≤ w6.heap.size; omega)); have HV57 := hide ((unhide HV5d).below hb7 (by show _ ≤ w6.heap.size; omega)); clear hrow7 hb7)
      | (go_at_call 20; refine (eqStore_same m4 m7 (some ⟨t4, 0, none⟩) (some ⟨t7, 0, none⟩) (some ⟨s4, 0, none⟩) (some ⟨s7, 0, none⟩) s.nf s.nf s.nt s.nt s.ns s.ns s _ (unhide HTR7).fo (unhide HR7).fo (unhide HTR7).ta.at (unhide HR7).ta.at (unhide HTR7).si.at (unhide HR7).si.at (unhide HS)).mono ?_; rintro e w8 ⟨rfl, hb8⟩; obtain ⟨b0', b1', b2'⟩ := tri3 hb8 y7 ⟨b0, b1, b2⟩; obtain ⟨n0', n1', n2'⟩ := tri3 hb8 z7 ⟨n0, n1, n2⟩; have z78 : w7.heap.size ≤ w8.heap.size := hb8.size; have HB8 := hide ((unhide HB7).trans (hb8.mono (unhide HB7).size)); have HTR8 := hide ((unhide HTR7).below hb8); have HV38 := hide ((unhide HV37).below hb8 (by omega)); have HV58 := hide ((unhide HV57).below hb8 (by omega)); clear hb8))
  clear HBd HTRd HV3d HV5d HR7 HB7 HTR7 HV37 HV57 HB6 HTR6 HV36 HV56
  clear p0 p1 p2 q0 q1 q2 b0 b1 b2 n0 n1 n2
  go_wp2_with fail
  refine (markStore_any w3.heap.size w4.heap.size m4 t4 s4 s _ (unhide HTR8) (unhide HS) (by omega)).mono ?_
  rintro e w9 ⟨⟨r9, rfl⟩, hb9⟩
  have z89 : w8.heap.size ≤ w9.heap.size := hb9.size
  have hb9' : Below w3.heap.size w8 w9 := hb9.below (by omega)
  have a9 := tri3 hb9' y3 ⟨b0', b1', b2'⟩
  have HB9 := hide ((unhide HB8).trans (hb9'.mono (by omega)))
  have HV39 := hide ((unhide HV38).below hb9' (Nat.le_refl _))
  have HV59 := hide ((unhide HV58).keep (w' := w9) (fun b h1 h2 => hb9.block b (by omega) (.inr (by omega))))
  have hk9 : ¬ (r9 : Int) < 0 := by omega
  clear hb9 hb9' HB8 HTR8 HV38 HV58
  clear b0' b1' b2' n0' n1' n2'
  have y9 : w.heap.size < w9.heap.size := by omega
  go_wp2_with fail
  refine (eqPrV (unhide HV59) (unhide HV39) hpn).mono ?_
  rintro e w10 ⟨rfl, hb10⟩
  have z910 : w9.heap.size ≤ w10.heap.size := hb10.size
  have a10 := tri3 hb10 y9 a9
  have y10 := Nat.lt_of_lt_of_le y9 hb10.size
  have HB10 := hide ((unhide HB9).trans (hb10.mono (unhide HB9).size))
  have HV310 := hide ((unhide HV39).below hb10 (by omega))
  have HV510 := hide ((unhide HV59).below hb10 (by omega))
  clear hb10 a9 HB9 HV39 HV59
  go_wp2_with fail
  refine (markPrV (unhide HV510) (by omega) hpn).mono ?_
  rintro e w11 ⟨⟨rfl, hv11⟩, hb11⟩
  obtain ⟨q, hq⟩ : ∃ q : Int, q = 1 + 11 * (pN s i : Int) := ⟨_, rfl⟩
  have hq0 : ¬ q < 0 := by omega
  rw [← hq]
  have z1011 : w10.heap.size ≤ w11.heap.size := hb11.size
  have y11 := Nat.lt_of_lt_of_le y10 hb11.size
  have yb : w.heap.size < w4.heap.size + 1 := by omega
  have a11 := tri3 hb11 yb a10
  have HB11 := hide ((unhide HB10).trans (hb11.mono (by omega)))
  have HV311 := hide ((unhide HV310).below hb11 (by omega))
  have HM11 := hide hv11
  have HQ := hide hq
  clear hb11 a10 HB10 HV310 HV510 hv11 hq
  go_wp2_with fail
  refine (heldPrV (unhide HM11) hpn).mono ?_
  rintro e w12 ⟨rfl, hb12⟩
  rw [← unhide HQ]
  have z1112 : w11.heap.size ≤ w12.heap.size := hb12.size
  have a12 := tri3 hb12 y11 a11
  have y12 := Nat.lt_of_lt_of_le y11 hb12.size
  have HB12 := hide ((unhide HB11).trans (hb12.mono (unhide HB11).size))
  have HV312 := hide ((unhide HV311).below hb12 (by omega))
  have HM12 := hide ((unhide HM11).below hb12 (by omega))
  clear hb12 a11 HB11 HV311 HM11
  obtain ⟨p0, p1, p2⟩ := a12
  go_wp2_with fail
  refine (toStore_row fa fc ta tc sa sc s _ ((unhide HA).below (unhide HB12)) (unhide HS)).mono ?_
  rintro e w13 ⟨⟨m13, t13, s13, rfl, hrow13⟩, hb13⟩
  have z1213 : w12.heap.size ≤ w13.heap.size := hb13.size
  have HB13 := hide ((unhide HB12).trans (hb13.mono (unhide HB12).size))
  have HV313 := hide ((unhide HV312).below hb13 (by omega))
  have HM13 := hide ((unhide HM12).below hb13 (by omega))
  have HR13 := hide hrow13
  clear hb13 HB12 HV312 HM12 hrow13 p0 p1 p2
  go_wp2_with fail
  refine (implPairsOf m13 s.nf (some ⟨t13, 0, none⟩) s.nt (some ⟨s13, 0, none⟩) s.ns s i _ (lastsT _ _ (unhide HT) (unhide HB13)) (unhide HR13).fo (unhide HR13).ta.at (unhide HR13).si.at (unhide HS) (unhide HL).sk (unhide HW)).mono ?_
  rintro e w14 ⟨⟨u14, rfl, hv14⟩, hb14⟩
  have z1314 : w13.heap.size ≤ w14.heap.size := hb14.size
  have HB14 := hide ((unhide HB13).trans (hb14.mono (unhide HB13).size))
  have HV314 := hide ((unhide HV313).below hb14 (by omega))
  have HM14 := hide ((unhide HM13).below hb14 (by omega))
  have HV14 : Hid (PrS s i w14 u14 w13.heap.size w14.heap.size) := hide (PrV.of hv14)
  clear hb14 HB13 HV313 HM13 HR13 hv14
  go_wp2_with fail
  refine (eqPrV (unhide HV14) (unhide HV314) hpn).mono ?_
  rintro e w15 ⟨rfl, hb15⟩
  have z1415 : w14.heap.size ≤ w15.heap.size := hb15.size
  have HB15 := hide ((unhide HB14).trans (hb15.mono (unhide HB14).size))
  have HM15 := hide ((unhide HM14).below hb15 (by omega))
  clear hb15 HB14 HM14 HV14 HV314
  go_wp2_with fail
  refine (heldPrV (unhide HM15) hpn).mono ?_
  rintro e w16 ⟨rfl, hb16⟩
  rw [← unhide HQ]
  have HB16 := hide ((unhide HB15).trans (hb16.mono (unhide HB15).size))
  clear hb16 HB15 HM15
  go_wp2
  go_ret
  exact ⟨rfl, unhide HB16⟩
end Go.Proofs.YtfceeijdmilieaaGreatDoor
