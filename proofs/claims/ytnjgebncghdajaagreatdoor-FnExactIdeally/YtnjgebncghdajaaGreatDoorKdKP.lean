/-
  KdK.
-/
import Derived.Test.YtnjgebncghdajaaGreatDoorKdIP
import Derived.Test.YtnjgebncghdajaaGreatDoorKdDP
import Derived.Test.YtnjgebncghdajaaGreatDoorBi10
namespace Go.Proofs.YtnjgebncghdajaaGreatDoor
open Go.RowKit
set_option linter.unusedVariables false
set_option linter.unusedSimpArgs false
attribute [local go_sem] run_store_float run_equalIn_float

theorem act_cells {w : World} {b n : Nat} {g : Nat → Value} {f : Nat → Ac} (h : w.rowIs b 48 (n * 14) g) (hg : ∀ j, j < n * 14 → g j = acC f j) : ∀ i, i < n → ∀ j u, (acL (f i))[j]? = some u → w.cell? ⟨b, i * 14 + j, none⟩ = some u := by
  intro i hi j u hu
  have hj : j < 14 := (List.getElem?_eq_some_iff.1 hu).1
  rw [h.cell (i := i * 14 + j) (by omega), hg _ (by omega), acC_at f i j hj, hu]; rfl
/-- An ideal in a box. -/
def IBx (w : World) (p : Nat) (ok : Bool) (va vT : Value) : Prop := w.heap[p]? = some (.cells #[.bool ok, va, vT] 27 (0, 0))
theorem IBx.all {w : World} {p : Nat} {ok : Bool} {va vT : Value} (h : IBx w p ok va vT) : p < w.heap.size ∧ w.cell? ⟨p, 0, none⟩ = some (.bool ok) ∧ w.cell? ⟨p, 1, none⟩ = some va ∧ w.cell? ⟨p, 2, none⟩ = some vT := by
  unfold IBx at h
  refine ⟨blk_lt h, ?_, ?_, ?_⟩
  all_goals (rw [cell_of_row w p _ _ _ _ h]; rfl)
theorem IBx.below {w w' : World} {p B : Nat} {ok : Bool} {va vT : Value} (h : IBx w p ok va vT) (hb : Below B w w') (hp : p < B) : IBx w' p ok va vT := (hb.block p hp).trans h
theorem IdO.rats {w : World} {B : Nat} {aa ta : Option Addr} {n m ac tc : Nat} {g : Nat → An} {T : Nat → Pl} {U : Nat → Value} (h : IdO w B (.slice aa n ac) n g (.slice ta m tc) m T U) : RAt 12 w aa n (fun i => anL (g i)) ∧ TbAt w ta m T := ⟨AOwn.rat h.row, h.tab.tbat⟩

set_option maxRecDepth 100000 in
set_option maxHeartbeats 16000000 in
theorem law_ideally (a : Option Addr) (n cap : Nat) (f : Nat → Ac) (w : World) (hA : LAt w a n f) (hm : n ≤ maxLen) (hk : ∀ i, i < n → (f i).k.str.size ≤ maxLen ∧ (f i).v.str.size ≤ maxLen) (hE : ErrG w) :
    Calls Tryz.prog 3 #[.slice a n cap] w fun e w' => e = .returned (.bool true) ∧ Below w.heap.size w w' := by
  have HLA := hide hA
  have HE := hide hE
  have hEl := hE.lt
  have hN := rN_le n
  have hM := rM_le f n
  have HT := hide (rT_le f n)
  have HSZ := hide (szActS_any a n cap f w hA hm hk)
  clear hA hE hk hm
  go_enter Tryz.func3, Tryz.ntmps3
  go_wp2_with fail
  refine (unhide HSZ).mono ?_
  rintro e w1 ⟨⟨r, rfl, hr⟩, hb1⟩
  have HB1 := hide hb1
  clear hb1 HSZ
  rcases hr with rfl | ⟨hr0, hn⟩
  · go_wp2
    go_ret
    exact ⟨rfl, unhide HB1⟩
  have dr : decide (r < 0) = false := by simp; omega
  go_wp2_with fail
  refine (toActS_any a n cap f _ ((unhide HLA).below (unhide HB1)) hn).mono ?_
  rintro e w2 ⟨⟨rfl, g2, hr2, hg2⟩, hb2⟩
  have HB2 := hide ((unhide HB1).trans (hb2.mono (unhide HB1).size))
  have HA2 : Hid (AcAt w2 (.slice (some ⟨w1.heap.size, 0, none⟩) n n) n f) := hide ⟨_, _, rfl, hr2.lt, act_cells hr2 hg2⟩
  clear hr2 hg2 hb2 dr
  go_wp2_with fail
  refine (specIdeally_both w1.heap.size n n f _ (unhide HA2)).mono ?_
  rintro e w3 ⟨sa, sc, st, sd, SU, rfl, hS3, hb3⟩
  have HB3 := hide ((unhide HB2).trans (hb3.mono (unhide HB2).size))
  have HS3 := hide hS3.rats
  clear hS3 hb3 HA2
  go_wp2_with fail
  generalize hw3 : w3.alloc (.cells #[.bool (rOk n), .slice sa (rN n) sc, .slice st (rM f n) sd] 27) = v3
  have hbv3 : Below w3.heap.size w3 v3 := by rw [← hw3]; exact (Below.refl _ _).alloc (Nat.le_refl _) _
  have HP0 : Hid (IBx v3 w3.heap.size (rOk n) (.slice sa (rN n) sc) (.slice st (rM f n) sd)) := hide (by rw [← hw3]; exact Deep.blk_alloc_new _ _)
  have HS := hide (And.intro ((unhide HS3).1.below hbv3) ((unhide HS3).2.below hbv3))
  have HBv := hide ((unhide HB3).trans (hbv3.mono (unhide HB3).size))
  have zp0 : w3.heap.size < v3.heap.size := blk_lt (unhide HP0)
  clear hw3 hbv3 HS3
  refine (toActS_any a n cap f _ ((unhide HLA).below (unhide HBv)) hn).mono ?_
  rintro e w4 ⟨⟨rfl, g4, hr4, hg4⟩, hb4⟩
  have HV4 := hide hb4
  have HB4 := hide ((unhide HBv).trans (hb4.mono (unhide HBv).size))
  have HA4 : Hid (AcAt w4 (.slice (some ⟨v3.heap.size, 0, none⟩) n n) n f) := hide ⟨_, _, rfl, hr4.lt, act_cells hr4 hg4⟩
  have HR4 := hide (And.intro hr4 hg4)
  have zb2 : v3.heap.size < w4.heap.size := hr4.lt
  clear hr4 hg4 hb4
  go_wp2_with fail
  refine (implIdeally_both v3.heap.size n n f _ (unhide HA4) ((unhide HE).below (unhide HB4) hEl)).mono ?_
  rintro e w5 ⟨aa, ac, ta, tc, U, rfl, hI5, hb5⟩
  have HI5 := hide hI5
  have HV5 := hide ((unhide HV4).trans (hb5.mono (by omega)))
  have HB5 := hide ((unhide HB4).trans (hb5.mono (unhide HB4).size))
  have HR5 := hide (And.intro ((unhide HR4).1.of_block (hb5.block _ zb2)) (unhide HR4).2)
  have zw5 : w4.heap.size ≤ w5.heap.size := hb5.size
  clear hI5 hb5 HA4 HR4
  obtain ⟨y1, o0, o1, o2⟩ := ((unhide HP0).below (unhide HV5) zp0).all
  go_wp2_with fail
  generalize hw5 : w5.alloc (.cells #[.bool (rOk n), .slice aa (rN n) ac, .slice ta (rM f n) tc] 27) = v5
  have hbv5 : Below w5.heap.size w5 v5 := by rw [← hw5]; exact (Below.refl _ _).alloc (Nat.le_refl _) _
  have HP1 : Hid (IBx v5 w5.heap.size (rOk n) (.slice aa (rN n) ac) (.slice ta (rM f n) tc)) := hide (by rw [← hw5]; exact Deep.blk_alloc_new _ _)
  have HI := hide ((unhide HI5).keep (w' := v5) fun k hk => hbv5.block k ((unhide HI5).rng hk).2)
  have HRNG : Hid (∀ k, OwnI (.slice aa (rN n) ac) (.slice ta (rM f n) tc) U (rM f n) k → w4.heap.size ≤ k ∧ k < w5.heap.size) := hide (fun k hk => (unhide HI5).rng hk)
  have HV := hide ((unhide HV5).trans (hbv5.mono (by omega)))
  have HBx := hide ((unhide HB5).trans (hbv5.mono (unhide HB5).size))
  have HRx := hide (And.intro ((unhide HR5).1.of_block (hbv5.block _ (by omega))) (unhide HR5).2)
  have zp1 : w5.heap.size < v5.heap.size := blk_lt (unhide HP1)
  clear hbv5 HI5 HV5 HB5 HR5 HV4 hw5 y1 o0 o1 o2
  refine (eqIdeal_same (rOk n) aa sa ta st (rN n) (rM f n) ac sc tc sd (ansF f) (aft f n).T _ (unhide HI).rats.1 ((unhide HS).1.below (unhide HV)) (unhide HI).rats.2 ((unhide HS).2.below (unhide HV)) hN hM (unhide HT)).mono ?_
  rintro e w6 ⟨rfl, hb6⟩
  have HX6 := hide hb6
  have HB6 := hide ((unhide HBx).trans (hb6.mono (unhide HBx).size))
  clear hb6
  go_wp2_with fail
  refine (toActS_any a n cap f _ ((unhide HLA).below (unhide HB6)) hn).mono ?_
  rintro e w7 ⟨⟨rfl, g7, hr7, hg7⟩, hb7⟩
  have HX7 := hide ((unhide HX6).trans (hb7.mono (unhide HX6).size))
  have HB7 := hide ((unhide HB6).trans (hb7.mono (unhide HB6).size))
  have HN7 : Hid (RAt 14 w7 (some ⟨w6.heap.size, 0, none⟩) n (fun i => acL (f i))) := hide (.inr ⟨_, rfl, hr7.lt, act_cells hr7 hg7⟩)
  have hr7' := (unhide HRx).1.of_block ((unhide HX7).block _ (by omega))
  have HO7 : Hid (RAt 14 w7 (some ⟨v3.heap.size, 0, none⟩) n (fun i => acL (f i))) := hide (.inr ⟨_, rfl, hr7'.lt, act_cells hr7' (unhide HRx).2⟩)
  clear hr7 hg7 hb7 hr7'
  go_wp2_with fail
  refine (eqActS_sameR (some ⟨v3.heap.size, 0, none⟩) (some ⟨w6.heap.size, 0, none⟩) n n n f _ (unhide HO7) (unhide HN7) (by omega)).mono ?_
  rintro e w8 ⟨rfl, hb8⟩
  have HX8 := hide ((unhide HX7).trans (hb8.mono (unhide HX7).size))
  have HB8 := hide ((unhide HB7).trans (hb8.mono (unhide HB7).size))
  have HR8 := hide ((unhide HRx).1.of_block ((unhide HX8).block _ (by omega)))
  clear hb8 HO7 HN7 HRx
  go_wp2_with fail
  refine (markActR v3.heap.size n n (n * 14) 1 g4 _ (unhide HR8) (Nat.le_refl _) (by omega) (by omega)).mono ?_
  rintro e w9 ⟨⟨rfl, g9, hr9, hg9⟩, hbu⟩
  have z8 := (unhide HX8).size
  have hq9 : ∀ k, k < v5.heap.size → k ≠ v3.heap.size → w9.heap[k]? = v5.heap[k]? := fun k hk hne => (hbu.block k (by omega) hne).trans ((unhide HX8).block k hk)
  have hv9 : Below v3.heap.size w8 w9 := hbu.below (Nat.le_refl _) (by omega)
  have HV9 := hide (((unhide HV).trans ((unhide HX8).mono (by omega))).trans hv9)
  have HB9 := hide ((unhide HB8).trans (hv9.mono (by have := (unhide HBv).size; omega)))
  have HI9 := hide ((unhide HI).keep (w' := w9) fun k hk => hq9 k (by have := (unhide HRNG k hk).2; omega) (by have := (unhide HRNG k hk).1; omega))
  have HP9 : Hid (IBx w9 w5.heap.size (rOk n) (.slice aa (rN n) ac) (.slice ta (rM f n) tc)) := hide ((hq9 _ zp1 (by omega)).trans (unhide HP1))
  have z9 : v5.heap.size ≤ w9.heap.size := by have := hbu.size; omega
  have dk : decide (((1 : Nat) : Int) + 14 * (n : Int) < 0) = false := by simp; omega
  have dk' : decide ((1 : Int) + 14 * (n : Int) < 0) = false := by simp; omega
  clear hr9 hg9 hbu hq9 hv9
  obtain ⟨y0, q0, q1, q2⟩ := (unhide HP9).all
  obtain ⟨y1, o0, o1, o2⟩ := ((unhide HP0).below (unhide HV9) zp0).all
  go_wp2_with fail
  refine (eqIdeal_same (rOk n) aa sa ta st (rN n) (rM f n) ac sc tc sd (ansF f) (aft f n).T _ (unhide HI9).rats.1 ((unhide HS).1.below (unhide HV9)) (unhide HI9).rats.2 ((unhide HS).2.below (unhide HV9)) hN hM (unhide HT)).mono ?_
  rintro e w10 ⟨rfl, hb10⟩
  have HV10 := hide ((unhide HV9).trans (hb10.mono (by omega)))
  have HB10 := hide ((unhide HB9).trans (hb10.mono (unhide HB9).size))
  have HI10 := hide ((unhide HI9).keep (w' := w10) fun k hk => hb10.block k ((unhide HI9).rng hk).2)
  have HP10 := hide ((unhide HP9).below hb10 y0)
  have z10 : w9.heap.size ≤ w10.heap.size := hb10.size
  clear hb10 y0 q0 q1 q2 y1 o0 o1 o2 HI9 HP9
  obtain ⟨y0, q0, q1, q2⟩ := (unhide HP10).all
  go_wp2_with fail
  refine (markIdeal_own (rOk n) w4.heap.size (rN n) (rM f n) ac tc aa ta (ansF f) (aft f n).T U _ (unhide HI10) hN hM (unhide HT)).mono ?_
  rintro e w11 ⟨rfl, hra, hrt, hd11⟩
  have hvd : Below v3.heap.size w10 w11 := ⟨hd11.os, hd11.tape, hd11.output, hd11.size, fun k hk => hd11.block k (by omega) (fun e => by have := (unhide HRNG k e).1; omega)⟩
  have HV11 := hide ((unhide HV10).trans hvd)
  have HB11 := hide ((unhide HB10).trans (hvd.mono (by have := (unhide HBv).size; omega)))
  have HP11 : Hid (IBx w11 w5.heap.size (rOk n) (.slice aa (rN n) ac) (.slice ta (rM f n) tc)) := hide ((hd11.block _ y0 (fun e => by have := (unhide HRNG _ e).2; omega)).trans (unhide HP10))
  have HMK := hide (And.intro hra hrt)
  have z11 : w10.heap.size ≤ w11.heap.size := hd11.size
  clear hra hrt hd11 hvd y0 q0 q1 q2 HI10 HP10
  obtain ⟨z, hz⟩ : ∃ z, sAt (aft f n).T (1 + 12 * rN n) (rM f n) = z := ⟨_, rfl⟩
  have HZ := hide hz
  rw [hz]
  clear hz
  have dz : decide ((z : Int) < 0) = false := by simp
  obtain ⟨y0, q0, q1, q2⟩ := (unhide HP11).all
  go_wp2_with fail
  refine (heldIdeal_at (rOk n) (rN n) (rM f n) ac tc aa ta (aft f n).T _ (unhide HMK).1 (unhide HMK).2 hN hM (unhide HT)).mono ?_
  rw [unhide HZ]
  rintro e w12 ⟨rfl, hb12⟩
  have HM12 := hide hb12
  have HV12 := hide ((unhide HV11).trans (hb12.mono (by omega)))
  have HB12 := hide ((unhide HB11).trans (hb12.mono (unhide HB11).size))
  clear hb12 y0 q0 q1 q2
  go_wp2_with fail
  refine (toActS_any a n cap f _ ((unhide HLA).below (unhide HB12)) hn).mono ?_
  rintro e w13 ⟨⟨rfl, g13, hr13, hg13⟩, hb13⟩
  have HM13 := hide ((unhide HM12).trans (hb13.mono (unhide HM12).size))
  have HV13 := hide ((unhide HV12).trans (hb13.mono (unhide HV12).size))
  have HB13 := hide ((unhide HB12).trans (hb13.mono (unhide HB12).size))
  have HA13 : Hid (AcAt w13 (.slice (some ⟨w12.heap.size, 0, none⟩) n n) n f) := hide ⟨_, _, rfl, hr13.lt, act_cells hr13 hg13⟩
  clear hr13 hg13 hb13
  go_wp2_with fail
  refine (implIdeally_both w12.heap.size n n f _ (unhide HA13) ((unhide HE).below (unhide HB13) hEl)).mono ?_
  rintro e w14 ⟨aa2, ac2, ta2, tc2, U2, rfl, hI14, hb14⟩
  have HI14 := hide hI14
  have HM14 := hide ((unhide HM13).trans (hb14.mono (unhide HM13).size))
  have HV14 := hide ((unhide HV13).trans (hb14.mono (unhide HV13).size))
  have HB14 := hide ((unhide HB13).trans (hb14.mono (unhide HB13).size))
  clear hI14 hb14 HA13
  obtain ⟨y1, o0, o1, o2⟩ := ((unhide HP0).below (unhide HV14) zp0).all
  go_wp2_with fail
  generalize hw14 : w14.alloc (.cells #[.bool (rOk n), .slice aa2 (rN n) ac2, .slice ta2 (rM f n) tc2] 27) = v14
  have hbv14 : Below w14.heap.size w14 v14 := by rw [← hw14]; exact (Below.refl _ _).alloc (Nat.le_refl _) _
  have HI := hide ((unhide HI14).keep (w' := v14) fun k hk => hbv14.block k ((unhide HI14).rng hk).2)
  have HMv := hide ((unhide HM14).trans (hbv14.mono (unhide HM14).size))
  have HVv := hide ((unhide HV14).trans (hbv14.mono (unhide HV14).size))
  have HBvv := hide ((unhide HB14).trans (hbv14.mono (unhide HB14).size))
  clear hbv14 hw14 y1 o0 o1 o2
  refine (eqIdeal_same (rOk n) aa2 sa ta2 st (rN n) (rM f n) ac2 sc tc2 sd (ansF f) (aft f n).T _ (unhide HI).rats.1 ((unhide HS).1.below (unhide HVv)) (unhide HI).rats.2 ((unhide HS).2.below (unhide HVv)) hN hM (unhide HT)).mono ?_
  rintro e w15 ⟨rfl, hb15⟩
  have HM15 := hide ((unhide HMv).trans (hb15.mono (unhide HMv).size))
  have HB15 := hide ((unhide HBvv).trans (hb15.mono (unhide HBvv).size))
  clear hb15
  obtain ⟨y0, q0, q1, q2⟩ := ((unhide HP11).below (unhide HM15) (by omega)).all
  go_wp2_with fail
  refine (heldIdeal_at (rOk n) (rN n) (rM f n) ac tc aa ta (aft f n).T _ ((unhide HMK).1.below (unhide HM15)) ((unhide HMK).2.below (unhide HM15)) hN hM (unhide HT)).mono ?_
  rw [unhide HZ]
  rintro e w16 ⟨rfl, hb16⟩
  have HB16 := hide ((unhide HB15).trans (hb16.mono (unhide HB15).size))
  clear hb16 y0 q0 q1 q2
  go_wp2_with fail
  go_ret
  exact ⟨rfl, unhide HB16⟩
end Go.Proofs.YtnjgebncghdajaaGreatDoor
