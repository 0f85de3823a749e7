/-
  JdF, JdH, JdI.
-/
import Derived.Test.YtnjgebncghdajaaGreatDoorJdEP
import Derived.Test.YtnjgebncghdajaaGreatDoorJdPP
import Derived.Test.YtnjgebncghdajaaGreatDoorBi8
namespace Go.Proofs.YtnjgebncghdajaaGreatDoor
open Go.RowKit
set_option linter.unusedVariables false
set_option linter.unusedSimpArgs false
attribute [local go_sem] run_store_float run_equalIn_float

theorem ErrG.dst {O O' : Nat → Prop} {w w' : World} (h : ErrG w) (hd : Dst O w O' w') (hO : ¬ O 0) : ErrG w' :=
  (World.cell?_of_block (hd.block _ h.lt hO)).trans h
set_option maxRecDepth 100000 in
set_option maxHeartbeats 8000000 in
theorem act_any (c B : Nat) (vT vS : Value) (U : Nat → Value) (D : Ds) (a : Ac) (w : World) (hD : DeskM 55 w c B vT vS U D) (hG : D.Good) (hE : ErrG w) (hB : 0 < B) :
    Calls Tryz.prog 17 #[.pointer (some ⟨c, 0, none⟩), AcV a] w fun e w' => e = .returned (AnV (D.ans a)) ∧ ∃ vT' vS' U', DeskM 55 w' c B vT' vS' U' (D.step a) ∧ Dst (OwnD c vT vS U D.nt) w (OwnD c vT' vS' U' (D.step a).nt) w' := by
  obtain ⟨W, hW, hb0, hA, hR, hz⟩ := boxes w a
  have HO : Hid (∀ k, OwnD c vT vS U D.nt k → k < w.heap.size) := hide (fun k h => (hD.rng h).2)
  have hEO : ¬ OwnD c vT vS U D.nt 0 := fun h => by have := (hD.rng h).1; omega
  have hEl : 0 < w.heap.size := hE.lt
  have hcl := hD.lt
  have HM := hide (hD.below hb0)
  have HNO : Hid (¬ OwnD c vT vS U D.nt (w.heap.size + 1)) := hide (fun h => by have := (hD.rng h).2; omega)
  have HE := hide (hE.below hb0 hEl)
  have HB := hide hb0
  have HQ := hide hR
  have HG := hide hG
  have HEO := hide hEO
  clear hD hb0 hA hR hG hE hEO
  go_enter Tryz.func17, Tryz.ntmps17
  go_wp2_with fail
  rw [← hW]
  clear hW
  refine (try_any c B vT vS U D a _ (unhide HM) (unhide HG)).mono ?_
  rintro e w1 ⟨x, cd, rfl, hx, vT', vS', U', hM1, hD1⟩
  have HXC := hide hx
  have HM1 := hide hM1
  have HD1 := hide hD1
  have HE1 := hide ((unhide HE).dst hD1 (unhide HEO))
  have HQ1 := hide ((unhide HQ).dst hD1 (unhide HNO))
  have z1 : W.heap.size ≤ w1.heap.size := hD1.size
  have HNO1 : Hid (∀ k, OwnD c vT' vS' U' (D.step a).nt k → k ≠ w.heap.size + 1) := hide (fun k h e => by
    rcases hD1.own k h with h1 | h1
    · have := unhide HO k h1; omega
    · omega)
  clear hx hM1 hD1
  rw [show AnV x = anO x from rfl]
  have HF : Hid (∀ w4, w4 = w1.alloc (.cells (anL x).toArray 50) → Below w1.heap.size w1 w4 ∧ w4.heap[w1.heap.size]? = some (.cells (anL x).toArray 50 (0, 0))) := hide (fun w4 h => by
    exact ⟨by rw [h]; exact (Below.refl _ _).alloc (Nat.le_refl _) _, by rw [h]; exact Deep.blk_alloc_new _ _⟩)
  go_simp
  rename_i hKs
  refine hKs _ _ ?_
  iterate 4
    refine wpList_plain rfl fun K hK => ?_
    go_simp
    refine hK _ _ ?_
    clear hK K
  refine wpList_store rfl rfl _ (st_ans w1 x) ?_
  generalize hw4 : w1.alloc (.cells (anL x).toArray 50) = w4
  obtain ⟨hb4, hx4⟩ := unhide HF _ hw4.symm
  have HX4 := hide hx4
  have HB4 := hide hb4
  have z4 := hb4.size
  clear hw4 hb4 hx4 HF
  go_wp2_with fail
  refine (codeOf_any cd _ ((unhide HE1).below (unhide HB4) (by have := (unhide HE1).lt; exact this))).mono ?_
  rintro e w5 ⟨rfl, hb5⟩
  have HX5 : Hid (w5.heap[w1.heap.size]? = some (.cells (anL x).toArray 50 (0, 0))) := hide ((hb5.block _ (blk_lt (unhide HX4))).trans (unhide HX4))
  have HB5 := hide ((unhide HB4).trans (hb5.mono z4))
  have z5 : w1.heap.size < w5.heap.size := Nat.lt_of_lt_of_le (blk_lt (unhide HX4)) hb5.size
  have zr : w.heap.size + 1 < w5.heap.size := by omega
  obtain ⟨r0, r1, r2, r3, r4, r5, r6, r7, r8, r9, r10, r11⟩ := ((unhide HQ1).below (unhide HB5) (by omega)).all
  have fr := ((unhide HQ1).below (unhide HB5) (by omega)).frozen
  have HFIN : Hid (∀ y : An, DeskM 55 (set12 w5 (w.heap.size + 1) y) c B vT' vS' U' (D.step a) ∧ Dst (OwnD c vT vS U D.nt) w (OwnD c vT' vS' U' (D.step a).nt) (set12 w5 (w.heap.size + 1) y)) := hide (fun y => fin12 rfl y (unhide HB) (unhide HO) (by omega) hz ((unhide HM1).below (unhide HB5)) ((unhide HD1).below (unhide HB5)))
  clear hb5 HX4 HB4
  by_cases h0 : cd = 0
  · have d0 : (cd != 0) = false := by simp [h0]
    have d1 : (cd == 0) = true := by simp [h0]
    have HR : Hid (D.ans a = x) := hide ((unhide HXC).1 h0).symm
    clear h0
    have q0 := cell_of_row w5 w1.heap.size 0 _ _ _ (unhide HX5)
    have q1 := cell_of_row w5 w1.heap.size 1 _ _ _ (unhide HX5)
    have q2 := cell_of_row w5 w1.heap.size 2 _ _ _ (unhide HX5)
    have q3 := cell_of_row w5 w1.heap.size 3 _ _ _ (unhide HX5)
    have q4 := cell_of_row w5 w1.heap.size 4 _ _ _ (unhide HX5)
    have q5 := cell_of_row w5 w1.heap.size 5 _ _ _ (unhide HX5)
    have q6 := cell_of_row w5 w1.heap.size 6 _ _ _ (unhide HX5)
    have q7 := cell_of_row w5 w1.heap.size 7 _ _ _ (unhide HX5)
    have q8 := cell_of_row w5 w1.heap.size 8 _ _ _ (unhide HX5)
    have q9 := cell_of_row w5 w1.heap.size 9 _ _ _ (unhide HX5)
    have q10 := cell_of_row w5 w1.heap.size 10 _ _ _ (unhide HX5)
    have q11 := cell_of_row w5 w1.heap.size 11 _ _ _ (unhide HX5)
    simp only [anL, List.getElem?_toArray, List.getElem?_cons_zero, List.getElem?_cons_succ] at q0 q1 q2 q3 q4 q5 q6 q7 q8 q9 q10 q11
    go_wp2_with fail
    refine bodyPost_ret (v := AnV x) (by simp [results, Tryz.results17, go_sem, zr, r0, r1, r2, r3, r4, r5, r6, r7, r8, r9, r10, r11]) rfl ?_
    rw [unhide HR]
    exact ⟨rfl, _, _, _, unhide HFIN x⟩
  · have d0 : (cd != 0) = true := by simp [h0]
    have d1 : (cd == 0) = false := by simp [h0]
    have HR : Hid (D.ans a = ansC cd) := hide ((unhide HXC).2 h0)
    clear h0
    go_wp2_with fail
    refine bodyPost_ret (v := AnV (ansC cd)) (by simp [results, Tryz.results17, go_sem, zr, r0, r1, r2, r3, r4, r5, r6, r7, r8, r9, r10, r11, ansC]) rfl ?_
    rw [unhide HR]
    exact ⟨rfl, _, _, _, unhide HFIN (ansC cd)⟩
end Go.Proofs.YtnjgebncghdajaaGreatDoor
namespace Go.Proofs.YtnjgebncghdajaaGreatDoor
open Go.RowKit
set_option linter.unusedVariables false
set_option linter.unusedSimpArgs false
attribute [local go_sem] run_store_float run_equalIn_float

structure ImRel (w : World) (B c : Nat) (f : Nat → Ac) (q : Nat) (va vT vS : Value) (U : Nat → Value) (wr : World) : Prop where
  dm : DeskM 55 wr c B vT vS U (aft f q)
  row : AOwn wr B va q (ansF f)
  apart : ∀ k, va.ownBlock = some k → ¬ OwnD c vT vS U (aft f q).nt k
  below : Below B w wr
theorem ImRel.step {w : World} {B c : Nat} {f : Nat → Ac} {q : Nat} {va vT vS vT' vS' : Value} {U U' : Nat → Value} {wr w2 w3 w4 w5 : World} {g3 cp3 : Nat} (h : ImRel w B c f q va vT vS U wr)
    (h2 : Below wr.heap.size wr w2) (hM : DeskM 55 w3 c B vT' vS' U' (aft f (q + 1))) (hD : Dst (OwnD c vT vS U (aft f q).nt) w2 (OwnD c vT' vS' U' (aft f (q + 1)).nt) w3)
    (h4 : Below w3.heap.size w3 w4) (h5 : w4.grownBy w5 va.ownBlock) (hown : w5.ownsRow B 50 12 (.slice (some ⟨g3, 0, none⟩) (q + 1) cp3) (q + 1) (anR (ansF f) q ++ anL (ansF f q))) (hloc : va.ownBlock = some g3 ∨ g3 = w4.heap.size) :
    ImRel w B c f (q + 1) (.slice (some ⟨g3, 0, none⟩) (q + 1) cp3) vT' vS' U' w5 := by
  have hBl : B ≤ wr.heap.size := by have := h.dm.base; have := h.dm.lt; omega
  have z2 := h2.size
  have z3 := hD.size
  have z4 := h4.size
  have z5 := h5.size
  have hrow := h.row.lt
  have gw : ∀ k, k < wr.heap.size → ¬ OwnD c vT vS U (aft f q).nt k → va.ownBlock ≠ some k → w5.heap[k]? = wr.heap[k]? := fun k hk hn hv => (h5.block k (by omega) (fun e => hv e.symm)).trans ((h4.block k (by omega)).trans ((hD.block k (by omega) hn).trans (h2.block k hk)))
  have own' : ∀ k, OwnD c vT' vS' U' (aft f (q + 1)).nt k → (∀ k', va.ownBlock = some k' → k ≠ k') ∧ k < w3.heap.size := fun k hk => by
    refine ⟨?_, (hM.rng hk).2⟩
    intro k' e1 e; subst e
    rcases hD.own _ hk with h1 | h1
    · exact h.apart _ e1 h1
    · have := (hrow _ e1).2; omega
  refine ⟨hM.keep fun k hk => ?_, hown, ?_, ?_⟩
  · have hk' := own' k hk
    have hkl := hk'.2
    exact (h5.block k (by omega) (fun e => hk'.1 k e.symm rfl)).trans (h4.block k hkl)
  · intro k e hk
    cases e
    have hk' := own' _ hk
    rcases hloc with h1 | h1
    · exact hk'.1 _ h1 rfl
    · have h2 : g3 < w3.heap.size := hk'.2
      omega
  · have hb := h.below
    refine ⟨by rw [h5.os, h4.os, hD.os, h2.os, hb.os], by rw [h5.tape, h4.tape, hD.tape, h2.tape, hb.tape], by rw [h5.output, h4.output, hD.output, h2.output, hb.output], by have := hb.size; omega, fun k hk => ?_⟩
    have hn : ¬ OwnD c vT vS U (aft f q).nt k := fun e => by have := (h.dm.rng e).1; omega
    have hv : va.ownBlock ≠ some k := fun e => by have := (hrow k e).1; omega
    exact (gw k (by omega) hn hv).trans (hb.block k hk)
abbrev actF (c : Nat) : Value := .func (.func 17) #[.pointer (some ⟨c, 0, none⟩)] #[]

set_option maxRecDepth 100000 in
set_option maxHeartbeats 8000000 in
theorem answers_any (c B ab acp : Nat) (vT vS : Value) (U : Nat → Value) (n : Nat) (f : Nat → Ac) (w : World) (hn : n ≤ 1000) (hab : ab < B) (hcs : ∀ i, i < n → ∀ j u, (ActBx (f i)).toList[j]? = some u → w.cell? ⟨ab, i * 14 + j, none⟩ = some u) (hD : DeskM 55 w c B vT vS U ds0) (hE : ErrG w) (hB : 0 < B) :
    Calls Tryz.prog 16 #[actF c, .slice (some ⟨ab, 0, none⟩) n acp] w fun e w' => ∃ va vT' vS' U', e = .returned va ∧ ImRel w B c f n va vT' vS' U' w' := by
  have hBw : B ≤ w.heap.size := by have := hD.base; have := hD.lt; omega
  obtain ⟨i0, hi0, hz0, hz1, hz2⟩ := info_parts infoAns
  obtain ⟨W, hmk, hown0, hgr0⟩ := run_make_own (P := Tryz.prog) w B 24 50 i0 (.agg An0) 12 Tryz.underlying24 hi0 hz0 hz1 .i64 .i64 n (by rw [hz2]; omega) (by unfold maxLen; omega) hBw
  have hb0 : Below w.heap.size w W := grown_below1 hgr0 (fun q e => by cases e) (Nat.le_refl _)
  have H0 : Hid (ImRel w B c f 0 (.slice (some ⟨w.heap.size, 0, none⟩) 0 n) vT vS U W) := hide
    ⟨hD.below hb0, hown0, fun k e hk => by
      cases e
      have := (hD.rng hk).2
      exact Nat.lt_irrefl _ this, hb0.mono hBw⟩
  have HCS := hide hcs
  have HE := hide hE
  clear hcs hD hE hown0 hgr0 hb0
  go_enter Tryz.func16, Tryz.ntmps16
  go_wp2_with fail
  go_loopw [5, 13] (fun o ix wr => ∃ (q : Nat) (va vT' vS' : Value) (U' : Nat → Value), q ≤ n ∧ ix = .int .i64 q ∧ va = o ∧ ImRel w B c f q va vT' vS' U' wr) (fun _ ix _ => n - (intOf ix).toNat)
  case atStart => exact ⟨0, _, _, _, _, Nat.zero_le _, rfl, rfl, unhide H0⟩
  case round =>
    obtain ⟨q, va, vT1, vS1, U1, hq, rfl, rfl, hR⟩ := hrel
    have HR := hide hR
    have hwr : w.heap.size ≤ wr.heap.size := hR.below.size
    have habr : ab < wr.heap.size := by omega
    by_cases hqn : q < n
    · have hc14 : ∀ j u, (ActBx (f q)).toList[j]? = some u → wr.cell? ⟨ab, q * 14 + j, none⟩ = some u := fun j u hu => (hR.below.cell (p := ⟨ab, q * 14 + j, none⟩) hab).trans (unhide HCS q hqn j u hu)
      have b0 := hc14 0 _ rfl; have b1 := hc14 1 _ rfl; have b2 := hc14 2 _ rfl; have b3 := hc14 3 _ rfl; have b4 := hc14 4 _ rfl; have b5 := hc14 5 _ rfl; have b6 := hc14 6 _ rfl
      have b7 := hc14 7 _ rfl; have b8 := hc14 8 _ rfl; have b9 := hc14 9 _ rfl; have b10 := hc14 10 _ rfl; have b11 := hc14 11 _ rfl; have b12 := hc14 12 _ rfl; have b13 := hc14 13 _ rfl
      rw [Nat.add_zero] at b0
      have HE1 : Hid (ErrG (wr.alloc (.cells (ActBx (f q)) 48))) := hide ((unhide HE).below (hR.below.trans ((Below.refl B wr).alloc (by omega) _)) hB)
      clear hR hc14
      go_wp2_with fail
      refine (act_any c B vT1 vS1 U1 (aft f q) (f q) _ ((unhide HR).dm.below ((Below.refl _ _).alloc (Nat.le_refl _) _)) (aft_good f q) (unhide HE1) hB).mono ?_
      rintro e w3 ⟨rfl, vT2, vS2, U2, hM3, hD3⟩
      have HM3 : Hid (DeskM 55 w3 c B vT2 vS2 U2 (aft f (q + 1))) := hide hM3
      have HD3 : Hid (Dst (OwnD c vT1 vS1 U1 (aft f q).nt) (wr.alloc (.cells (ActBx (f q)) 48)) (OwnD c vT2 vS2 U2 (aft f (q + 1)).nt) w3) := hide hD3
      obtain ⟨x, hx⟩ : ∃ x, ansF f q = x := ⟨_, rfl⟩
      rw [show (aft f q).ans (f q) = x from hx]
      have HXX := hide hx
      have z3 : wr.heap.size + 1 ≤ w3.heap.size := by have := hD3.size; simpa using this
      clear hM3 hD3 hx b0 b1 b2 b3 b4 b5 b6 b7 b8 b9 b10 b11 b12 b13
      have HOW : Hid ((w3.alloc (.cells (anL x).toArray 50)).ownsRow B 50 12 va q (anR (ansF f) q)) := hide (World.ownsRow.alloc (own_keep (unhide HR).row fun k e => by
        have hk := ((unhide HR).row.lt k e).2
        exact ((unhide HD3).block _ (by simp; omega) (fun e2 => (unhide HR).apart k e e2)).trans (Deep.blk_alloc_lt _ _ _ hk)) _)
      have zb : B ≤ w3.heap.size + 1 := by omega
      have HST : Hid (∀ g3 cp3 w5, w5.ownsRow B 50 12 (.slice (some ⟨g3, 0, none⟩) (q + 1) cp3) (q + 1) (anR (ansF f) q ++ anL x) → (w3.alloc (.cells (anL x).toArray 50)).grownBy w5 va.ownBlock → (va.ownBlock = some g3 ∨ g3 = w3.heap.size + 1) →
          ImRel w B c f (q + 1) (.slice (some ⟨g3, 0, none⟩) (q + 1) cp3) vT2 vS2 U2 w5) := hide (fun g3 cp3 w5 k1 k2 k3 =>
        (unhide HR).step ((Below.refl _ _).alloc (Nat.le_refl _) (.cells (ActBx (f q)) 48)) (unhide HM3) (unhide HD3) ((Below.refl _ _).alloc (Nat.le_refl _) _) k2 (by rw [unhide HXX]; exact k1) (k3.imp id (fun e => by rw [e]; simp)))
      go_wp2_with (first | (at_builtin; refine wpList_append_lies _ rfl _ _ 24 rfl B 50 i0 (.agg An0) 12 112 Tryz.underlying24 hi0 hz0 hz1 hz2 rfl (by decide) va q (anR (ansF f) q) rfl (unhide HOW) ⟨w3.heap.size, 0, none⟩ 1 1 (anL x) rfl rfl (World.news_of_block (Deep.blk_alloc_new w3 _)) (anL_one x) (by decide) (by unfold maxLen; omega) (by omega) (by simp; omega) (w3.heap.size + 1) (by simp) ?_; intro g3 cp3 w5 hown3 hgr3 hloc3 hlt3; have HR5 := hide (unhide HST g3 cp3 w5 hown3 hgr3 hloc3); clear hown3 hgr3 hloc3) | go_in)
      go_roundw
      case rel => exact ⟨q + 1, _, _, _, _, by omega, by go_num, rfl, unhide HR5⟩
      case measure => simp [intOf]; omega
    · have hqe : q = n := by omega
      subst hqe
      clear hR
      go_wp2_with fail
      go_ret
      exact ⟨va, _, _, _, rfl, unhide HR⟩
end Go.Proofs.YtnjgebncghdajaaGreatDoor
namespace Go.Proofs.YtnjgebncghdajaaGreatDoor
open Go.RowKit
set_option linter.unusedVariables false
set_option linter.unusedSimpArgs false
attribute [local go_sem] run_store_float run_equalIn_float

theorem DeskM.mono {ty : TypeId} {w : World} {c B B' : Nat} {vT vS : Value} {U : Nat → Value} {D : Ds} (h : DeskM ty w c B vT vS U D) (hb : B' ≤ B) : DeskM ty w c B' vT vS U D :=
  ⟨Nat.le_trans hb h.base, h.blk, own_mono1 h.tb hb, fun i hi => own_mono1 (h.pr i hi) hb, own_mono1 h.st hb, h.tc, h.sc, h.uc, h.ts, h.tu, h.su, h.uu⟩

set_option maxRecDepth 100000 in
set_option maxHeartbeats 8000000 in
theorem implIdeally_any (v : Value) (n : Nat) (f : Nat → Ac) (w : World) (hA : AcAt w v n f) (hn : n ≤ 1000) (hE : ErrG w) :
    Calls Tryz.prog 7 #[v] w fun e w' => ∃ c va vT vS U, e = .returned (IdV true va vT) ∧ IdEnd 55 w w' c n f va vT vS U := by
  obtain ⟨W, hW⟩ : ∃ W, W = (w.alloc (.cells #[.bool false, .slice none 0 0, .slice none 0 0] 27)).alloc (.cells #[.slice none 0 0, .slice none 0 0] 55) := ⟨_, rfl⟩
  have hb0 : Below w.heap.size w W := by rw [hW]; exact ((Below.refl _ _).alloc (Nat.le_refl _) _).alloc (by simp) _
  have hrb : W.heap[w.heap.size]? = some (.cells #[.bool false, .slice none 0 0, .slice none 0 0] 27 (0, 0)) := by
    rw [hW, Deep.blk_alloc_lt _ _ _ (by simp)]; exact Deep.blk_alloc_new _ _
  have hc : W.heap[w.heap.size + 1]? = some (.cells #[.slice none 0 0, .slice none 0 0] 55 (0, 0)) := by
    have h := Deep.blk_alloc_new (w.alloc (.cells #[.bool false, .slice none 0 0, .slice none 0 0] 27)) (.cells #[.slice none 0 0, .slice none 0 0] 55)
    rw [show (w.alloc (.cells #[.bool false, .slice none 0 0, .slice none 0 0] 27)).heap.size = w.heap.size + 1 by simp] at h
    rw [hW]; exact h
  obtain ⟨ab, acp, rfl, habl, hcs⟩ := hA
  have hEl := hE.lt
  have HANS := hide (answers_any (w.heap.size + 1) (w.heap.size + 1) ab acp _ _ _ n f W hn (by omega) (fun i hi j u hu => (hb0.cell (p := ⟨ab, i * 14 + j, none⟩) habl).trans (hcs i hi j u hu)) (desk0 (Nat.le_refl _) hc) (hE.below hb0 hEl) (by omega))
  have HB := hide hb0
  have HRB := hide hrb
  have d0 : decide ((1000 : Int) < (n : Int)) = false := by simp; omega
  clear hcs hb0 hrb hc hE
  go_enter Tryz.func7, Tryz.ntmps7
  go_wp2_with fail
  rw [← hW]
  clear hW
  refine (unhide HANS).mono ?_
  rintro e w1 ⟨va, vT, vS, U, rfl, hR⟩
  have r1 := (hR.below.block w.heap.size (by omega)).trans (unhide HRB)
  obtain ⟨c0, c1⟩ := hR.dm.cells
  have zc := hR.dm.lt
  have zr := blk_lt r1
  obtain ⟨ta, tcp, rfl⟩ := own_slice hR.dm.tb
  obtain ⟨va1, vcp, rfl⟩ := own_slice hR.row
  have p0 : w1.cell? ⟨w.heap.size, 0, none⟩ = some (.bool false) := by rw [cell_of_row w1 _ 0 _ _ _ r1]; rfl
  have p1 : w1.cell? ⟨w.heap.size, 1, none⟩ = some (.slice none 0 0) := by rw [cell_of_row w1 _ 1 _ _ _ r1]; rfl
  have p2 : w1.cell? ⟨w.heap.size, 2, none⟩ = some (.slice none 0 0) := by rw [cell_of_row w1 _ 2 _ _ _ r1]; rfl
  have fp : ∀ j, w1.frozen? ⟨w.heap.size, j, none⟩ = false := fun j => by simp [World.frozen?, r1]
  have HFIN : Hid (∀ w', (∀ k, k ≠ w.heap.size → w'.heap[k]? = w1.heap[k]?) → w'.os = w1.os → w'.tape = w1.tape → w'.output = w1.output → w'.heap.size = w1.heap.size → IdEnd 55 w w' (w.heap.size + 1) n f (.slice va1 n vcp) (.slice ta (aft f n).nt tcp) vS U) := hide (fun w' hk h1 h2 h3 h4 => by
    have hb := (unhide HB).trans (hR.below.mono (by omega : w.heap.size ≤ w.heap.size + 1))
    exact ⟨(hR.dm.keep fun k hk2 => hk k (by have := (hR.dm.rng hk2).1; omega)).mono (by omega), own_mono1 (own_keep hR.row fun k e => hk k (by have := (hR.row.lt k e).1; omega)) (by omega), hR.apart, ⟨by rw [h1, hb.os], by rw [h2, hb.tape], by rw [h3, hb.output], by rw [h4]; exact hb.size, fun k hk2 => (hk k (by omega)).trans (hb.block k hk2)⟩⟩)
  clear hR r1
  go_wp2_with fail
  refine bodyPost_ret (v := IdV true (.slice va1 n vcp) (.slice ta (aft f n).nt tcp)) (by simp [results, Tryz.results7, go_sem, p0, p1, p2]) rfl ⟨w.heap.size + 1, .slice va1 n vcp, .slice ta (aft f n).nt tcp, vS, U, rfl, unhide HFIN _ ?_ ?_ ?_ ?_ ?_⟩
  · intro k h1
    repeat rw [Deep.blk_setCell_other _ _ _ _ (by exact h1)]
  all_goals first | rfl | (simp; done)

set_option maxHeartbeats 2000000 in
theorem implIdeally_long (aa : Option Addr) (n cp : Nat) (w : World) (hn : 1000 < n) :
    Calls Tryz.prog 7 #[.slice aa n cp] w fun e w' => e = .returned (IdV false (.slice none 0 0) (.slice none 0 0)) ∧ Below w.heap.size w w' := by
  have d0 : decide ((1000 : Int) < (n : Int)) = true := by simp; omega
  go_enter Tryz.func7, Tryz.ntmps7
  go_wp2
  exact bodyPost_ret (v := IdV false (.slice none 0 0) (.slice none 0 0)) (by simp [results, Tryz.results7, go_sem]) rfl ⟨rfl, (Below.refl _ _).alloc (Nat.le_refl _) _⟩
set_option maxHeartbeats 2000000 in
theorem specIdeally_long (aa : Option Addr) (n cp : Nat) (w : World) (hn : 1000 < n) :
    Calls Tryz.prog 5 #[.slice aa n cp] w fun e w' => e = .returned (IdV false (.slice none 0 0) (.slice none 0 0)) ∧ Below w.heap.size w w' := by
  have d0 : decide ((1000 : Int) < (n : Int)) = true := by simp; omega
  go_enter Tryz.func5, Tryz.ntmps5
  go_wp2
  exact bodyPost_ret (v := IdV false (.slice none 0 0) (.slice none 0 0)) (by simp [results, Tryz.results5, go_sem]) rfl ⟨rfl, (Below.refl _ _).alloc (Nat.le_refl _) _⟩
end Go.Proofs.YtnjgebncghdajaaGreatDoor
