/-
  Drawing: a sound forest.
-/
import Derived.Test.YtgiegkigfokdmaaDrA
import Derived.Test.YtgiegkigfokdmaaFoN
namespace Go.Proofs.Ytgiegkigfokdmaa
open Go.RowKit
set_option linter.unusedVariables false

theorem sound_one : forestOk 1 (fun _ => ⟨-1, ⟨#[]⟩, 0⟩) = 0 :=
  forestOk0 ⟨by omega, by omega⟩ ⟨rfl, by rw [ByteArray.toList_eq], rfl⟩ (fun i h1 h2 => by omega) (fun i k h1 h2 h3 => by omega) (fun i t h1 h2 => by omega)

theorem Gr.of_but {base ob : Nat} {w w' : World} (h : ButBelow base ob w w') (hob : base ≤ ob) (hb : base ≤ w.heap.size) : Below base w w' := ⟨h.os, h.tape, h.output, h.size, fun k hk => h.block k hk (by omega)⟩

theorem own_of_row {w : World} {base g n : Nat} {f : Nat → Shp} (h : w.rowIs g 61 (n * 3) (cellOf f)) (hb : base ≤ g) (hn : n ≤ maxLen) : ShOwn w base (.slice (some ⟨g, 0, none⟩) n n) n f := by
  obtain ⟨c, hblk, hs, hc⟩ := h
  refine ⟨shL_length f n, .inr ⟨g, n, c, rfl, hb, hblk, Nat.le_refl _, hn, hs, ?_⟩⟩
  apply List.ext_getElem?
  intro j
  by_cases hj : j < n * 3
  · rw [List.getElem?_take, if_pos hj, shL_get hj, Array.getElem?_toList, hc j hj]
  · rw [List.getElem?_eq_none (by simp; omega), List.getElem?_eq_none (by rw [shL_length]; omega)]

/-- The box of a forest that is drawn, and the cell of the answer. -/
structure Fb (w0 w : World) (ob g cp n : Nat) (f : Nat → Shp) : Prop where
  box : w.cell? ⟨ob, 0, none⟩ = some (.slice (some ⟨g, 0, none⟩) n cp)
  bfz : w.frozen? ⟨ob, 0, none⟩ = false
  res : w.cell? ⟨w0.heap.size, 0, none⟩ = some (.slice none 0 0)
  rfz : w.frozen? ⟨w0.heap.size, 0, none⟩ = false
  own : ShOwn w (w0.heap.size + 1) (.slice (some ⟨g, 0, none⟩) n cp) n f
  obg : ob ≠ g
  obl : ob < w.heap.size
  obb : w0.heap.size + 1 ≤ ob
  siz : w0.heap.size + 1 ≤ w.heap.size

/-- One shape more, or none. -/
theorem Fb.grow {w0 w w' : World} {ob g cp n g' cp' n' : Nat} {f f' : Nat → Shp} (h : Fb w0 w ob g cp n f) (hb : ButBelow (w0.heap.size + 1) ob w w') (h1 : ob ≠ g') (h2 : w'.frozen? ⟨ob, 0, none⟩ = false) (h3 : w'.cell? ⟨ob, 0, none⟩ = some (.slice (some ⟨g', 0, none⟩) n' cp')) (h4 : ShOwn w' (w0.heap.size + 1) (.slice (some ⟨g', 0, none⟩) n' cp') n' f') : Fb w0 w' ob g' cp' n' f' := by
  have hs := h.siz
  have ho := h.obb
  have e := hb.block w0.heap.size (by omega) (by omega)
  exact ⟨h3, h2, (World.cell?_of_block e).trans h.res, (World.frozen?_of_block e).trans h.rfz, h4, h1, Nat.lt_of_lt_of_le h.obl hb.size, ho, Nat.le_trans hs hb.size⟩

theorem Fb.gr {w0 w w' : World} {ob g cp n b : Nat} {f : Nat → Shp} (h : Fb w0 w ob g cp n f) (hg : Gr b w w') (hb : b < w0.heap.size) : Fb w0 w' ob g cp n f := by
  have hs := h.siz
  have h1 := h.obb
  have h2 := (h.own.lt g rfl)
  exact ⟨(hg.cell ob 0 (by omega) h.obl).trans h.box, (hg.frozen ob 0 (by omega) h.obl).trans h.bfz, (hg.cell w0.heap.size 0 (by omega) (by omega)).trans h.res, (hg.frozen w0.heap.size 0 (by omega) (by omega)).trans h.rfz,
    h.own.kept (row := some b) ⟨hg.os, hg.tape, hg.output, hg.size, fun k hk hne => hg.block k (fun e => hne (by rw [e])) hk⟩ (.inr (by simp [Value.ownBlock]; omega)), h.obg, Nat.lt_of_lt_of_le h.obl hg.size, h.obb, Nat.le_trans hs hg.size⟩

theorem Fb.below {w0 w w' : World} {ob g cp n : Nat} {f : Nat → Shp} (h : Fb w0 w ob g cp n f) (hg : Below w.heap.size w w') : Fb w0 w' ob g cp n f := by
  have hs := h.siz
  exact ⟨(hg.cell (by exact h.obl)).trans h.box, (hg.frozen (by exact h.obl)).trans h.bfz, (hg.cell (by show w0.heap.size < w.heap.size; omega)).trans h.res, (hg.frozen (by show w0.heap.size < w.heap.size; omega)).trans h.rfz,
    h.own.kept (row := none) ⟨hg.os, hg.tape, hg.output, hg.size, fun k hk _ => hg.block k hk⟩ (.inr (by simp [Value.ownBlock])), h.obg, Nat.lt_of_lt_of_le h.obl hg.size, h.obb, Nat.le_trans hs hg.size⟩

set_option maxRecDepth 100000 in
set_option maxHeartbeats 2000000 in
theorem forest_any (b N : Nat) (w : World) (h : Cu b N w) (hN : N ≤ 1099511000000) :
    Calls Try.prog 41 #[.pointer (some ⟨b, 0, none⟩)] w fun e w' => (∃ g cp n f, e = .returned (.agg #[.slice (some ⟨g, 0, none⟩) n cp]) ∧ forestOk n f = 0 ∧ ShOwn w' (w.heap.size + 1) (.slice (some ⟨g, 0, none⟩) n cp) n f) ∧ Cu b (N + 4000) w' ∧ Gr b w w' := by
  have hbl := h.lt
  have HC := hide h
  clear h
  have hb0 : Below w.heap.size w (w.alloc (.cells #[.slice none 0 0] 25)) := (Below.refl _ _).alloc (Nat.le_refl _) _
  go_enter Try.func41, Try.ntmps41
  go_wp2_with fail
  refine (specEmpty_any _).mono ?_
  rintro e w1 ⟨rfl, hrow1, hb1⟩
  obtain ⟨hc1, hf1⟩ := bcell hb1
  have hz1 := hb1.size
  simp at hz1
  have x1 : w1.cell? ⟨w.heap.size, 0, none⟩ = some (.slice none 0 0) := by rw [hc1 _ _ (by simp)]; simp [go_sem]
  have f1 : w1.frozen? ⟨w.heap.size, 0, none⟩ = false := by rw [hf1 _ _ (by simp)]; simp [go_sem]
  have hrow1' : w1.rowIs (w.heap.size + 2) 61 3 (cellOf (fun _ => ⟨-1, ⟨#[]⟩, 0⟩)) := by simpa using hrow1
  have hrl := hrow1'.lt
  have HB1 := hide (hb0.trans (hb1.mono hb0.size))
  have HR1 := hide hrow1'
  clear hc1 hf1 hb1 hrow1 hrow1' hb0
  go_wp2_with fail
  obtain ⟨W1, hW1⟩ : ∃ W1, W1 = (w1.alloc (.cells #[.slice (some ⟨w.heap.size + 2, 0, none⟩) 1 1, .slice none 0 0, .slice none 0 0] 90)).alloc (.cells #[.slice (some ⟨w.heap.size + 2, 0, none⟩) 1 1] 25) := ⟨_, rfl⟩
  have e12 : w.heap.size + 1 + 1 = w.heap.size + 2 := rfl
  try rw [e12]
  rw [← hW1]
  have hbW : Below w1.heap.size w1 W1 := by rw [hW1]; exact ((Below.refl _ _).alloc (Nat.le_refl _) _).alloc (by simp) _
  have hzW : W1.heap.size = w1.heap.size + 2 := by rw [hW1]; simp
  have hFb : Fb w W1 (w1.heap.size + 1) (w.heap.size + 2) 1 1 (fun _ => ⟨-1, ⟨#[]⟩, 0⟩) :=
    ⟨by rw [hW1]; simp [go_sem], by rw [hW1]; simp [go_sem], (hbW.cell (by show w.heap.size < w1.heap.size; omega)).trans x1, (hbW.frozen (by show w.heap.size < w1.heap.size; omega)).trans f1,
      own_of_row (n := 1) ((unhide HR1).of_block (hbW.block _ hrl)) (by omega) (by unfold maxLen; omega), by omega, by omega, by omega, by omega⟩
  have hBW := (unhide HB1).trans (hbW.mono (unhide HB1).size)
  have hCW : Cu b N W1 := (unhide HC).below hBW hbl
  have HFb := hide hFb
  have HG := hide (Gr.of_below (b := b) hBW)
  have HCW := hide hCW
  have hob : w1.heap.size + 1 < W1.heap.size := by omega
  obtain ⟨ob, hob'⟩ : ∃ ob, ob = w1.heap.size + 1 := ⟨_, rfl⟩
  rw [← hob'] at hob HFb ⊢
  clear hW1 hbW hzW hFb hBW hCW x1 f1 HR1 HB1 HC hrl hz1 hob'
  refine (pick_any b N 30 _ (unhide HCW) (by omega) (by omega) (by omega)).mono ?_
  rintro e w2 ⟨⟨x, rfl, hx0, hx1⟩, hc2, hs2⟩
  have HC2 := hide hc2
  have HG2 := hide ((unhide HG).trans hs2.gr)
  have HF2 := hide ((unhide HFb).gr hs2.gr hbl)
  clear hc2 hs2 HG HFb HCW
  go_wp2_with fail
  refine (pick_any b (N + 2) 10 _ (unhide HC2) (by omega) (by omega) (by omega)).mono ?_
  rintro e w3 ⟨⟨y, rfl, hy0, hy1⟩, hc3, hs3⟩
  have HC3 := hide hc3
  have HG3 := hide ((unhide HG2).trans hs3.gr)
  have HF3 := hide ((unhide HF2).gr hs3.gr hbl)
  clear hc3 hs3 HG2 HF2 HC2
  obtain ⟨m0, hm0, hm1⟩ : ∃ m0 : Nat, m0 ≤ 600 ∧ (m0 : Int) = (if y = 0 then 600 else x) := by
    by_cases h : y = 0
    · exact ⟨600, by omega, by rw [if_pos h]; rfl⟩
    · exact ⟨x.toNat, by omega, by rw [if_neg h]; omega⟩
  have hd : (y == 0) = decide (y = 0) := by by_cases h : y = 0 <;> simp [h]
  by_cases hy : y = 0
  · rw [if_pos hy] at hm1
    subst hy
    have e600 : (m0 : Int) = 600 := hm1
    go_wp2
    rw [← e600]
    go_loopw [5] (fun v wr => ∃ (left k g cp n : Nat) (f : Nat → Shp), v = .int .i64 left ∧ left + k ≤ 600 ∧ Fb w wr ob g cp n f ∧ forestOk n f = 0 ∧ Cu b (N + 4 + 6 * k) wr ∧ Gr b w wr) (fun v _ => (intOf v).toNat)
    case atStart => exact ⟨m0, 0, _, _, _, _, rfl, by omega, unhide HF3, sound_one, (unhide HC3), unhide HG3⟩
    case round =>
      obtain ⟨left, k, g, cp, n, f, rfl, hlk, hF, hok, hC, hG⟩ := hrel
      obtain ⟨h1, h2, h3, h4, h5⟩ := forestOk_zero hok
      have hn1 : 1 ≤ n := by have := h1.1; omega
      have hn2 : n ≤ 200 := h1.2
      have bx := hF.box
      have bf := hF.bfz
      have rx := hF.res
      have rf := hF.rfz
      have hobl := hF.obl
      have hobb := hF.obb
      have hsz := hF.siz
      have hHR := (hF.own.lt g rfl).1
      have HF := hide hF
      have HOK := hide hok
      have HC := hide hC
      have HG := hide hG
      have HX := hide (And.intro h1 (And.intro h2 (And.intro h3 h5)))
      clear hF hok hC hG h1 h2 h3 h4 h5
      by_cases hl0 : left = 0
      · subst hl0
        go_wp2
        refine bodyPost_ret (v := .agg #[.slice (some ⟨g, 0, none⟩) n cp]) (by simp [results, Try.results41, go_sem, rx]) rfl ⟨⟨g, cp, n, f, rfl, unhide HOK, (unhide HF).own.kept (grown_setCell wr _ _) (.inr (by simp [Value.ownBlock]; omega))⟩, ?_, ?_⟩
        · exact ((unhide HC).mono (by omega)).below ((Below.refl w.heap.size wr).setCell (by exact Nat.le_refl _) _) hbl
        · exact (unhide HG).then_below ((Below.refl w.heap.size wr).setCell (by exact Nat.le_refl _) _) (Nat.le_refl _)
      have hl1 : (0 : Int) < left := by omega
      go_wp2_with fail
      refine (pick_all b (N + 4 + 6 * k) n _ (unhide HC) (by omega) (by omega) (by omega)).mono ?_
      rintro e w4 ⟨⟨s, rfl, hs0, hs1⟩, hc4, hst4⟩
      obtain ⟨sn, hsn⟩ : ∃ sn : Nat, s = sn := ⟨s.toNat, by omega⟩
      subst hsn
      have HC4 := hide hc4
      have HG4 := hide ((unhide HG).trans hst4.gr)
      have HF4 := hide ((unhide HF).gr hst4.gr hbl)
      clear hc4 hst4 HC HG HF bx bf rx rf
      go_wp2_with fail
      refine (word_any b (N + 4 + 6 * k + 2) _ (unhide HC4) (by omega)).mono ?_
      rintro e w5 ⟨⟨key, rfl, hks⟩, hc5, hgr5⟩
      have hF5 := (unhide HF4).gr hgr5 hbl
      have bx := hF5.box
      have bf := hF5.bfz
      have hobl5 := hF5.obl
      have hsz5 := hF5.siz
      have HC5 := hide hc5
      have HG5 := hide ((unhide HG4).trans hgr5)
      have HF5 := hide hF5
      clear hc5 hgr5 HC4 HG4 HF4 hF5
      go_wp2_with fail
      refine (l2at_any g n cp sn key f _ (ShOwn.in (unhide HF5).own).2 (unhide HX).1 (unhide HX).2.1 (unhide HX).2.2.1 (unhide HX).2.2.2 (by omega)).mono ?_
      rintro e w6 ⟨rfl, hb6⟩
      obtain ⟨r, hr⟩ : ∃ r, plcI f sn key = r := ⟨_, rfl⟩
      rw [hr]
      have HP := hide hr
      clear hr
      have hF6 := (unhide HF5).below hb6
      have bx := hF6.box
      have bf := hF6.bfz
      have hobl6 := hF6.obl
      have hsz6 := hF6.siz
      have HC6 := hide ((unhide HC5).below hb6 (unhide HC5).lt)
      have HG6 := hide ((unhide HG5).trans (Gr.of_below hb6))
      have HF6 := hide hF6
      clear hb6 HC5 HG5 HF5 hF6
      by_cases hr0 : r < 0
      case neg =>
        go_wp2
        go_roundw
        case rel => exact ⟨left - 1, k + 1, g, cp, n, f, by congr 1; omega, by omega, unhide HF6, unhide HOK, (unhide HC6).mono (by omega), unhide HG6⟩
        case measure => simp [intOf]; omega
      go_wp2_with fail
      refine (l2grow_any ob g n cp sn (w.heap.size + 1) key f _ bx bf (unhide HF6).own (unhide HF6).obg hobl6 hsz6 (unhide HX).1 (unhide HX).2.1 (unhide HX).2.2.1 (by omega)).mono ?_
      rintro e w7 ⟨⟨r7, n7, f7, rfl, hres, g7, cp7, hne7, hfz7, hx7, hown7⟩, hb7⟩
      have hok7 : forestOk n7 f7 = 0 := by
        rcases hres with ⟨j, _, _, rfl, rfl⟩ | ⟨_, _, _, rfl, rfl⟩ | ⟨hno, hc, hn, _, rfl, rfl⟩
        · exact unhide HOK
        · exact unhide HOK
        · exact grow_sound (unhide HOK) (by omega) hks (by rw [unhide HP]; exact hr0) hno hc hn
      have hB7 : Below (w.heap.size + 1) w6 w7 := Gr.of_but hb7 hobb hsz6
      have HF7 := hide ((unhide HF6).grow hb7 hne7 hfz7 hx7 hown7)
      have HC7 := hide ((unhide HC6).below hB7 (by omega))
      have HG7 := hide ((unhide HG6).then_below hB7 (by omega))
      have HOK7 := hide hok7
      clear hb7 hB7 hok7 hx7 hfz7 hown7 hres HF6 HC6 HG6 bx bf
      go_wp2
      go_roundw
      case rel => exact ⟨left - 1, k + 1, g7, cp7, n7, f7, by congr 1; omega, by omega, unhide HF7, unhide HOK7, (unhide HC7).mono (by omega), unhide HG7⟩
      case measure => simp [intOf]; omega
  · rw [if_neg hy] at hm1
    have hy' : (y == 0) = false := by simp [hy]
    obtain rfl : x = (m0 : Int) := hm1.symm
    clear hm1
    go_wp2
    go_loopw [5] (fun v wr => ∃ (left k g cp n : Nat) (f : Nat → Shp), v = .int .i64 left ∧ left + k ≤ 600 ∧ Fb w wr ob g cp n f ∧ forestOk n f = 0 ∧ Cu b (N + 4 + 6 * k) wr ∧ Gr b w wr) (fun v _ => (intOf v).toNat)
    case atStart => exact ⟨m0, 0, _, _, _, _, rfl, by omega, unhide HF3, sound_one, (unhide HC3), unhide HG3⟩
    case round =>
      obtain ⟨left, k, g, cp, n, f, rfl, hlk, hF, hok, hC, hG⟩ := hrel
      obtain ⟨h1, h2, h3, h4, h5⟩ := forestOk_zero hok
      have hn1 : 1 ≤ n := by have := h1.1; omega
      have hn2 : n ≤ 200 := h1.2
      have bx := hF.box
      have bf := hF.bfz
      have rx := hF.res
      have rf := hF.rfz
      have hobl := hF.obl
      have hobb := hF.obb
      have hsz := hF.siz
      have hHR := (hF.own.lt g rfl).1
      have HF := hide hF
      have HOK := hide hok
      have HC := hide hC
      have HG := hide hG
      have HX := hide (And.intro h1 (And.intro h2 (And.intro h3 h5)))
      clear hF hok hC hG h1 h2 h3 h4 h5
      by_cases hl0 : left = 0
      · subst hl0
        go_wp2
        refine bodyPost_ret (v := .agg #[.slice (some ⟨g, 0, none⟩) n cp]) (by simp [results, Try.results41, go_sem, rx]) rfl ⟨⟨g, cp, n, f, rfl, unhide HOK, (unhide HF).own.kept (grown_setCell wr _ _) (.inr (by simp [Value.ownBlock]; omega))⟩, ?_, ?_⟩
        · exact ((unhide HC).mono (by omega)).below ((Below.refl w.heap.size wr).setCell (by exact Nat.le_refl _) _) hbl
        · exact (unhide HG).then_below ((Below.refl w.heap.size wr).setCell (by exact Nat.le_refl _) _) (Nat.le_refl _)
      have hl1 : (0 : Int) < left := by omega
      go_wp2_with fail
      refine (pick_all b (N + 4 + 6 * k) n _ (unhide HC) (by omega) (by omega) (by omega)).mono ?_
      rintro e w4 ⟨⟨s, rfl, hs0, hs1⟩, hc4, hst4⟩
      obtain ⟨sn, hsn⟩ : ∃ sn : Nat, s = sn := ⟨s.toNat, by omega⟩
      subst hsn
      have HC4 := hide hc4
      have HG4 := hide ((unhide HG).trans hst4.gr)
      have HF4 := hide ((unhide HF).gr hst4.gr hbl)
      clear hc4 hst4 HC HG HF bx bf rx rf
      go_wp2_with fail
      refine (word_any b (N + 4 + 6 * k + 2) _ (unhide HC4) (by omega)).mono ?_
      rintro e w5 ⟨⟨key, rfl, hks⟩, hc5, hgr5⟩
      have hF5 := (unhide HF4).gr hgr5 hbl
      have bx := hF5.box
      have bf := hF5.bfz
      have hobl5 := hF5.obl
      have hsz5 := hF5.siz
      have HC5 := hide hc5
      have HG5 := hide ((unhide HG4).trans hgr5)
      have HF5 := hide hF5
      clear hc5 hgr5 HC4 HG4 HF4 hF5
      go_wp2_with fail
      refine (l2at_any g n cp sn key f _ (ShOwn.in (unhide HF5).own).2 (unhide HX).1 (unhide HX).2.1 (unhide HX).2.2.1 (unhide HX).2.2.2 (by omega)).mono ?_
      rintro e w6 ⟨rfl, hb6⟩
      obtain ⟨r, hr⟩ : ∃ r, plcI f sn key = r := ⟨_, rfl⟩
      rw [hr]
      have HP := hide hr
      clear hr
      have hF6 := (unhide HF5).below hb6
      have bx := hF6.box
      have bf := hF6.bfz
      have hobl6 := hF6.obl
      have hsz6 := hF6.siz
      have HC6 := hide ((unhide HC5).below hb6 (unhide HC5).lt)
      have HG6 := hide ((unhide HG5).trans (Gr.of_below hb6))
      have HF6 := hide hF6
      clear hb6 HC5 HG5 HF5 hF6
      by_cases hr0 : r < 0
      case neg =>
        go_wp2
        go_roundw
        case rel => exact ⟨left - 1, k + 1, g, cp, n, f, by congr 1; omega, by omega, unhide HF6, unhide HOK, (unhide HC6).mono (by omega), unhide HG6⟩
        case measure => simp [intOf]; omega
      go_wp2_with fail
      refine (l2grow_any ob g n cp sn (w.heap.size + 1) key f _ bx bf (unhide HF6).own (unhide HF6).obg hobl6 hsz6 (unhide HX).1 (unhide HX).2.1 (unhide HX).2.2.1 (by omega)).mono ?_
      rintro e w7 ⟨⟨r7, n7, f7, rfl, hres, g7, cp7, hne7, hfz7, hx7, hown7⟩, hb7⟩
      have hok7 : forestOk n7 f7 = 0 := by
        rcases hres with ⟨j, _, _, rfl, rfl⟩ | ⟨_, _, _, rfl, rfl⟩ | ⟨hno, hc, hn, _, rfl, rfl⟩
        · exact unhide HOK
        · exact unhide HOK
        · exact grow_sound (unhide HOK) (by omega) hks (by rw [unhide HP]; exact hr0) hno hc hn
      have hB7 : Below (w.heap.size + 1) w6 w7 := Gr.of_but hb7 hobb hsz6
      have HF7 := hide ((unhide HF6).grow hb7 hne7 hfz7 hx7 hown7)
      have HC7 := hide ((unhide HC6).below hB7 (by omega))
      have HG7 := hide ((unhide HG6).then_below hB7 (by omega))
      have HOK7 := hide hok7
      clear hb7 hB7 hok7 hx7 hfz7 hown7 hres HF6 HC6 HG6 bx bf
      go_wp2
      go_roundw
      case rel => exact ⟨left - 1, k + 1, g7, cp7, n7, f7, by congr 1; omega, by omega, unhide HF7, unhide HOK7, (unhide HC7).mono (by omega), unhide HG7⟩
      case measure => simp [intOf]; omega
end Go.Proofs.Ytgiegkigfokdmaa
