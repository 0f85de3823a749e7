/-
  Drawing: a forest, a shape and a key.
-/
import Derived.Test.YtgiegkigfokdmaaDrD
namespace Go.Proofs.Ytgiegkigfokdmaa
open Go.RowKit
set_option linter.unusedVariables false

/-- What a drawn forest is: none, or at most 201 shapes in new memory. -/
def Drawn (w : World) (v : Value) (base : Nat) : Prop := v = .slice none 0 0 ∨ ∃ g cp n f, v = .slice (some ⟨g, 0, none⟩) n cp ∧ 1 ≤ n ∧ n ≤ 201 ∧ base ≤ g ∧ ShRow w g n f

theorem Drawn.below {w w' : World} {v : Value} {base : Nat} (h : Drawn w v base) (hb : Below w.heap.size w w') : Drawn w' v base := by
  rcases h with h | ⟨g, cp, n, f, h1, h2, h3, h4, h5⟩
  · exact .inl h
  · exact .inr ⟨g, cp, n, f, h1, h2, h3, h4, h5.below hb h5.lt⟩
theorem Drawn.gr {w w' : World} {v : Value} {base b : Nat} (h : Drawn w v base) (hg : Gr b w w') (hb : b < base) : Drawn w' v base := by
  rcases h with h | ⟨g, cp, n, f, h1, h2, h3, h4, h5⟩
  · exact .inl h
  · exact .inr ⟨g, cp, n, f, h1, h2, h3, h4, h5.of_block (hg.block g (by omega) h5.lt)⟩
theorem Drawn.set {w : World} {v : Value} {base : Nat} (h : Drawn w v base) (a : Addr) (ha : a.block < base) (u : Value) : Drawn (w.setCell a u) v base := by
  rcases h with h | ⟨g, cp, n, f, h1, h2, h3, h4, h5⟩
  · exact .inl h
  · exact .inr ⟨g, cp, n, f, h1, h2, h3, h4, h5.setOther (by omega) u⟩
theorem Drawn.form {w : World} {v : Value} {base : Nat} (h : Drawn w v base) : ∃ a n cp, v = .slice a n cp ∧ n ≤ 201 := by
  rcases h with h | ⟨g, cp, n, f, h1, h2, h3, h4, h5⟩
  · exact ⟨_, _, _, h, by omega⟩
  · exact ⟨_, _, _, h1, h3⟩

/-- Blocks that were there, but for one, are as they were. -/
def Fr (b : Nat) (w w' : World) : Prop := w'.os = w.os ∧ w'.tape = w.tape ∧ w'.output = w.output ∧ w.heap.size ≤ w'.heap.size ∧ ∀ k, k < w.heap.size → k ≠ b → w'.heap[k]? = w.heap[k]?
theorem Fr.gr {b : Nat} {w w' : World} (h : Fr b w w') : Gr b w w' := ⟨h.1, h.2.1, h.2.2.1, h.2.2.2.1, fun k hk hs => h.2.2.2.2 k hs hk⟩

set_option maxRecDepth 100000 in
set_option maxHeartbeats 1000000 in
theorem l6forest_any (b N : Nat) (w : World) (h : Cu b N w) (hN : N ≤ 1099510000000) :
    Calls Try.prog 18 #[.pointer (some ⟨b, 0, none⟩)] w fun e w' => (∃ v, e = .returned (.agg #[v]) ∧ Drawn w' v (w.heap.size + 1)) ∧ Cu b (N + 5000) w' ∧ Gr b w w' := by
  have hbl := h.lt
  have hb0 : Below w.heap.size w (w.alloc (.cells #[.slice none 0 0] 25)) := (Below.refl _ _).alloc (Nat.le_refl _) _
  have HC := hide (h.below hb0 hbl)
  have HB0 := hide hb0
  clear h hb0
  go_enter Try.func18, Try.ntmps18
  go_wp2_with fail
  refine (forest_any b N _ (unhide HC) (by omega)).mono ?_
  rintro e w1 ⟨⟨g, cp, n, f, rfl, hok, hown⟩, hc1, hg1⟩
  have hz1 := hg1.size
  simp at hz1
  have x1 : w1.cell? ⟨w.heap.size, 0, none⟩ = some (.slice none 0 0) := by rw [hg1.cell w.heap.size 0 (by omega) (by simp)]; simp [go_sem]
  have f1 : w1.frozen? ⟨w.heap.size, 0, none⟩ = false := by rw [hg1.frozen w.heap.size 0 (by omega) (by simp)]; simp [go_sem]
  have hgb := (hown.lt g rfl)
  have hgb1 : w.heap.size + 2 ≤ g := by have := hgb.1; simp at this; omega
  obtain ⟨h1, h2, h3, _⟩ := forestOk_zero hok
  have hcnt := count_bound (k := n) h2 (fun j a b => h3 j a b)
  have hn1 : 1 ≤ n := by have := h1.1; omega
  have hn2 : n ≤ 200 := h1.2
  have HG1 := hide ((Gr.of_below (b := b) (unhide HB0)).trans hg1)
  have HC1 := hide hc1
  have HO := hide hown
  have HCN := hide hcnt
  clear hg1 hc1 hown hcnt h1 h2 h3 hok HC
  go_wp2_with fail
  obtain ⟨W1, hW1⟩ : ∃ W1, W1 = w1.alloc (.cells #[.slice (some ⟨g, 0, none⟩) n cp] 25) := ⟨_, rfl⟩
  rw [← hW1]
  have hbW : Below w1.heap.size w1 W1 := by rw [hW1]; exact (Below.refl _ _).alloc (Nat.le_refl _) _
  have hzW : W1.heap.size = w1.heap.size + 1 := by rw [hW1]; simp
  have hFb : Fb w W1 w1.heap.size g cp n f :=
    ⟨by rw [hW1]; simp [go_sem], by rw [hW1]; simp [go_sem], (hbW.cell (by show w.heap.size < w1.heap.size; omega)).trans x1, (hbW.frozen (by show w.heap.size < w1.heap.size; omega)).trans f1,
      by rw [hW1]; exact own_mono ((unhide HO).alloc _) (by simp), by omega, by omega, by omega, by omega⟩
  have HFb := hide hFb
  have HCW := hide ((unhide HC1).below hbW (by omega))
  have HGW := hide ((unhide HG1).trans (Gr.of_below hbW))
  clear hW1 hbW hFb x1 f1 HO HC1 HG1
  refine (pick_any b (N + 4000) 5 _ (unhide HCW) (by omega) (by omega) (by omega)).mono ?_
  rintro e w2 ⟨⟨x, rfl, hx0, hx1⟩, hc2, hs2⟩
  have hF2 := (unhide HFb).gr hs2.gr hbl
  have HF2 := hide hF2
  have HC2 := hide hc2
  have HG2 := hide ((unhide HGW).trans hs2.gr)
  have bx := hF2.box
  have rx := hF2.res
  have rf := hF2.rfz
  have hob2 := hF2.obl
  have hsz2 := hF2.siz
  clear hc2 hs2 HFb HCW HGW hF2
  by_cases x0 : x = 0
  · subst x0
    go_wp2_with fail
    refine (spoil_any b (N + 4000 + 2) w1.heap.size g cp n f w _ (unhide HF2) hn1 hn2 (unhide HCN) (unhide HC2) hbl (by omega)).mono ?_
    rintro e w3 ⟨⟨u, rfl⟩, hsb, hc3, hfr⟩
    obtain ⟨⟨v, bv, hv⟩, rx3, rf3⟩ := hsb
    have hD : Drawn w3 v (w.heap.size + 1) := by
      rcases hv with h | ⟨g3, cp3, n3, f3, rfl, a1, a2, a3⟩
      · exact .inl h
      · exact .inr ⟨g3, cp3, n3, f3, rfl, a1, a2, (ShOwn.in a3).1, (ShOwn.in a3).2⟩
    obtain ⟨sa, sn, sc, rfl, _⟩ := hD.form
    have HD := hide hD
    have HC3 := hide hc3
    have HG3 : Hid (Gr b w w3) := hide ⟨hfr.1.trans (unhide HG2).os, hfr.2.1.trans (unhide HG2).tape, hfr.2.2.1.trans (unhide HG2).output, Nat.le_trans (unhide HG2).size hfr.2.2.2.1, fun k hk hs => (hfr.2.2.2.2 k hs hk).trans ((unhide HG2).block k hk hs)⟩
    clear hc3 hfr hv hD bx rx rf
    go_wp2
    refine bodyPost_ret (v := .agg #[.slice sa sn sc]) (by simp [results, Try.results18, go_sem, rx3]) rfl ⟨⟨_, rfl, (unhide HD).set _ (by show w.heap.size < w.heap.size + 1; omega) _⟩, ?_, ?_⟩
    · exact ((unhide HC3).mono (by omega)).below ((Below.refl w.heap.size w3).setCell (by exact Nat.le_refl _) _) hbl
    · exact (unhide HG3).then_below ((Below.refl w.heap.size w3).setCell (by exact Nat.le_refl _) _) (Nat.le_refl _)
  · have hx : (x == 0) = false := by simp [x0]
    have hD : Drawn w2 (.slice (some ⟨g, 0, none⟩) n cp) (w.heap.size + 1) := .inr ⟨g, cp, n, f, rfl, hn1, by omega, by omega, (ShOwn.in (unhide HF2).own).2⟩
    have HD := hide hD
    clear hD
    go_wp2
    refine bodyPost_ret (v := .agg #[.slice (some ⟨g, 0, none⟩) n cp]) (by simp [results, Try.results18, go_sem, rx]) rfl ⟨⟨_, rfl, (unhide HD).set _ (by show w.heap.size < w.heap.size + 1; omega) _⟩, ?_, ?_⟩
    · exact ((unhide HC2).mono (by omega)).below ((Below.refl w.heap.size w2).setCell (by exact Nat.le_refl _) _) hbl
    · exact (unhide HG2).then_below ((Below.refl w.heap.size w2).setCell (by exact Nat.le_refl _) _) (Nat.le_refl _)

set_option maxRecDepth 100000 in
set_option maxHeartbeats 1000000 in
theorem drawGrow_any (a : Option Addr) (len cap : Nat) (w : World) (hcode : CodeAt w w.heap.size a len) :
    Calls Try.prog 5 #[.slice a len cap] w fun e w' => (∃ v s key, e = .returned (.tuple #[.agg #[v], .int .i64 s, .string key]) ∧ Drawn w' v w.heap.size ∧ -1 ≤ s ∧ s ≤ 300 ∧ key.size ≤ 12000) ∧ Below w.heap.size w w' := by
  have HCode := hide hcode
  clear hcode
  go_enter Try.func5, Try.ntmps5
  go_wp2_with fail
  obtain ⟨U, hU'⟩ : ∃ U, U = (w.alloc (.cells #[.slice none 0 0] 25)).alloc (.cells #[.slice a len cap, .int .i64 0, .int .u64 0] 51) := ⟨_, rfl⟩
  rw [← hU']
  have hU : Below w.heap.size w U := by rw [hU']; exact ((Below.refl w.heap.size w).alloc (Nat.le_refl _) _).alloc (by simp) _
  have hzU : U.heap.size = w.heap.size + 2 := by rw [hU']; simp
  have ux : U.cell? ⟨w.heap.size, 0, none⟩ = some (.slice none 0 0) := by rw [hU']; simp [go_sem]
  have uf : U.frozen? ⟨w.heap.size, 0, none⟩ = false := by rw [hU']; simp [go_sem]
  have hcu : Cu (w.heap.size + 1) 0 U := by
    refine ⟨⟨a, len, cap, 0, 0, by rw [hU']; simp [go_sem], by rw [hU']; simp [go_sem], by rw [hU']; simp [go_sem], by omega, by omega, by omega, by omega, ?_⟩, fun o => by rw [hU']; simp [go_sem]⟩
    obtain ⟨h1, h2⟩ := unhide HCode
    refine ⟨h1, ?_⟩
    rcases h2 with h | ⟨k, off, e, hk, hc⟩
    · exact .inl h
    · refine .inr ⟨k, off, e, by omega, fun i hi => ?_⟩
      obtain ⟨z, hz, hr⟩ := hc i hi
      exact ⟨z, (hU.cell (p := ⟨k, off + i, none⟩) hk).trans hz, hr⟩
  have HU := hide hU
  have HCU := hide hcu
  clear hU' hU hcu
  refine (l6forest_any (w.heap.size + 1) 0 _ (unhide HCU) (by omega)).mono ?_
  rintro e w1 ⟨⟨v, rfl, hD⟩, hc1, hg1⟩
  obtain ⟨sa, sn, sc, rfl, hsn⟩ := hD.form
  have z1 : U.heap.size ≤ w1.heap.size := hg1.size
  have x1 : w1.cell? ⟨w.heap.size, 0, none⟩ = some (.slice none 0 0) := (hg1.cell w.heap.size 0 (by omega) (by omega)).trans ux
  have f1 : w1.frozen? ⟨w.heap.size, 0, none⟩ = false := (hg1.frozen w.heap.size 0 (by omega) (by omega)).trans uf
  have HD1 := hide hD
  have HC1 := hide hc1
  have HB1 := hide ((unhide HU).trans (hg1.below (B := w.heap.size) (by omega) (by omega)))
  clear hD hc1 hg1 ux uf HCU HU
  go_wp2_with fail
  obtain ⟨W1, hW1⟩ : ∃ W1, W1 = w1.alloc (.cells #[.slice sa sn sc] 25) := ⟨_, rfl⟩
  rw [← hW1]
  have hbW : Below w1.heap.size w1 W1 := by rw [hW1]; exact (Below.refl _ _).alloc (Nat.le_refl _) _
  have hzW : W1.heap.size = w1.heap.size + 1 := by rw [hW1]; simp
  have bW : W1.cell? ⟨w1.heap.size, 0, none⟩ = some (.slice sa sn sc) := by rw [hW1]; simp [go_sem]
  have xW := (hbW.cell (p := ⟨w.heap.size, 0, none⟩) (by show w.heap.size < w1.heap.size; omega)).trans x1
  have fW := (hbW.frozen (p := ⟨w.heap.size, 0, none⟩) (by show w.heap.size < w1.heap.size; omega)).trans f1
  have HDW := hide ((unhide HD1).below hbW)
  have HCW := hide ((unhide HC1).below hbW (by omega))
  have HBW := hide ((unhide HB1).trans (hbW.mono (unhide HB1).size))
  have hob : w1.heap.size < W1.heap.size := by omega
  clear hW1 hbW x1 f1 HD1 HC1 HB1
  refine (pick_any (w.heap.size + 1) (0 + 5000) ((sn : Int) + 2) _ (unhide HCW) (by omega) (by omega) (by omega)).mono ?_
  rintro e w2 ⟨⟨x, rfl, hx0, hx1⟩, hc2, hs2⟩
  have z2 : W1.heap.size ≤ w2.heap.size := hs2.gr.size
  have b2 := (hs2.gr.cell w1.heap.size 0 (by omega) (by omega)).trans bW
  have x2 := (hs2.gr.cell w.heap.size 0 (by omega) (by omega)).trans xW
  have f2 := (hs2.gr.frozen w.heap.size 0 (by omega) (by omega)).trans fW
  have HD2 := hide ((unhide HDW).gr hs2.gr (by omega))
  have HC2 := hide hc2
  have HB2 := hide ((unhide HBW).trans (hs2.gr.below (B := w.heap.size) (by omega) (by omega)))
  clear hc2 hs2 bW xW fW HDW HCW HBW
  go_wp2_with fail
  refine (word_any (w.heap.size + 1) (0 + 5000 + 2) _ (unhide HC2) (by omega)).mono ?_
  rintro e w3 ⟨⟨key, rfl, hks⟩, hc3, hg3⟩
  have z3 : w2.heap.size ≤ w3.heap.size := hg3.size
  have b3 := (hg3.cell w1.heap.size 0 (by omega) (by omega)).trans b2
  have x3 := (hg3.cell w.heap.size 0 (by omega) (by omega)).trans x2
  have f3 := (hg3.frozen w.heap.size 0 (by omega) (by omega)).trans f2
  have HD3 := hide ((unhide HD2).gr hg3 (by omega))
  have HC3 := hide hc3
  have HB3 := hide ((unhide HB2).trans (hg3.below (B := w.heap.size) (by omega) (by omega)))
  clear hc3 hg3 b2 x2 f2 HD2 HC2 HB2
  go_wp2_with fail
  refine (pick_any (w.heap.size + 1) (0 + 5000 + 2 + 4) 30 _ (unhide HC3) (by omega) (by omega) (by omega)).mono ?_
  rintro e w4 ⟨⟨y, rfl, hy0, hy1⟩, hc4, hs4⟩
  have z4 : w3.heap.size ≤ w4.heap.size := hs4.gr.size
  have b4 := (hs4.gr.cell w1.heap.size 0 (by omega) (by omega)).trans b3
  have x4 := (hs4.gr.cell w.heap.size 0 (by omega) (by omega)).trans x3
  have f4 := (hs4.gr.frozen w.heap.size 0 (by omega) (by omega)).trans f3
  have HD4 := hide ((unhide HD3).gr hs4.gr (by omega))
  have HB4 := hide ((unhide HB3).trans (hs4.gr.below (B := w.heap.size) (by omega) (by omega)))
  clear hc4 hs4 b3 x3 f3 HD3 HC3 HB3
  have hD5 : ∀ u, Drawn (w4.setCell ⟨w.heap.size, 0, none⟩ u) (.slice sa sn sc) w.heap.size := fun u => by
    rcases (unhide HD4).set ⟨w.heap.size, 0, none⟩ (by show w.heap.size < U.heap.size + 1; omega) u with h | ⟨g, cp, n, f, h1, h2, h3, h4, h5⟩
    · exact .inl h
    · exact .inr ⟨g, cp, n, f, h1, h2, h3, by omega, h5⟩
  have HD5 := hide hD5
  clear hD5 HD4
  by_cases y0 : y = 0
  · subst y0
    go_wp2_with fail
    refine (long_any _).mono ?_
    rintro e w5 ⟨⟨ls, rfl, hls⟩, rfl⟩
    go_wp2
    refine bodyPost_ret (v := .tuple #[.agg #[.slice sa sn sc], .int .i64 (x - 1), .string (key ++ ls)]) (by simp [results, Try.results5, go_sem, x4]) rfl ⟨⟨_, _, _, rfl, unhide HD5 _, by omega, by omega, by simp; omega⟩, (unhide HB4).setCell (by exact Nat.le_refl _) _⟩
  · have hy : (y == 0) = false := by simp [y0]
    go_wp2
    refine bodyPost_ret (v := .tuple #[.agg #[.slice sa sn sc], .int .i64 (x - 1), .string key]) (by simp [results, Try.results5, go_sem, x4]) rfl ⟨⟨_, _, _, rfl, unhide HD5 _, by omega, by omega, by omega⟩, (unhide HB4).setCell (by exact Nat.le_refl _) _⟩
end Go.Proofs.Ytgiegkigfokdmaa
