/-
  Shapes: the program's Grow.
-/
import Derived.Test.YtgiegkigfokdmabNodK
namespace Go.Proofs.Ytgiegkigfokdmab
open Go.RowKit
open Go.Maps (Keyed)
set_option linter.unusedVariables false

theorem NGrown.grown {n : Nat} {f : Nat → Shp} {k : Nat} {key : ByteArray} {b0 : Nat} {B : Nat → Nat} {w : World} {e : Ending} {w' : World} (h : NGrown n f k key b0 B w e w') : GrownP b0 w w' := by
  rcases h with ⟨j, _, _, hb⟩ | ⟨_, _, _, hb⟩ | ⟨_, _, _, r, B', N', M', _, _, _, _, _, hG⟩
  · exact Grown.of_below hb
  · exact Grown.of_below hb
  · exact hG

theorem own_far3 {Tn e base g n cp : Nat} {w : World} {xs : List Value} (h : w.ownsRow base e 3 (.slice (some ⟨g, 0, none⟩) n cp) n xs) (he : e ≠ Tn) : ¬ Nodal Tn w g := by
  obtain ⟨hl, ⟨hv, _⟩ | ⟨g', cap, cur, hv, hb, hblk, h1, h2, h3, h4⟩⟩ := h
  · cases hv
  · cases hv
    rintro (⟨c, hc⟩ | ⟨es, c, hc⟩)
    · rw [hblk] at hc; cases hc; exact he rfl
    · rw [hblk] at hc; cases hc

theorem own_block3 {e base g n cp : Nat} {w w' : World} {xs : List Value} (h : w.ownsRow base e 3 (.slice (some ⟨g, 0, none⟩) n cp) n xs) (hG : w'.heap[g]? = w.heap[g]?) : w'.ownsRow base e 3 (.slice (some ⟨g, 0, none⟩) n cp) n xs := by
  obtain ⟨hl, ⟨hv, _⟩ | ⟨g', cap, cur, hv, hb, hblk, h1, h2, h3, h4⟩⟩ := h
  · cases hv
  · cases hv
    exact ⟨hl, .inr ⟨g, cp, cur, rfl, hb, hG.trans hblk, h1, h2, h3, h4⟩⟩

theorem grow_after {Y w5 : World} {o : Obj} {x N g n cp : Nat} {s0 s1 r0 r1 : Value} (hgr : (Y.drew.alloc o).grownBy w5 (Value.slice (some ⟨g, 0, none⟩) n cp).ownBlock) (hgx : g ≠ x) (hgN : g ≠ N + 1) (hx : x < Y.heap.size) (hN : N + 1 < Y.heap.size) (hNg : N ≤ g)
    (G0 : Y.cell? ⟨x, 0, none⟩ = some s0) (G1 : Y.cell? ⟨x, 1, none⟩ = some s1) (F0 : Y.frozen? ⟨x, 0, none⟩ = false) (F1 : Y.frozen? ⟨x, 1, none⟩ = false) (gW : Y.cell? ⟨N + 1, 0, none⟩ = some r0) (kW : Y.cell? ⟨N + 1, 1, none⟩ = some r1) (pW : Y.frozen? ⟨N + 1, 0, none⟩ = false) (qW : Y.frozen? ⟨N + 1, 1, none⟩ = false) :
    w5.cell? ⟨x, 0, none⟩ = some s0 ∧ w5.cell? ⟨x, 1, none⟩ = some s1 ∧ w5.frozen? ⟨x, 0, none⟩ = false ∧ w5.frozen? ⟨x, 1, none⟩ = false ∧ w5.cell? ⟨N + 1, 0, none⟩ = some r0 ∧ w5.cell? ⟨N + 1, 1, none⟩ = some r1 ∧ w5.frozen? ⟨N + 1, 0, none⟩ = false ∧ w5.frozen? ⟨N + 1, 1, none⟩ = false ∧ Hid (Below N Y w5 ∧ Y.heap.size ≤ w5.heap.size) := by
  have hz : Y.heap.size ≤ w5.heap.size := Nat.le_trans (by simp) hgr.size
  have hU : ∀ b, b < Y.heap.size → b ≠ g → w5.heap[b]? = Y.heap[b]? := fun b hb hne => by
    rw [hgr.block b (by simp; omega) (by simpa [Value.ownBlock] using hne)]
    exact Deep.blk_alloc_lt Y.drew _ _ (by simpa using hb)
  have hx' := hU x hx (fun e => hgx e.symm)
  have hN' := hU (N + 1) hN (fun e => hgN e.symm)
  refine ⟨(World.cell?_of_block hx').trans G0, (World.cell?_of_block hx').trans G1, (World.frozen?_of_block hx').trans F0, (World.frozen?_of_block hx').trans F1, (World.cell?_of_block hN').trans gW, (World.cell?_of_block hN').trans kW, (World.frozen?_of_block hN').trans pW, (World.frozen?_of_block hN').trans qW, hide ⟨⟨hgr.os, hgr.tape, hgr.output, hz, fun b hb => ?_⟩, hz⟩⟩
  exact hU b (by omega) (by omega)

/-- What is said of Grow's answer. -/
def GPost (n : Nat) (f : Nat → Shp) (i : Int) (key : ByteArray) (lo : Nat) (e : Ending) (w' : World) : Prop := ∃ v r n' f', e = .returned (GrV v r) ∧ Grw n f i key n' f' r ∧ GV f' n' w' v lo w'.heap.size

set_option maxRecDepth 100000 in
set_option maxHeartbeats 2000000 in
theorem implGrow_any (b n cap : Nat) (i : Int) (key : ByteArray) (f : Nat → Shp) (w : World) (hA : ShRow w b n f) (hn : n ≤ 1048576) (hks : key.size ≤ 1048576) :
    Calls Try.prog 22 #[.agg #[.slice (some ⟨b, 0, none⟩) n cap], .int .i64 i, .string key] w fun e w' => GPost n f i key w.heap.size e w' ∧ Below w.heap.size w w' := by
  have hl := hA.lt
  obtain ⟨i0, hi0, hz0, hz1, hz2⟩ := info_parts infoShape
  have HA := hide hA
  clear hA
  have hb0 : Below w.heap.size w ((w.alloc (.cells #[.slice (some ⟨b, 0, none⟩) n cap] 29)).alloc (.cells #[.slice none 0 0, .int .i64 0] 42)) := ((Below.refl _ _).alloc (Nat.le_refl _) _).alloc (by simp) _
  have HB0 := hide hb0
  clear hb0
  go_enter Try.func22, Try.ntmps22
  go_wp2_with fail
  refine (nodeOf_any b n cap f i _ ((unhide HA).below (unhide HB0) hl) hn).mono ?_
  rintro e w1 ⟨hJ, hb1⟩
  obtain ⟨hc1, hf1⟩ := bcell hb1
  have hz1' := hb1.size
  simp at hz1'
  have HB1 := hide ((unhide HB0).trans (hb1.mono (unhide HB0).size))
  have y1 : w.heap.size + 1 < w1.heap.size := by omega
  have a1 : w1.cell? ⟨w.heap.size, 0, none⟩ = some (.slice (some ⟨b, 0, none⟩) n cap) := by rw [hc1 _ _ (by simp; omega)]; simp [go_sem]
  have g1 : w1.cell? ⟨w.heap.size + 1, 0, none⟩ = some (.slice none 0 0) := by rw [hc1 _ _ (by simp)]; simp [go_sem]
  have k1 : w1.cell? ⟨w.heap.size + 1, 1, none⟩ = some (.int .i64 0) := by rw [hc1 _ _ (by simp)]; simp [go_sem]
  have p1 : w1.frozen? ⟨w.heap.size + 1, 0, none⟩ = false := by rw [hf1 _ _ (by simp)]; simp [go_sem]
  have q1 : w1.frozen? ⟨w.heap.size + 1, 1, none⟩ = false := by rw [hf1 _ _ (by simp)]; simp [go_sem]
  clear hb1 hc1 hf1 hz1'
  rcases hJ with ⟨rfl, hg⟩ | ⟨k, B, N, M, rfl, hk, rfl, hr, hN, hid⟩
  · have HG : Hid (BadG n f i key) := hide (.inl hg)
    clear hg
    go_wp2
    refine bodyPost_ret (v := GrV (.slice none 0 0) (-1)) (by simp [results, Try.results22, go_sem, g1, k1]) rfl ⟨⟨_, _, 0, f, rfl, .inl ⟨unhide HG, rfl, rfl, rfl⟩, .inl ⟨rfl, rfl⟩⟩, ?_⟩
    exact ((unhide HB1).setCell (by show _ ≤ w.heap.size + 1; omega) _).setCell (by show _ ≤ w.heap.size + 1; omega) _
  obtain ⟨h1, h2, h3, h4, h5⟩ := forestOk_zero hr
  have hgood : Good n f k := ⟨hr, by omega, by omega⟩
  have HX := hide (And.intro h1 (And.intro h2 (And.intro h3 h4)))
  have HGd := hide hgood
  have hn200 : n ≤ 200 := h1.2
  have hn0 : 0 < n := by have := h1.1; omega
  obtain ⟨hcb0, hcb1⟩ := count_bound (k := n) h2 (fun j a b => h3 j a b) k hk
  have HNN := hide hN
  have HI := hide hid
  clear h1 h2 h3 h4 h5 hgood hN hid hr
  by_cases h4000 : (4000 : Int) < key.size
  · have hd4 : decide ((4000 : Int) < key.size) = true := by simp [h4000]
    have HG : Hid (BadG n f k key) := hide (.inr (.inl (by omega)))
    go_wp2
    refine bodyPost_ret (v := GrV (.slice none 0 0) (-1)) (by simp [results, Try.results22, go_sem, g1, k1]) rfl ⟨⟨_, _, 0, f, rfl, .inl ⟨unhide HG, rfl, rfl, rfl⟩, .inl ⟨rfl, rfl⟩⟩, ?_⟩
    exact ((unhide HB1).setCell (by show _ ≤ w.heap.size + 1; omega) _).setCell (by show _ ≤ w.heap.size + 1; omega) _
  have hd4 : decide ((4000 : Int) < key.size) = false := by simp; omega
  go_wp2_with fail
  refine (placeOf_any _ f _ n B N M (unhide HNN) (unhide HI) (unhide HX).2.1 (unhide HX).2.2.1 k hk key).mono ?_
  rintro e w2 ⟨⟨rfl, _⟩, rfl⟩
  obtain ⟨r, hr⟩ : ∃ r, plcI f k key = r := ⟨_, rfl⟩
  rw [hr]
  have HP := hide hr
  clear hr
  by_cases hr0 : 0 ≤ r
  · have hdr : decide (0 ≤ r) = true := by simp [hr0]
    have HG : Hid (BadG n f k key) := hide (.inr (.inr (by show 0 ≤ plcI f k key; rw [unhide HP]; exact hr0)))
    go_wp2
    refine bodyPost_ret (v := GrV (.slice none 0 0) (-1)) (by simp [results, Try.results22, go_sem, g1, k1]) rfl ⟨⟨_, _, 0, f, rfl, .inl ⟨unhide HG, rfl, rfl, rfl⟩, .inl ⟨rfl, rfl⟩⟩, ?_⟩
    exact ((unhide HB1).setCell (by show _ ≤ w.heap.size + 1; omega) _).setCell (by show _ ≤ w.heap.size + 1; omega) _
  have hdr : decide (0 ≤ r) = false := by simp; omega
  have HNB : Hid (¬ BadG n f k key) := hide (by
    rintro (h | h | h)
    · exact h (unhide HGd)
    · omega
    · have h : 0 ≤ plcI f k key := h
      rw [unhide HP] at h; exact hr0 h)
  go_wp2_with fail
  refine (copyForest_any b n cap f _ ((unhide HA).below (unhide HB1) hl) hn0 hn).mono ?_
  rintro e w3 ⟨⟨g, cp, rfl, hgb, hown⟩, hb3⟩
  have z23 : w2.heap.size ≤ w3.heap.size := hb3.size
  have hgl : g < w3.heap.size := (hown.lt g rfl).2
  have a3 := (hb3.cell (p := ⟨w.heap.size, 0, none⟩) (by show w.heap.size < w2.heap.size; omega)).trans a1
  have g3 := (hb3.cell (p := ⟨w.heap.size + 1, 0, none⟩) (by exact y1)).trans g1
  have k3 := (hb3.cell (p := ⟨w.heap.size + 1, 1, none⟩) (by exact y1)).trans k1
  have p3 := (hb3.frozen (p := ⟨w.heap.size + 1, 0, none⟩) (by exact y1)).trans p1
  have q3 := (hb3.frozen (p := ⟨w.heap.size + 1, 1, none⟩) (by exact y1)).trans q1
  have hN3 := (unhide HNN).below hb3
  have HB3 := hide ((unhide HB1).trans (hb3.mono (unhide HB1).size))
  have HN3 := hide hN3
  have HOW := hide hown
  obtain ⟨W, hW⟩ : ∃ W, W = w3.alloc (.cells #[.slice (some ⟨g, 0, none⟩) n cp, .int .i64 (-1)] 42) := ⟨_, rfl⟩
  have hzW : W.heap.size = w3.heap.size + 1 := by rw [hW]; simp
  have hbW : Below w3.heap.size w3 W := by rw [hW]; exact (Below.refl _ _).alloc (Nat.le_refl _) _
  have hxW : W.heap[w3.heap.size]? = some (.cells #[.slice (some ⟨g, 0, none⟩) n cp, .int .i64 (-1)] 42) := by rw [hW]; exact Deep.blk_alloc_new _ _
  have aW := (hbW.cell (p := ⟨w.heap.size, 0, none⟩) (by show w.heap.size < w3.heap.size; omega)).trans a3
  have y3 : w.heap.size < w3.heap.size := by omega
  clear hb3 hN3 a1 g1 k1 p1 q1 HB1 HNN hown
  go_wp2_with fail
  rw [← hW]
  refine (nodeGrow_any W f _ n B N M ((unhide HN3).below hbW) (unhide HI) (unhide HX).1 (unhide HX).2.1 (unhide HX).2.2.1 (unhide HX).2.2.2 k hk key (by omega)).mono ?_
  rintro e w4 hng
  have hG := hng.grown
  have hfar : ¬ Nodal 75 W w3.heap.size := by
    rintro (⟨c, hc⟩ | ⟨es, c, hc⟩)
    · rw [hxW] at hc; cases hc
    · rw [hxW] at hc; cases hc
  have HOWW : ShOwn W w2.heap.size (.slice (some ⟨g, 0, none⟩) n cp) n f := by rw [hW]; exact (unhide HOW).alloc _
  have hfg : ¬ Nodal 75 W g := own_far3 HOWW (by decide)
  have e0 : w4.heap[w.heap.size]? = w3.heap[w.heap.size]? := (hG.block _ (by omega) (.inl (by simp; try omega))).trans (hbW.block _ (by omega))
  have e1 : w4.heap[w.heap.size + 1]? = w3.heap[w.heap.size + 1]? := (hG.block _ (by omega) (.inl (by simp; try omega))).trans (hbW.block _ (by omega))
  have e2 : w4.heap[w3.heap.size]? = W.heap[w3.heap.size]? := hG.block _ (by omega) (.inr hfar)
  have e3 : w4.heap[g]? = W.heap[g]? := hG.block _ (by omega) (.inr hfg)
  have z4 : w3.heap.size + 1 ≤ w4.heap.size := by have := hG.size; omega
  have a4 := (World.cell?_of_block (a := ⟨w.heap.size, 0, none⟩) e0).trans a3
  have g4 := (World.cell?_of_block (a := ⟨w.heap.size + 1, 0, none⟩) e1).trans g3
  have k4 := (World.cell?_of_block (a := ⟨w.heap.size + 1, 1, none⟩) e1).trans k3
  have p4 := (World.frozen?_of_block (a := ⟨w.heap.size + 1, 0, none⟩) e1).trans p3
  have q4 := (World.frozen?_of_block (a := ⟨w.heap.size + 1, 1, none⟩) e1).trans q3
  have G0 : w4.cell? ⟨w3.heap.size, 0, none⟩ = some (.slice (some ⟨g, 0, none⟩) n cp) := by rw [World.cell?_of_block (a := ⟨w3.heap.size, 0, none⟩) e2, hW]; simp [go_sem]
  have G1 : w4.cell? ⟨w3.heap.size, 1, none⟩ = some (.int .i64 (-1)) := by rw [World.cell?_of_block (a := ⟨w3.heap.size, 1, none⟩) e2, hW]; simp [go_sem]
  have F0 : w4.frozen? ⟨w3.heap.size, 0, none⟩ = false := by rw [World.frozen?_of_block (a := ⟨w3.heap.size, 0, none⟩) e2, hW]; simp [go_sem]
  have F1 : w4.frozen? ⟨w3.heap.size, 1, none⟩ = false := by rw [World.frozen?_of_block (a := ⟨w3.heap.size, 1, none⟩) e2, hW]; simp [go_sem]
  have HO4 := hide (own_block3 HOWW e3)
  have HIN := hide (ShOwn.in (unhide HO4)).2
  have HB4 : Hid (Below w.heap.size w w4) := hide (((unhide HB3).trans (hbW.mono (unhide HB3).size)).trans ⟨hG.os, hG.tape, hG.output, hG.size, fun b hb => hG.block b (by omega) (.inl (by simp; omega))⟩)
  have HNW := hide ((unhide HN3).below hbW)
  have hg4 : g < w4.heap.size := by omega
  have hg3' : g ≠ w3.heap.size := by omega
  have hgN : g ≠ w.heap.size + 1 := by omega
  clear hW hbW hxW a3 g3 k3 p3 q3 HN3 HB3 HOW hzW hfar hfg e0 e1 e2 e3 hG aW HOWW
  rcases hng with ⟨j, hKid, rfl, hb4⟩ | ⟨hno, hfull, rfl, hb4⟩ | ⟨hno, h12, h200, r, B', N', M', rfl, hN4, hid4, hBn, hBB, hG4⟩
  · have hjn := hKid.2.1
    have hN4 := (unhide HNW).below hb4
    obtain ⟨m0, _⟩ := node_cells hN4 (unhide HI) hjn
    have hBj : B j < w4.heap.size := hN4.lt hjn
    have hBx : B j ≠ w3.heap.size := by
      intro eb
      rw [eb] at m0
      rw [G0] at m0
      cases m0
    have HK := hide hKid
    have hjd : ((j : Int) == (n : Int)) = false := by simp; omega
    clear hKid hb4 hN4
    go_wp2
    go_quiet (fail)
    go_wp2
    refine bodyPost_ret (v := GrV (.slice (some ⟨g, 0, none⟩) n cp) j) (by simp [results, Try.results22, go_sem, g4, k4]) rfl ⟨⟨_, _, n, f, rfl, .inr ⟨unhide HNB, .inl ⟨j, unhide HK, rfl, rfl, rfl⟩⟩, .inr ⟨hn0, g, cp, rfl, by omega, by simpa using hg4, ?_⟩⟩, ?_⟩
    · exact (unhide HIN).of_block (((Deep.blk_setCell_other _ _ _ _ (by exact hgN)).trans (Deep.blk_setCell_other _ _ _ _ (by exact hgN))).trans (Deep.blk_setCell_other _ _ _ _ (by exact hg3')))
    · exact ((below_drewN ((unhide HB4).setCell (by show _ ≤ w3.heap.size; omega) _) _).setCell (by show _ ≤ w.heap.size + 1; omega) _).setCell (by show _ ≤ w.heap.size + 1; omega) _
  · have HNO := hide (And.intro hno hfull)
    clear hno hfull hb4
    go_wp2
    refine bodyPost_ret (v := GrV (.slice (some ⟨g, 0, none⟩) n cp) (-1)) (by simp [results, Try.results22, go_sem, g4, k4]) rfl ⟨⟨_, _, n, f, rfl, .inr ⟨unhide HNB, .inr (.inl ⟨(unhide HNO).1, (unhide HNO).2, rfl, rfl, rfl⟩)⟩, .inr ⟨hn0, g, cp, rfl, by omega, by simpa using hg4, ?_⟩⟩, ?_⟩
    · exact (unhide HIN).of_block ((Deep.blk_setCell_other _ _ _ _ (by exact hgN)).trans (Deep.blk_setCell_other _ _ _ _ (by exact hgN)))
    · exact ((unhide HB4).setCell (by show _ ≤ w.heap.size + 1; omega) _).setCell (by show _ ≤ w.heap.size + 1; omega) _
  · obtain ⟨r2, r3, ee, en⟩ := grown_rules (unhide HX).1 (unhide HX).2.1 (unhide HX).2.2.1 hk (by omega : key.size ≤ 4000) h12
    have hrow := hN4.node n (by omega) (hid4 n (by omega))
    have hBr : r < w4.heap.size := by rw [← hBn]; exact hN4.lt (by omega)
    rw [hBn, en] at hrow
    have m0 : w4.cell? ⟨r, 0, none⟩ = some (.int .i64 n) := hrow.cell (i := 0) (by omega)
    have m1 : w4.cell? ⟨r, 1, none⟩ = some (.int .i64 (k : Int)) := hrow.cell (i := 1) (by omega)
    have m2 : w4.cell? ⟨r, 2, none⟩ = some (.string key) := hrow.cell (i := 2) (by omega)
    have m3 : w4.cell? ⟨r, 3, none⟩ = some (.int .i64 ((f k).count + 1)) := hrow.cell (i := 3) (by omega)
    have hBx : r ≠ w3.heap.size := by
      intro eb
      rw [eb] at m0
      rw [G0] at m0
      cases m0
    have hrg : g ≠ r := by
      intro eb
      obtain ⟨hl', ⟨hv', _⟩ | ⟨g', cap', cur', hv', hb', hblk', _⟩⟩ := unhide HO4
      · cases hv'
      · cases hv'
        obtain ⟨c, hb, _⟩ := hrow
        rw [eb, hb] at hblk'
        cases hblk'
    have hjd : ((n : Int) == (n : Int)) = true := by simp
    have HNO := hide (And.intro hno (And.intro h12 h200))
    clear hno h12 h200 hN4 hid4 hBn hBB hG4 r2 r3 ee en hrow
    go_wp2
    go_quiet (fail)
    go_wp2
    obtain ⟨Y, hY⟩ : ∃ Y, Y = (w4.setCell ⟨w3.heap.size, 1, none⟩ (.int .i64 (n : Int))).drewN nq := ⟨_, rfl⟩
    rw [← hY]
    have hzY : Y.heap.size = w4.heap.size := by rw [hY]; simp
    have hYo : ∀ b, b ≠ w3.heap.size → Y.heap[b]? = w4.heap[b]? := fun b hb => by rw [hY]; exact Deep.blk_setCell_other _ _ _ _ (by exact hb)
    have Y0 : Y.cell? ⟨w3.heap.size, 0, none⟩ = some (.slice (some ⟨g, 0, none⟩) n cp) := by rw [hY]; simp [go_sem, G0]
    have Y1 : Y.cell? ⟨w3.heap.size, 1, none⟩ = some (.int .i64 n) := by rw [hY]; simp [go_sem, G1]
    have E0 : Y.frozen? ⟨w3.heap.size, 0, none⟩ = false := by rw [hY]; exact (World.frozen?_setCell ..).trans F0
    have E1 : Y.frozen? ⟨w3.heap.size, 1, none⟩ = false := by rw [hY]; exact (World.frozen?_setCell ..).trans F1
    have hNx : w.heap.size + 1 ≠ w3.heap.size := by omega
    have gY := (World.cell?_of_block (a := ⟨w.heap.size + 1, 0, none⟩) (hYo _ hNx)).trans g4
    have kY := (World.cell?_of_block (a := ⟨w.heap.size + 1, 1, none⟩) (hYo _ hNx)).trans k4
    have pY := (World.frozen?_of_block (a := ⟨w.heap.size + 1, 0, none⟩) (hYo _ hNx)).trans p4
    have qY := (World.frozen?_of_block (a := ⟨w.heap.size + 1, 1, none⟩) (hYo _ hNx)).trans q4
    have x1 := (World.cell?_of_block (a := ⟨r, 1, none⟩) (hYo _ hBx)).trans m1
    have x2 := (World.cell?_of_block (a := ⟨r, 2, none⟩) (hYo _ hBx)).trans m2
    have x3 := (World.cell?_of_block (a := ⟨r, 3, none⟩) (hYo _ hBx)).trans m3
    have hOY : ShOwn Y w2.heap.size (.slice (some ⟨g, 0, none⟩) n cp) n f := own_block3 (unhide HO4) (hYo _ hg3')
    have HOY : Hid ((Y.drew.alloc (.cells #[.int .i64 (k : Int), .string key, .int .i64 ((f k).count + 1)] 56)).ownsRow w2.heap.size 56 3 (.slice (some ⟨g, 0, none⟩) n cp) n (shL f n)) := hide (by
      have h : ShOwn Y.drew w2.heap.size (.slice (some ⟨g, 0, none⟩) n cp) n f := own_block3 hOY rfl
      exact h.alloc _)
    have HBY : Hid (Below w.heap.size w Y) := hide (by rw [hY]; exact below_drewN ((unhide HB4).setCell (by show _ ≤ w3.heap.size; omega) _) _)
    have hxY : w3.heap.size < Y.heap.size := by omega
    have hNY : w.heap.size + 1 < Y.heap.size := by omega
    have hNg : w.heap.size ≤ g := by omega
    have hgY : g < Y.heap.size := by omega
    have hrY : r < Y.heap.size := by omega
    have HZ := hide hzY
    clear hY hYo hOY m0 m1 m2 m3 G0 G1 F0 F1 g4 k4 p4 q4 a4 HO4 HIN HB4 hzY
    go_region_law (refine step_append_lies _ rfl (.tmp 54) (.tmp 59) 27 rfl w2.heap.size 56 i0 (Sh 0 ⟨#[]⟩ 0) 3 32 Try.underlying27 hi0 hz0 hz1 hz2 rfl (by decide) (.slice (some ⟨g, 0, none⟩) n cp) n (shL f n) (by simp [Act.eval]) (unhide HOY) ⟨Y.heap.size, 0, none⟩ 1 1 [.int .i64 (k : Int), .string key, .int .i64 ((f k).count + 1)] (by simp [Act.eval]) rfl (World.news_of_block (Deep.blk_alloc_new _ _)) (by simp [Value.oneCell']) (by decide) (by unfold maxLen; omega) (by omega) (by simp; omega) _ rfl ?_; intro g5 cp5 w5 hown5 hgr5 hloc5 hlt5; obtain ⟨G5, G6, F5, F6, R0, R1, T0, T1, HG5⟩ := grow_after hgr5 hg3' hgN hxY hNY hNg Y0 Y1 E0 E1 gY kY pY qY; have HO5 := hide hown5; clear hown5 hgr5)
    all_goals
      go_wp2
      have ho5 : ShOwn w5 w2.heap.size (.slice (some ⟨g5, 0, none⟩) (n + 1) cp5) (n + 1) (grown f n k key) := by
        have h := unhide HO5
        rw [shL_grown] at h
        exact h
      obtain ⟨hlo5, hin5⟩ := ShOwn.in ho5
      have hg5 : g5 ≠ w3.heap.size := by
        rcases hloc5 with h | h
        · simp [Value.ownBlock] at h; omega
        · simp at h; omega
      have hsz := (unhide HG5).2
      refine bodyPost_ret (v := GrV (.slice (some ⟨g5, 0, none⟩) (n + 1) cp5) n) (by simp [results, Try.results22, go_sem, R0, R1]) rfl ⟨⟨_, _, n + 1, grown f n k key, rfl, .inr ⟨unhide HNB, .inr (.inr ⟨(unhide HNO).1, (unhide HNO).2.1, (unhide HNO).2.2, rfl, rfl, rfl⟩)⟩, .inr ⟨by omega, g5, cp5, rfl, by omega, by simpa using hlt5, ?_⟩⟩, ?_⟩
      · exact hin5.of_block (((Deep.blk_setCell_other _ _ _ _ (by show g5 ≠ w.heap.size + 1; omega)).trans (Deep.blk_setCell_other _ _ _ _ (by show g5 ≠ w.heap.size + 1; omega))).trans (Deep.blk_setCell_other _ _ _ _ (by exact hg5)))
      · exact ((((unhide HBY).trans (unhide HG5).1).setCell (by show _ ≤ w3.heap.size; omega) _).setCell (by show _ ≤ w.heap.size + 1; omega) _).setCell (by show _ ≤ w.heap.size + 1; omega) _
end Go.Proofs.Ytgiegkigfokdmab
