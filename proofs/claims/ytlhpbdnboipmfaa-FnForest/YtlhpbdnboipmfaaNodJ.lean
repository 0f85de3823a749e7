/-
  Shapes: the program's Grow.
-/
import Derived.Test.YtlhpbdnboipmfaaFoM
namespace Go.Proofs.Ytlhpbdnboipmfaa
open Go.RowKit
open Go.Maps (Keyed)
set_option linter.unusedVariables false

/-- What the look-up among the kids finds. -/
theorem kid_look {w : World} {f : Nat → Shp} {b0 n : Nat} {B N : Nat → Nat} {M : Nat → Option Nat} (h : NodesP w f b0 n B N M) (hid : ∀ i, i < n → N i = i) (h1 : Rule1 n) (h2 : Rule2 f) (h3 : Rule3 n f) {k : Nat} (hk : k < n) {key : ByteArray} (hks : key.size ≤ 4000) :
    ∃ v, (∀ q, (Instr.lookup 61 (.map (M k)) (Sh k key ((f k).count + 1)) false).run Try.prog (w.drewN q) = .ok v (w.drewN q)) ∧ ((∃ j, Kid n f k key j ∧ v = .pointer (some ⟨B j, 0, none⟩)) ∨ (v = .pointer none ∧ ∀ j, ¬ Kid n f k key j)) := by
  have hcb := count_bound (k := n) h2 (fun j a b => h3 j a b) k hk
  have hn2 := h1.2
  have w1 : (Lit.int .i64 (k : Int)).wf = true := wf64 (by omega) (by omega)
  have w3 : (Lit.int .i64 ((f k).count + 1)).wf = true := wf64 (by omega) (by omega)
  have w2 : key.size ≤ maxLen := by unfold maxLen; omega
  cases hM : M k with
  | none =>
    refine ⟨.pointer none, look_none (s := ⟨k, key, (f k).count + 1⟩) w1 w2 w3, .inr ⟨rfl, fun j hK => ?_⟩⟩
    refine h.bare k hk (hid k hk) hM j hK.1 hK.2.1 (hid j hK.2.1) ?_
    have hp : shPar f j = k := by unfold shPar; rw [hK.2.2.1]; rfl
    rw [hp]; exact hid k hk
  | some m =>
    obtain ⟨g, hg, hK⟩ := h.kids k m hk (hid k hk) hM
    refine ⟨g (ShV ⟨k, key, (f k).count + 1⟩), look_kid hg (s := ⟨k, key, (f k).count + 1⟩) w1 w2 w3, ?_⟩
    rcases hK (ShV ⟨k, key, (f k).count + 1⟩) with ⟨j, j0, jn, _, _, jv, jg⟩ | ⟨jg, jno⟩
    · refine .inl ⟨j, ⟨j0, jn, ?_, ?_⟩, jg⟩
      · have := ShV_inj jv
        rw [← this]
      · have := ShV_inj jv
        rw [← this]
    · refine .inr ⟨jg, fun j hK => jno j hK.1 hK.2.1 (hid j hK.2.1) ?_ ?_⟩
      · have hp : shPar f j = k := by unfold shPar; rw [hK.2.2.1]; rfl
        rw [hp]; exact hid k hk
      · have ek : (f j).key = key := WideShapes.bytes_inj (by rw [← ByteArray.toList_eq, ← ByteArray.toList_eq]; exact hK.2.2.2)
        have ec : (f j).count = (f k).count + 1 := by rw [(h3 j hK.1 hK.2.1).2.2.1, hK.2.2.1]; rfl
        show Sh (f j).parent (f j).key (f j).count = _
        rw [ek, ec, hK.2.2.1]

theorem grow_after {W w5 : World} {o : Obj} {q x N g n cp : Nat} {s0 : Value} {vn r0 r1 : Value} (hgr : (((W.drewN q).setCell ⟨x, 1, none⟩ vn).alloc o).grownBy w5 (Value.slice (some ⟨g, 0, none⟩) n cp).ownBlock) (hg : g < W.heap.size) (hgx : g ≠ x) (hgN : g ≠ N + 1) (hx : x + 2 ≤ W.heap.size) (hN : N + 1 < x) (hNg : N ≤ g)
    {m1 : Value} (G0 : W.cell? ⟨x, 0, none⟩ = some s0) (G1 : W.cell? ⟨x, 1, none⟩ = some m1) (F0 : W.frozen? ⟨x, 0, none⟩ = false) (F1 : W.frozen? ⟨x, 1, none⟩ = false) (gW : W.cell? ⟨N + 1, 0, none⟩ = some r0) (kW : W.cell? ⟨N + 1, 1, none⟩ = some r1) (pW : W.frozen? ⟨N + 1, 0, none⟩ = false) (qW : W.frozen? ⟨N + 1, 1, none⟩ = false) :
    w5.cell? ⟨x, 0, none⟩ = some s0 ∧ w5.cell? ⟨x, 1, none⟩ = some vn ∧ w5.frozen? ⟨x, 0, none⟩ = false ∧ w5.frozen? ⟨x, 1, none⟩ = false ∧ w5.cell? ⟨N + 1, 0, none⟩ = some r0 ∧ w5.cell? ⟨N + 1, 1, none⟩ = some r1 ∧ w5.frozen? ⟨N + 1, 0, none⟩ = false ∧ w5.frozen? ⟨N + 1, 1, none⟩ = false ∧ Hid (Below N W w5 ∧ W.heap.size ≤ w5.heap.size) := by
  have hU : ∀ b, b < W.heap.size → b ≠ g → w5.heap[b]? = ((W.drewN q).setCell ⟨x, 1, none⟩ vn).heap[b]? := fun b hb hne => by
    rw [hgr.block b (by simp; omega) (by simpa [Value.ownBlock] using hne)]
    exact Deep.blk_alloc_lt _ _ _ (by simpa using hb)
  have hx' := hU x (by omega) (fun e => hgx e.symm)
  have hN' : w5.heap[N + 1]? = W.heap[N + 1]? := (hU (N + 1) (by omega) (fun e => hgN e.symm)).trans (Deep.blk_setCell_other _ _ _ _ (by show N + 1 ≠ x; omega))
  refine ⟨?_, ?_, ?_, ?_, (World.cell?_of_block hN').trans gW, (World.cell?_of_block hN').trans kW, (World.frozen?_of_block hN').trans pW, (World.frozen?_of_block hN').trans qW, hide ⟨⟨hgr.os, hgr.tape, hgr.output, Nat.le_trans (by simp) hgr.size, fun b hb => ?_⟩, Nat.le_trans (by simp) hgr.size⟩⟩
  · refine (World.cell?_of_block (w := (W.drewN q).setCell ⟨x, 1, none⟩ vn) hx').trans ?_
    simp [go_sem, G0]
  · refine (World.cell?_of_block (w := (W.drewN q).setCell ⟨x, 1, none⟩ vn) hx').trans ?_
    simp [go_sem, G1]
  · refine (World.frozen?_of_block (w := (W.drewN q).setCell ⟨x, 1, none⟩ vn) hx').trans ?_
    rw [World.frozen?_setCell]; exact F0
  · refine (World.frozen?_of_block (w := (W.drewN q).setCell ⟨x, 1, none⟩ vn) hx').trans ?_
    rw [World.frozen?_setCell]; exact F1
  · exact (hU b (by omega) (by omega)).trans (Deep.blk_setCell_other _ _ _ _ (by show b ≠ x; omega))

/-- What is said of Grow's answer. -/
def GPost (n : Nat) (f : Nat → Shp) (i : Int) (key : ByteArray) (lo : Nat) (e : Ending) (w' : World) : Prop := ∃ v r n' f', e = .returned (GrV v r) ∧ Grw n f i key n' f' r ∧ GV f' n' w' v lo w'.heap.size

set_option maxRecDepth 100000 in
set_option maxHeartbeats 2000000 in
theorem implGrow_any (b n cap : Nat) (i : Int) (key : ByteArray) (f : Nat → Shp) (w : World) (hA : ShRow w b n f) (hn : n ≤ 1048576) (hks : key.size ≤ 1048576) :
    Calls Try.prog 6 #[.agg #[.slice (some ⟨b, 0, none⟩) n cap], .int .i64 i, .string key] w fun e w' => GPost n f i key w.heap.size e w' ∧ Below w.heap.size w w' := by
  have hl := hA.lt
  obtain ⟨i0, hi0, hz0, hz1, hz2⟩ := info_parts infoShape
  have HA := hide hA
  clear hA
  have hb0 : Below w.heap.size w ((w.alloc (.cells #[.slice (some ⟨b, 0, none⟩) n cap] 25)).alloc (.cells #[.slice none 0 0, .int .i64 0] 29)) := ((Below.refl _ _).alloc (Nat.le_refl _) _).alloc (by simp) _
  have HB0 := hide hb0
  clear hb0
  go_enter Try.func6, Try.ntmps6
  go_wp2_with fail
  refine (nodeOf_any b n cap f i _ ((unhide HA).below (unhide HB0) hl) hn).mono ?_
  rintro e w1 ⟨hJ, hb1⟩
  obtain ⟨hc1, hf1⟩ := bcell hb1
  have hz1' := hb1.size
  simp at hz1'
  have HB1 := hide ((unhide HB0).trans (hb1.mono (unhide HB0).size))
  have y1 : w.heap.size + 1 < w1.heap.size := by omega
  have a1 : w1.cell? ⟨w.heap.size, 0, none⟩ = some (.slice (some ⟨b, 0, none⟩) n cap) := by rw [hc1 _ _ (by simp; omega)]; simp [go_sem]
  have g1 : w1.cell? ⟨w.heap.size + 1, 0, none⟩ = some (.slice none 0 0) := by rw [hc1 _ _ (by simp)]; simp [go_sem]
  have k1 : w1.cell? ⟨w.heap.size + 1, 1, none⟩ = some (.int .i64 0) := by rw [hc1 _ _ (by simp)]; simp [go_sem]
  have p1 : w1.frozen? ⟨w.heap.size + 1, 0, none⟩ = false := by rw [hf1 _ _ (by simp)]; simp [go_sem]
  have q1 : w1.frozen? ⟨w.heap.size + 1, 1, none⟩ = false := by rw [hf1 _ _ (by simp)]; simp [go_sem]
  clear hb1 hc1 hf1 hz1'
  rcases hJ with ⟨rfl, hg⟩ | ⟨k, B, N, M, rfl, hk, rfl, hr, hN, hid⟩
  · have HG : Hid (BadG n f i key) := hide (.inl hg)
    clear hg
    go_wp2
    refine bodyPost_ret (v := GrV (.slice none 0 0) (-1)) (by simp [results, Try.results6, go_sem, g1, k1]) rfl ⟨⟨_, _, 0, f, rfl, .inl ⟨unhide HG, rfl, rfl, rfl⟩, .inl ⟨rfl, rfl⟩⟩, ?_⟩
    exact ((unhide HB1).setCell (by show _ ≤ w.heap.size + 1; omega) _).setCell (by show _ ≤ w.heap.size + 1; omega) _
  obtain ⟨h1, h2, h3, h4, h5⟩ := forestOk_zero hr
  have hgood : Good n f k := ⟨hr, by omega, by omega⟩
  have HX := hide (And.intro h1 (And.intro h2 h3))
  have HGd := hide hgood
  have hn200 : n ≤ 200 := h1.2
  have hn0 : 0 < n := by have := h1.1; omega
  obtain ⟨hcb0, hcb1⟩ := count_bound (k := n) h2 (fun j a b => h3 j a b) k hk
  have HNN := hide hN
  have HI := hide hid
  clear h1 h2 h3 h4 h5 hgood hN hid hr
  by_cases h4000 : (4000 : Int) < key.size
  · have hd4 : decide ((4000 : Int) < key.size) = true := by simp [h4000]
    have HG : Hid (BadG n f k key) := hide (.inr (.inl (by omega)))
    go_wp2
    refine bodyPost_ret (v := GrV (.slice none 0 0) (-1)) (by simp [results, Try.results6, go_sem, g1, k1]) rfl ⟨⟨_, _, 0, f, rfl, .inl ⟨unhide HG, rfl, rfl, rfl⟩, .inl ⟨rfl, rfl⟩⟩, ?_⟩
    exact ((unhide HB1).setCell (by show _ ≤ w.heap.size + 1; omega) _).setCell (by show _ ≤ w.heap.size + 1; omega) _
  have hd4 : decide ((4000 : Int) < key.size) = false := by simp; omega
  go_wp2_with fail
  refine (placeOf_any _ f _ n B N M (unhide HNN) (unhide HI) (unhide HX).2.1 (unhide HX).2.2 k hk key).mono ?_
  rintro e w2 ⟨⟨rfl, _⟩, rfl⟩
  obtain ⟨r, hr⟩ : ∃ r, plcI f k key = r := ⟨_, rfl⟩
  rw [hr]
  have HP := hide hr
  clear hr
  by_cases hr0 : 0 ≤ r
  · have hdr : decide (0 ≤ r) = true := by simp [hr0]
    have HG : Hid (BadG n f k key) := hide (.inr (.inr (by show 0 ≤ plcI f k key; rw [unhide HP]; exact hr0)))
    go_wp2
    refine bodyPost_ret (v := GrV (.slice none 0 0) (-1)) (by simp [results, Try.results6, go_sem, g1, k1]) rfl ⟨⟨_, _, 0, f, rfl, .inl ⟨unhide HG, rfl, rfl, rfl⟩, .inl ⟨rfl, rfl⟩⟩, ?_⟩
    exact ((unhide HB1).setCell (by show _ ≤ w.heap.size + 1; omega) _).setCell (by show _ ≤ w.heap.size + 1; omega) _
  have hdr : decide (0 ≤ r) = false := by simp; omega
  have HNB : Hid (¬ BadG n f k key) := hide (by
    rintro (h | h | h)
    · exact h (unhide HGd)
    · omega
    · have h : 0 ≤ plcI f k key := h
      rw [unhide HP] at h; exact hr0 h)
  go_wp2_with fail
  refine (copyForest_any b n cap f _ ((unhide HA).below (unhide HB1) hl) hn0 hn).mono ?_
  rintro e w3 ⟨⟨g, cp, rfl, hgb, hown⟩, hb3⟩
  have z23 : w2.heap.size ≤ w3.heap.size := hb3.size
  have hgl : g < w3.heap.size := (hown.lt g rfl).2
  have a3 := (hb3.cell (p := ⟨w.heap.size, 0, none⟩) (by show w.heap.size < w2.heap.size; omega)).trans a1
  have g3 := (hb3.cell (p := ⟨w.heap.size + 1, 0, none⟩) (by exact y1)).trans g1
  have k3 := (hb3.cell (p := ⟨w.heap.size + 1, 1, none⟩) (by exact y1)).trans k1
  have p3 := (hb3.frozen (p := ⟨w.heap.size + 1, 0, none⟩) (by exact y1)).trans p1
  have q3 := (hb3.frozen (p := ⟨w.heap.size + 1, 1, none⟩) (by exact y1)).trans q1
  have hN3 := (unhide HNN).below hb3
  obtain ⟨_, _, n3, _, n5⟩ := node_cells hN3 (unhide HI) hk
  have hBk : B k < w3.heap.size := hN3.lt hk
  have HB3 := hide ((unhide HB1).trans (hb3.mono (unhide HB1).size))
  have HN3 := hide hN3
  have HOW := hide hown
  have hw : IntKind.i64.wrap ((f k).count + 1) = (f k).count + 1 := by rw [IntKind.wrap_i64]; omega
  clear hb3 hN3 a1 g1 k1 p1 q1 HB1 HNN hown
  go_wp2
  obtain ⟨W, hW⟩ : ∃ W, W = (w3.alloc (.cells #[.slice (some ⟨g, 0, none⟩) n cp, .int .i64 (-1)] 29)).alloc (.cells #[.int .i64 (k : Int), .string key, .int .i64 ((f k).count + 1)] 60) := ⟨_, rfl⟩
  rw [← hW]
  have hzW : W.heap.size = w3.heap.size + 2 := by rw [hW]; simp
  have hbW : Below w3.heap.size w3 W := by rw [hW]; exact ((Below.refl _ _).alloc (Nat.le_refl _) _).alloc (by simp) _
  have aW := (hbW.cell (p := ⟨w.heap.size, 0, none⟩) (by show w.heap.size < w3.heap.size; omega)).trans a3
  have gW := (hbW.cell (p := ⟨w.heap.size + 1, 0, none⟩) (by show w.heap.size + 1 < w3.heap.size; omega)).trans g3
  have kW := (hbW.cell (p := ⟨w.heap.size + 1, 1, none⟩) (by show w.heap.size + 1 < w3.heap.size; omega)).trans k3
  have pW := (hbW.frozen (p := ⟨w.heap.size + 1, 0, none⟩) (by show w.heap.size + 1 < w3.heap.size; omega)).trans p3
  have qW := (hbW.frozen (p := ⟨w.heap.size + 1, 1, none⟩) (by show w.heap.size + 1 < w3.heap.size; omega)).trans q3
  have nW := (hbW.cell (p := ⟨B k, 5, none⟩) (by exact hBk)).trans n5
  have G0 : W.cell? ⟨w3.heap.size, 0, none⟩ = some (.slice (some ⟨g, 0, none⟩) n cp) := by rw [hW]; simp [go_sem]
  have G1 : W.cell? ⟨w3.heap.size, 1, none⟩ = some (.int .i64 (-1)) := by rw [hW]; simp [go_sem]
  have F0 : W.frozen? ⟨w3.heap.size, 0, none⟩ = false := by rw [hW]; simp [go_sem]
  have F1 : W.frozen? ⟨w3.heap.size, 1, none⟩ = false := by rw [hW]; simp [go_sem]
  have S0 : W.cell? ⟨w3.heap.size + 1, 0, none⟩ = some (.int .i64 (k : Int)) := by rw [hW]; simp [go_sem]
  have S1 : W.cell? ⟨w3.heap.size + 1, 1, none⟩ = some (.string key) := by rw [hW]; simp [go_sem]
  have S2 : W.cell? ⟨w3.heap.size + 1, 2, none⟩ = some (.int .i64 ((f k).count + 1)) := by rw [hW]; simp [go_sem]
  have HOWW : Hid (ShOwn W w2.heap.size (.slice (some ⟨g, 0, none⟩) n cp) n f) := hide (by rw [hW]; exact ((unhide HOW).alloc _).alloc _)
  have HNW := hide ((unhide HN3).below hbW)
  have HBW := hide ((unhide HB3).trans (hbW.mono (unhide HB3).size))
  obtain ⟨v, hlk, hv⟩ := kid_look (unhide HNW) (unhide HI) (unhide HX).1 (unhide HX).2.1 (unhide HX).2.2 hk (key := key) (by omega)
  have HIN := hide (ShOwn.in (unhide HOWW)).2
  have HZ := hide hzW
  have hgW : g < W.heap.size := by omega
  have hg3' : g ≠ w3.heap.size := by omega
  have hgN : g ≠ w.heap.size + 1 := by omega
  clear hW hbW a3 g3 k3 p3 q3 n3 n5 HN3 HB3 HOW hzW
  rcases hv with ⟨j, hKid, rfl⟩ | ⟨rfl, hno⟩
  · have hjn := hKid.2.1
    obtain ⟨m0, _⟩ := node_cells (unhide HNW) (unhide HI) hjn
    have hBj : B j < W.heap.size := (unhide HNW).lt hjn
    have HK := hide hKid
    clear hKid
    go_quiet (fail)
    go_wp2
    refine bodyPost_ret (v := GrV (.slice (some ⟨g, 0, none⟩) n cp) j) (by simp [results, Try.results6, go_sem, gW, kW]) rfl ⟨⟨_, _, n, f, rfl, .inr ⟨unhide HNB, .inl ⟨j, unhide HK, rfl, rfl, rfl⟩⟩, .inr ⟨hn0, g, cp, rfl, by omega, by simpa using hgW, ?_⟩⟩, ?_⟩
    · exact (unhide HIN).of_block (((Deep.blk_setCell_other _ _ _ _ (by exact hgN)).trans (Deep.blk_setCell_other _ _ _ _ (by exact hgN))).trans (Deep.blk_setCell_other _ _ _ _ (by exact hg3')))
    · exact (((below_drewN (unhide HBW) _).setCell (by show _ ≤ w3.heap.size; omega) _).setCell (by show _ ≤ w.heap.size + 1; omega) _).setCell (by show _ ≤ w.heap.size + 1; omega) _
  · have HNO := hide hno
    clear hno
    by_cases h12 : (f k).count + 1 ≤ 12
    case neg =>
      have hd12 : decide ((f k).count + 1 ≤ 12) = false := by simp; omega
      go_quiet (fail)
      go_wp2
      refine bodyPost_ret (v := GrV (.slice (some ⟨g, 0, none⟩) n cp) (-1)) (by simp [results, Try.results6, go_sem, gW, kW]) rfl ⟨⟨_, _, n, f, rfl, .inr ⟨unhide HNB, .inr (.inl ⟨unhide HNO, .inl (by show (f k).count = 12; omega), rfl, rfl, rfl⟩)⟩, .inr ⟨hn0, g, cp, rfl, by omega, by simpa using hgW, ?_⟩⟩, ?_⟩
      · exact (unhide HIN).of_block ((Deep.blk_setCell_other _ _ _ _ (by exact hgN)).trans (Deep.blk_setCell_other _ _ _ _ (by exact hgN)))
      · exact ((below_drewN (unhide HBW) _).setCell (by show _ ≤ w.heap.size + 1; omega) _).setCell (by show _ ≤ w.heap.size + 1; omega) _
    have hd12 : decide ((f k).count + 1 ≤ 12) = true := by simp [h12]
    by_cases h200 : n < 200
    case neg =>
      have hd200 : decide ((n : Int) < 200) = false := by simp; omega
      go_quiet (fail)
      go_wp2
      refine bodyPost_ret (v := GrV (.slice (some ⟨g, 0, none⟩) n cp) (-1)) (by simp [results, Try.results6, go_sem, gW, kW]) rfl ⟨⟨_, _, n, f, rfl, .inr ⟨unhide HNB, .inr (.inl ⟨unhide HNO, .inr (by omega), rfl, rfl, rfl⟩)⟩, .inr ⟨hn0, g, cp, rfl, by omega, by simpa using hgW, ?_⟩⟩, ?_⟩
      · exact (unhide HIN).of_block ((Deep.blk_setCell_other _ _ _ _ (by exact hgN)).trans (Deep.blk_setCell_other _ _ _ _ (by exact hgN)))
      · exact ((below_drewN (unhide HBW) _).setCell (by show _ ≤ w.heap.size + 1; omega) _).setCell (by show _ ≤ w.heap.size + 1; omega) _
    have hd200 : decide ((n : Int) < 200) = true := by simp; omega
    have HOU : Hid (∀ q, (((W.drewN q).setCell ⟨w3.heap.size, 1, none⟩ (.int .i64 (n : Int))).alloc (.cells #[.int .i64 (k : Int), .string key, .int .i64 ((f k).count + 1)] 60)).ownsRow w2.heap.size 60 3 (.slice (some ⟨g, 0, none⟩) n cp) n (shL f n)) := hide (fun q => by
      have h : ShOwn (W.drewN q) w2.heap.size (.slice (some ⟨g, 0, none⟩) n cp) n f := unhide HOWW
      exact (h.kept (grown_setCell (W.drewN q) ⟨w3.heap.size, 1, none⟩ (.int .i64 (n : Int))) (.inr (by simpa [Value.ownBlock] using hg3'))).alloc _)
    have HNA : Hid (∀ q j u, [.int .i64 (k : Int), .string key, .int .i64 ((f k).count + 1)][j]? = some u → (((W.drewN q).setCell ⟨w3.heap.size, 1, none⟩ (.int .i64 (n : Int))).alloc (.cells #[.int .i64 (k : Int), .string key, .int .i64 ((f k).count + 1)] 60)).cell? ((⟨W.heap.size, 0, none⟩ : Addr).add j) = some u) := hide (fun q => by
      have hb := Deep.blk_alloc_new ((W.drewN q).setCell ⟨w3.heap.size, 1, none⟩ (.int .i64 (n : Int))) (.cells #[.int .i64 (k : Int), .string key, .int .i64 ((f k).count + 1)] 60)
      have hz : ((W.drewN q).setCell ⟨w3.heap.size, 1, none⟩ (.int .i64 (n : Int))).heap.size = W.heap.size := by simp
      rw [hz] at hb
      exact World.news_of_block hb)
    have y1' : w.heap.size + 1 < w3.heap.size := by omega
    have hNg : w.heap.size ≤ g := by omega
    have hzz : w3.heap.size + 2 ≤ W.heap.size := Nat.le_of_eq (unhide HZ).symm
    go_quiet (fail)
    go_wp2_with (first | (at_builtin; refine wpList_append_lies _ rfl _ _ 23 rfl w2.heap.size 60 i0 (Sh 0 ⟨#[]⟩ 0) 3 32 Try.underlying23 hi0 hz0 hz1 hz2 rfl (by decide) (.slice (some ⟨g, 0, none⟩) n cp) n (shL f n) rfl (unhide HOU _) ⟨W.heap.size, 0, none⟩ 1 1 [.int .i64 (k : Int), .string key, .int .i64 ((f k).count + 1)] rfl rfl (unhide HNA _) (by simp [Value.oneCell']) (by decide) (by unfold maxLen; omega) (by omega) (by simp; omega) _ rfl ?_; intro g5 cp5 w5 hown5 hgr5 hloc5 hlt5; obtain ⟨G5, G6, F5, F6, R0, R1, T0, T1, HG5⟩ := grow_after hgr5 hgW hg3' hgN hzz y1' hNg G0 G1 F0 F1 gW kW pW qW; have HO5 := hide hown5; clear hown5 hgr5) | go_in)
    have ho5 : ShOwn w5 w2.heap.size (.slice (some ⟨g5, 0, none⟩) (n + 1) cp5) (n + 1) (grown f n k key) := by
      have h := unhide HO5
      rw [shL_grown] at h
      exact h
    obtain ⟨hlo5, hin5⟩ := ShOwn.in ho5
    have hg5 : g5 ≠ w3.heap.size := by
      rcases hloc5 with h | h
      · simp [Value.ownBlock] at h; omega
      · simp at h; omega
    have hsz := (unhide HG5).2
    refine bodyPost_ret (v := GrV (.slice (some ⟨g5, 0, none⟩) (n + 1) cp5) n) (by simp [results, Try.results6, go_sem, R0, R1]) rfl ⟨⟨_, _, n + 1, grown f n k key, rfl, .inr ⟨unhide HNB, .inr (.inr ⟨unhide HNO, by show (f k).count ≠ 12; omega, by omega, rfl, rfl, rfl⟩)⟩, .inr ⟨by omega, g5, cp5, rfl, by omega, by simpa using hlt5, ?_⟩⟩, ?_⟩
    · exact hin5.of_block (((Deep.blk_setCell_other _ _ _ _ (by show g5 ≠ w.heap.size + 1; omega)).trans (Deep.blk_setCell_other _ _ _ _ (by show g5 ≠ w.heap.size + 1; omega))).trans (Deep.blk_setCell_other _ _ _ _ (by exact hg5)))
    · exact ((((unhide HBW).trans (unhide HG5).1).setCell (by show _ ≤ w3.heap.size; omega) _).setCell (by show _ ≤ w.heap.size + 1; omega) _).setCell (by show _ ≤ w.heap.size + 1; omega) _
end Go.Proofs.Ytlhpbdnboipmfaa
