/-
  Shapes: all shapes planted.
-/
import Derived.Test.YtgiegkigfokdmabNodD
import Derived.Deep.RegionLaw
import Derived.Deep.AppendLies
namespace Go.Proofs.Ytgiegkigfokdmab
open Go.RowKit
open Go.Maps (Keyed)
set_option linter.unusedVariables false

set_option maxHeartbeats 400000 in
theorem rootShape_any (w : World) : Calls Try.prog 48 #[] w fun e w' => e = .returned (Sh (-1) ⟨#[]⟩ 0) ∧ Below w.heap.size w w' := by
  go_enter Try.func48, Try.ntmps48
  go_wp2
  exact bodyPost_ret (v := Sh (-1) ⟨#[]⟩ 0) (by simp [results, Try.results48, go_sem]) rfl ⟨rfl, (Below.refl _ _).alloc (Nat.le_refl _) _⟩

/-- A node is planted. -/
def ptrs (B : Nat → Nat) (n : Nat) : List Value := (List.range n).map fun i => .pointer (some ⟨B i, 0, none⟩)

theorem ptrs_get {B : Nat → Nat} {n i : Nat} (h : i < n) : (ptrs B n)[i]? = some (.pointer (some ⟨B i, 0, none⟩)) := by simp [ptrs, h]

theorem ptrs_snoc {B B' : Nat → Nat} {n r : Nat} (h : ∀ i, i < n → B' i = B i) (hr : B' n = r) : ptrs B n ++ [.pointer (some ⟨r, 0, none⟩)] = ptrs B' (n + 1) := by
  unfold ptrs
  rw [List.range_succ, List.map_append]
  congr 1
  · exact List.map_congr_left fun i hi => by rw [h i (List.mem_range.1 hi)]
  · simp [hr]

theorem root_key {f : Nat → Shp} (h2 : Rule2 f) : f 0 = ⟨-1, ⟨#[]⟩, 0⟩ := by
  obtain ⟨a, b, c⟩ := h2
  cases hf : f 0 with
  | mk p k cc =>
    rw [hf] at a b c
    have a : p = -1 := a
    have c : cc = 0 := c
    have b : k.toList = [] := b
    subst a; subst c
    have : k = ⟨#[]⟩ := WideShapes.bytes_inj (by rw [← ByteArray.toList_eq, b])
    rw [this]

theorem Nodes.root {P : Program} {K Tn : TypeId} {w : World} {f : Nat → Shp} {b0 r : Nat} (hr : b0 ≤ r) (hrow : w.rowIs r Tn 6 (nodeCell 0 (f 0) none none)) : Nodes P K Tn w f b0 1 (fun _ => r) (fun _ => 0) (fun _ => none) where
  pos := by omega
  n0 := rfl
  le := fun i hi => by omega
  own := fun i hi => rfl
  same := fun i hi => by rw [show i = 0 by omega]
  one := fun i j hi hj _ => rfl
  blk := fun i hi => rfl
  base := fun i hi => hr
  node := fun i hi hn => by
    rw [show i = 0 by omega]
    exact hrow
  apart := fun i j hi hj _ _ _ => by omega
  mbase := fun i m _ _ h => by cases h
  mapart := fun i j m _ _ _ _ h => by cases h
  bare := fun i hi _ _ j h0 hj => by omega
  kids := fun i m _ _ h => by cases h

theorem own_grown {Tn e b0 base g n cp : Nat} {w w' : World} {xs : List Value} (h : w.ownsRow base e 1 (.slice (some ⟨g, 0, none⟩) n cp) n xs) (hG : Grown Tn b0 w w') (he : e ≠ Tn) : w'.ownsRow base e 1 (.slice (some ⟨g, 0, none⟩) n cp) n xs := by
  obtain ⟨hl, ⟨hv, _⟩ | ⟨g', cap, cur, hv, hb, hblk, h1, h2, h3, h4⟩⟩ := h
  · cases hv
  · cases hv
    refine ⟨hl, .inr ⟨g, cp, cur, rfl, hb, ?_, h1, h2, h3, h4⟩⟩
    rw [hG.block g (Array.getElem?_eq_some_iff.1 hblk).1 (.inr ?_)]
    · exact hblk
    · rintro (⟨c, hc⟩ | ⟨es, c, hc⟩)
      · rw [hblk] at hc; cases hc; exact he rfl
      · rw [hblk] at hc; cases hc

theorem own_far {Tn e base g n cp : Nat} {w : World} {xs : List Value} (h : w.ownsRow base e 1 (.slice (some ⟨g, 0, none⟩) n cp) n xs) (he : e ≠ Tn) : ¬ Nodal Tn w g := by
  obtain ⟨hl, ⟨hv, _⟩ | ⟨g', cap, cur, hv, hb, hblk, h1, h2, h3, h4⟩⟩ := h
  · cases hv
  · cases hv
    rintro (⟨c, hc⟩ | ⟨es, c, hc⟩)
    · rw [hblk] at hc; cases hc; exact he rfl
    · rw [hblk] at hc; cases hc

theorem Grown.below {Tn b0 : Nat} {w w' : World} (h : Grown Tn b0 w w') (hb : b0 ≤ w.heap.size) : Below b0 w w' := ⟨h.os, h.tape, h.output, h.size, fun k hk => h.block k (by omega) (.inl hk)⟩

theorem infoPtr : (Try.prog.info? 63).map (fun i => (i.zero, i.size, i.bytes)) = some (some (.pointer none), 1, 8) := by kernel_rfl

set_option maxRecDepth 100000 in
set_option maxHeartbeats 2000000 in
theorem plant_any (b n cap : Nat) (f : Nat → Shp) (w : World) (hA : ShRow w b n f) (h1 : Rule1 n) (h2 : Rule2 f) (h3 : Rule3 n f) :
    Calls Try.prog 58 #[.agg #[.slice (some ⟨b, 0, none⟩) n cap]] w fun e w' => (∃ g cp B N M, e = .returned (.slice (some ⟨g, 0, none⟩) n cp) ∧ NodesP w' f w.heap.size n B N M ∧ g < w'.heap.size ∧ ∀ i, i < n → w'.cell? ⟨g, i, none⟩ = some (.pointer (some ⟨B i, 0, none⟩))) ∧ Below w.heap.size w w' := by
  have hl := hA.lt
  have hn0 : 0 < n := by have := h1.1; omega
  have hn2 : n ≤ 200 := h1.2
  have HA := hide hA
  have H2 := hide h2
  have H3 := hide h3
  have hrk := root_key h2
  clear hA h1 h2 h3
  obtain ⟨i0, hi, hz0, hz1, hz2⟩ := info_parts infoPtr
  have hb0 : Below w.heap.size w (w.alloc (.cells #[.slice (some ⟨b, 0, none⟩) n cap] 29)) := (Below.refl _ _).alloc (Nat.le_refl _) _
  go_enter Try.func58, Try.ntmps58
  go_wp2_with fail
  refine (rootShape_any _).mono ?_
  rintro e w1 ⟨rfl, hb1⟩
  obtain ⟨hc1, hf1⟩ := bcell hb1
  have hz1 := hb1.size
  simp at hz1
  have HB1 := hide (hb0.trans (hb1.mono hb0.size))
  have y1 : w.heap.size < w1.heap.size := by omega
  have a1 : w1.cell? ⟨w.heap.size, 0, none⟩ = some (.slice (some ⟨b, 0, none⟩) n cap) := by rw [hc1 _ _ (by simp)]; simp [go_sem]
  clear hb1 hc1 hf1 hz1 hb0
  go_wp2
  clear a1
  go_loopw [3, 13] (fun v i wr => ∃ (k L g cp : Nat) (B N : Nat → Nat) (M : Nat → Option Nat), k ≤ n ∧ i = .int .i64 k ∧ v = .slice (some ⟨g, 0, none⟩) L cp ∧ 1 ≤ L ∧ (L = k ∨ (k = 0 ∧ L = 1)) ∧ wr.ownsRow w.heap.size 63 1 (.slice (some ⟨g, 0, none⟩) L cp) L (ptrs B L) ∧ NodesP wr f w.heap.size L B N M ∧ Below w.heap.size w wr) (fun _ i _ => n - (intOf i).toNat)
  case atStart =>
    have hr := row6 w1 0 (f 0) none
    have hrow : (w1.alloc (.cells #[.int .i64 0, .int .i64 (-1), .string ⟨#[]⟩, .int .i64 0, .pointer none, .map none] 75)).rowIs w1.heap.size 75 6 (nodeCell 0 (f 0) none none) := by rw [hrk] at hr ⊢; exact hr
    have hb := (((unhide HB1).alloc (unhide HB1).size (.cells #[.int .i64 0, .int .i64 (-1), .string ⟨#[]⟩, .int .i64 0, .pointer none, .map none] 75)).alloc (by simp; omega) (.cells #[.pointer (some ⟨w1.heap.size, 0, none⟩)] 63))
    have ho := World.ownsRow_lit (base := w.heap.size) (e := 63) (size := 1) (w1.alloc (.cells #[.int .i64 0, .int .i64 (-1), .string ⟨#[]⟩, .int .i64 0, .pointer none, .map none] 75)) #[.pointer (some ⟨w1.heap.size, 0, none⟩)] 1 (by simp; omega) (by unfold maxLen; omega) rfl
    refine ⟨0, 1, w1.heap.size + 1, 1, fun _ => w1.heap.size, fun _ => 0, fun _ => none, by omega, rfl, rfl, by omega, .inr ⟨rfl, rfl⟩, ?_, Nodes.root (by omega) (hrow.alloc _), hb⟩
    simpa [ptrs] using ho
  case round =>
    obtain ⟨k, L, g, cp, B, N, M, hk, rfl, rfl, hL1, hL, hown, hN, hb⟩ := hrel
    have c0 : k < n → wr.cell? ⟨b, k * 3, none⟩ = some (.int .i64 (f k).parent) := fun h => (((unhide HA).below hb hl).cells h).1
    have c1 : k < n → wr.cell? ⟨b, k * 3 + 1, none⟩ = some (.string (f k).key) := fun h => (((unhide HA).below hb hl).cells h).2.1
    have c2 : k < n → wr.cell? ⟨b, k * 3 + 2, none⟩ = some (.int .i64 (f k).count) := fun h => (((unhide HA).below hb hl).cells h).2.2
    have HB := hide hb
    have HO := hide hown
    have HN := hide hN
    clear hb hown hN
    go_wp2
    · have hkn : k < n := by assumption
      have hk0 : 0 < k := by assumption
      have hLk : L = k := by omega
      subst hLk
      have p0 := (unhide H3 L hk0 hkn).1
      have p1 := (unhide H3 L hk0 hkn).2.1
      obtain ⟨p, hp⟩ : ∃ p : Nat, (f L).parent = p := ⟨(f L).parent.toNat, by omega⟩
      have hpL : p < L := by omega
      rw [hp]
      obtain ⟨W, hW⟩ : ∃ W, W = wr.alloc (.cells #[.int .i64 p, .string (f L).key, .int .i64 (f L).count] 56) := ⟨_, rfl⟩
      rw [← hW]
      have x0 : W.cell? ⟨wr.heap.size, 0, none⟩ = some (.int .i64 p) := by rw [hW]; simp [go_sem]
      have x1 : W.cell? ⟨wr.heap.size, 1, none⟩ = some (.string (f L).key) := by rw [hW]; simp [go_sem]
      have x2 : W.cell? ⟨wr.heap.size, 2, none⟩ = some (.int .i64 (f L).count) := by rw [hW]; simp [go_sem]
      have hzW : W.heap.size = wr.heap.size + 1 := by rw [hW]; simp
      have hbW : Below w.heap.size w W := by rw [hW]; exact (unhide HB).alloc (unhide HB).size _
      have hownW : W.drew.ownsRow w.heap.size 63 1 (.slice (some ⟨g, 0, none⟩) L cp) L (ptrs B L) := by rw [hW]; exact ((unhide HO).alloc _).drew
      have xp : W.cell? ⟨g, p, none⟩ = some (.pointer (some ⟨B p, 0, none⟩)) := (hownW.cellAt p (by omega)).trans (ptrs_get hpL)
      have hNW : NodesP W.drew f w.heap.size L B N M := (unhide HN).keep (fun b hb => by
        show W.heap[b]? = _
        rw [hW]
        exact Deep.blk_alloc_lt _ _ _ (by
          rcases hb with ⟨c, hc⟩ | ⟨es, c, hc⟩
          · exact (Array.getElem?_eq_some_iff.1 hc).1
          · exact (Array.getElem?_eq_some_iff.1 hc).1))
      have hC := intern_any W.drew f w.heap.size L B N M hNW (by omega) (unhide H2) (fun i h1 h4 => unhide H3 i h1 (by omega))
      rw [show shPar f L = p by unfold shPar; rw [hp]; rfl, show ShV (f L) = .agg #[.int .i64 p, .string (f L).key, .int .i64 (f L).count] by unfold ShV; rw [hp]] at hC
      have HC := hide hC
      have HOW := hide hownW
      have HBW := hide hbW
      have HP := hide hp
      clear hC hownW hbW hNW hW HN HO HB c0 c1 c2 p0 p1 hp
      go_region_law (first
        | (go_simp; refine (unhide HC).mono ?_; rintro e w2 ⟨r, B', N', M', rfl, hN2, hBr, hBe, hG2⟩; have HN2 := hide hN2; have HBr := hide hBr; have HBe := hide hBe; have HG2 := hide hG2; have HO2 := hide ((own_grown (unhide HOW) hG2 (by decide)).alloc (.cells #[.pointer (some ⟨r, 0, none⟩)] 63)); have hws : w.heap.size ≤ w2.heap.size := Nat.le_trans (unhide HBW).size hG2.size; clear hN2 hBr hBe hG2)
        | (refine step_append_lies _ rfl (.tmp 20) (.tmp 29) 58 rfl w.heap.size 63 i0 (.pointer none) 1 8 Try.underlying58 hi hz0 hz1 hz2 rfl (by decide) (.slice (some ⟨g, 0, none⟩) L cp) L (ptrs B L) (by simp [Act.eval]) (unhide HO2) ⟨w2.heap.size, 0, none⟩ 1 1 [.pointer (some ⟨r, 0, none⟩)] (by simp [Act.eval]) rfl (World.news_of_block (Deep.blk_alloc_new _ _)) (by simp [Value.oneCell']) (by decide) (by unfold maxLen; omega) (by omega) (by simp; omega) _ rfl ?_; intro g3 cp3 w3 hown3 hgr3 hloc3 hlt3))
      all_goals
        have hfar := own_far (unhide HO2) (show 63 ≠ 75 by decide)
        have hbg : w.heap.size ≤ g := ((unhide HO2).lt g rfl).1
        have hN3 : NodesP w3 f w.heap.size (L + 1) B' N' M' := ((unhide HN2).keep (w' := w3) (fun b hb => by
          have hbl : b < w2.heap.size := by
            rcases hb with ⟨c, hc⟩ | ⟨es, c, hc⟩
            · exact (Array.getElem?_eq_some_iff.1 hc).1
            · exact (Array.getElem?_eq_some_iff.1 hc).1
          have hbe := Deep.blk_alloc_lt w2 (.cells #[.pointer (some ⟨r, 0, none⟩)] 63) b hbl
          rw [← hbe]
          refine hgr3.block b (by simp; omega) (fun e => hfar ?_)
          have e : b = g := Option.some.inj e
          rw [← e]
          rcases hb with ⟨c, hc⟩ | ⟨es, c, hc⟩
          · exact .inl ⟨c, hbe.trans hc⟩
          · exact .inr ⟨es, c, hbe.trans hc⟩))
        have hb2 : Below w.heap.size w w2 := (unhide HBW).trans (by
          have := (unhide HG2).below (unhide HBW).size
          exact ⟨this.os, this.tape, this.output, this.size, this.block⟩)
        have hb3 : Below w.heap.size w w3 := hb2.trans ⟨hgr3.os, hgr3.tape, hgr3.output, Nat.le_trans (by simp) hgr3.size, fun k hk => by
          rw [hgr3.block k (by simp; omega) (fun e => by have e : k = g := Option.some.inj e; omega)]
          exact Deep.blk_alloc_lt _ _ _ (by omega)⟩
        rw [ptrs_snoc (unhide HBe) (unhide HBr)] at hown3
        have HN3 := hide hN3
        have HB3 := hide hb3
        have HO3 := hide hown3
        clear hN3 hb2 hb3 hown3 hgr3 hfar HO2 HN2 HG2 HBe HBr HC HOW HBW x0 x1 x2 xp
        go_wp2
        go_roundw
        case rel => exact ⟨L + 1, L + 1, g3, cp3, B', N', M', by omega, by go_num, rfl, by omega, .inl rfl, unhide HO3, unhide HN3, unhide HB3⟩
        case measure => simp [intOf]; omega
    · have hk0 : k = 0 := by omega
      subst hk0
      have hL1' : L = 1 := by omega
      subst hL1'
      go_roundw
      case rel =>
        refine ⟨1, 1, g, cp, B, N, M, by omega, by go_num, rfl, by omega, .inl rfl, (unhide HO).alloc _, (unhide HN).keep (fun b hb => Deep.blk_alloc_lt _ _ _ ?_), (unhide HB).alloc (unhide HB).size _⟩
        rcases hb with ⟨c, hc⟩ | ⟨es, c, hc⟩
        · exact (Array.getElem?_eq_some_iff.1 hc).1
        · exact (Array.getElem?_eq_some_iff.1 hc).1
      case measure => simp [intOf]; omega
    · have hLn : L = n := by omega
      subst hLn
      go_ret
      exact ⟨⟨g, cp, B, N, M, rfl, unhide HN, ((unhide HO).lt g rfl).2, fun i hi => ((unhide HO).cellAt i (by omega)).trans (ptrs_get hi)⟩, unhide HB⟩
end Go.Proofs.Ytgiegkigfokdmab
