/-
  NodE, NodF, NodG.
-/
import Derived.Test.YtfceeijdmilieaaGreatBr12
import Derived.Deep.RegionLaw
import Derived.Deep.AppendLies
namespace Go.Proofs.YtfceeijdmilieaaGreat
open Go.RowKit
open Go.Maps (Keyed)
set_option linter.unusedVariables false

set_option maxHeartbeats 400000 in
theorem rootShape_any (w : World) : Calls Tryz.prog 53 #[] w fun e w' => e = .returned (Sh (-1) ⟨#[]⟩ 0) ∧ Below w.heap.size w w' := by
  go_enter Tryz.func53, Tryz.ntmps53
  go_wp2
  exact bodyPost_ret (v := Sh (-1) ⟨#[]⟩ 0) (by simp [results, Tryz.results53, go_sem]) rfl ⟨rfl, (Below.refl _ _).alloc (Nat.le_refl _) _⟩

/-- A node is planted. -/
def ptrs (B : Nat → Nat) (n : Nat) : List Value := (List.range n).map fun i => .pointer (some ⟨B i, 0, none⟩)

theorem ptrs_get {B : Nat → Nat} {n i : Nat} (h : i < n) : (ptrs B n)[i]? = some (.pointer (some ⟨B i, 0, none⟩)) := by simp [ptrs, h]

theorem ptrs_snoc {B B' : Nat → Nat} {n r : Nat} (h : ∀ i, i < n → B' i = B i) (hr : B' n = r) : ptrs B n ++ [.pointer (some ⟨r, 0, none⟩)] = ptrs B' (n + 1) := by
  unfold ptrs
  rw [List.range_succ, List.map_append]
  congr 1
  · exact List.map_congr_left fun i hi => by rw [h i (List.mem_range.1 hi)]
  · simp [hr]

theorem root_key {f : Nat → Shp} (h2 : Rule2 f) : f 0 = ⟨-1, ⟨#[]⟩, 0⟩ := by
  obtain ⟨a, b, c⟩ := h2
  cases hf : f 0 with
  | mk p k cc =>
    rw [hf] at a b c
    have a : p = -1 := a
    have c : cc = 0 := c
    have b : k.toList = [] := b
    subst a; subst c
    have : k = ⟨#[]⟩ := WideShapes.bytes_inj (by rw [← ByteArray.toList_eq, b])
    rw [this]

theorem Nodes.root {P : Program} {K Tn : TypeId} {w : World} {f : Nat → Shp} {b0 r : Nat} (hr : b0 ≤ r) (hrow : w.rowIs r Tn 6 (nodeCell 0 (f 0) none none)) : Nodes P K Tn w f b0 1 (fun _ => r) (fun _ => 0) (fun _ => none) where
  pos := by omega
  n0 := rfl
  le := fun i hi => by omega
  own := fun i hi => rfl
  same := fun i hi => by rw [show i = 0 by omega]
  one := fun i j hi hj _ => rfl
  blk := fun i hi => rfl
  base := fun i hi => hr
  node := fun i hi hn => by
    rw [show i = 0 by omega]
    exact hrow
  apart := fun i j hi hj _ _ _ => by omega
  mbase := fun i m _ _ h => by cases h
  mapart := fun i j m _ _ _ _ h => by cases h
  bare := fun i hi _ _ j h0 hj => by omega
  kids := fun i m _ _ h => by cases h

theorem own_grown {Tn e b0 base g n cp : Nat} {w w' : World} {xs : List Value} (h : w.ownsRow base e 1 (.slice (some ⟨g, 0, none⟩) n cp) n xs) (hG : Grown Tn b0 w w') (he : e ≠ Tn) : w'.ownsRow base e 1 (.slice (some ⟨g, 0, none⟩) n cp) n xs := by
  obtain ⟨hl, ⟨hv, _⟩ | ⟨g', cap, cur, hv, hb, hblk, h1, h2, h3, h4⟩⟩ := h
  · cases hv
  · cases hv
    refine ⟨hl, .inr ⟨g, cp, cur, rfl, hb, ?_, h1, h2, h3, h4⟩⟩
    rw [hG.block g (Array.getElem?_eq_some_iff.1 hblk).1 (.inr ?_)]
    · exact hblk
    · rintro (⟨c, hc⟩ | ⟨es, c, hc⟩)
      · rw [hblk] at hc; cases hc; exact he rfl
      · rw [hblk] at hc; cases hc

theorem own_far {Tn e base g n cp : Nat} {w : World} {xs : List Value} (h : w.ownsRow base e 1 (.slice (some ⟨g, 0, none⟩) n cp) n xs) (he : e ≠ Tn) : ¬ Nodal Tn w g := by
  obtain ⟨hl, ⟨hv, _⟩ | ⟨g', cap, cur, hv, hb, hblk, h1, h2, h3, h4⟩⟩ := h
  · cases hv
  · cases hv
    rintro (⟨c, hc⟩ | ⟨es, c, hc⟩)
    · rw [hblk] at hc; cases hc; exact he rfl
    · rw [hblk] at hc; cases hc

theorem Grown.below {Tn b0 : Nat} {w w' : World} (h : Grown Tn b0 w w') (hb : b0 ≤ w.heap.size) : Below b0 w w' := ⟨h.os, h.tape, h.output, h.size, fun k hk => h.block k (by omega) (.inl hk)⟩

theorem infoPtr : (Tryz.prog.info? 123).map (fun i => (i.zero, i.size, i.bytes)) = some (some (.pointer none), 1, 8) := by kernel_rfl

set_option maxRecDepth 100000 in
set_option maxHeartbeats 2000000 in
theorem plant_any (b n cap : Nat) (f : Nat → Shp) (w : World) (hA : ShRow w b n f) (h1 : Rule1 n) (h2 : Rule2 f) (h3 : Rule3 n f) :
    Calls Tryz.prog 55 #[.agg #[.slice (some ⟨b, 0, none⟩) n cap]] w fun e w' => (∃ g cp B N M, e = .returned (.slice (some ⟨g, 0, none⟩) n cp) ∧ NodesP w' f w.heap.size n B N M ∧ g < w'.heap.size ∧ ∀ i, i < n → w'.cell? ⟨g, i, none⟩ = some (.pointer (some ⟨B i, 0, none⟩))) ∧ Below w.heap.size w w' := by
  have hl := hA.lt
  have hn0 : 0 < n := by have := h1.1; omega
  have hn2 : n ≤ 200 := h1.2
  have HA := hide hA
  have H2 := hide h2
  have H3 := hide h3
  have hrk := root_key h2
  clear hA h1 h2 h3
  obtain ⟨i0, hi, hz0, hz1, hz2⟩ := info_parts infoPtr
  have hb0 : Below w.heap.size w (w.alloc (.cells #[.slice (some ⟨b, 0, none⟩) n cap] 33)) := (Below.refl _ _).alloc (Nat.le_refl _) _
  go_enter Tryz.func55, Tryz.ntmps55
  go_wp2_with fail
  refine (rootShape_any _).mono ?_
  rintro e w1 ⟨rfl, hb1⟩
  obtain ⟨hc1, hf1⟩ := bcell hb1
  have hz1 := hb1.size
  simp at hz1
  have HB1 := hide (hb0.trans (hb1.mono hb0.size))
  have y1 : w.heap.size < w1.heap.size := by omega
  have a1 : w1.cell? ⟨w.heap.size, 0, none⟩ = some (.slice (some ⟨b, 0, none⟩) n cap) := by rw [hc1 _ _ (by simp)]; simp [go_sem]
  clear hb1 hc1 hf1 hz1 hb0
  go_wp2
  clear a1
  go_loopw [3, 13] (fun v i wr => ∃ (k L g cp : Nat) (B N : Nat → Nat) (M : Nat → Option Nat), k ≤ n ∧ i = .int .i64 k ∧ v = .slice (some ⟨g, 0, none⟩) L cp ∧ 1 ≤ L ∧ (L = k ∨ (k = 0 ∧ L = 1)) ∧ wr.ownsRow w.heap.size 123 1 (.slice (some ⟨g, 0, none⟩) L cp) L (ptrs B L) ∧ NodesP wr f w.heap.size L B N M ∧ Below w.heap.size w wr) (fun _ i _ => n - (intOf i).toNat)
  case atStart =>
    have hr := row6 w1 0 (f 0) none
    have hrow : (w1.alloc (.cells #[.int .i64 0, .int .i64 (-1), .string ⟨#[]⟩, .int .i64 0, .pointer none, .map none] 144)).rowIs w1.heap.size 144 6 (nodeCell 0 (f 0) none none) := by rw [hrk] at hr ⊢; exact hr
    have hb := (((unhide HB1).alloc (unhide HB1).size (.cells #[.int .i64 0, .int .i64 (-1), .string ⟨#[]⟩, .int .i64 0, .pointer none, .map none] 144)).alloc (by simp; omega) (.cells #[.pointer (some ⟨w1.heap.size, 0, none⟩)] 123))
    have ho := World.ownsRow_lit (base := w.heap.size) (e := 123) (size := 1) (w1.alloc (.cells #[.int .i64 0, .int .i64 (-1), .string ⟨#[]⟩, .int .i64 0, .pointer none, .map none] 144)) #[.pointer (some ⟨w1.heap.size, 0, none⟩)] 1 (by simp; omega) (by unfold maxLen; omega) rfl
    refine ⟨0, 1, w1.heap.size + 1, 1, fun _ => w1.heap.size, fun _ => 0, fun _ => none, by omega, rfl, rfl, by omega, .inr ⟨rfl, rfl⟩, ?_, Nodes.root (by omega) (hrow.alloc _), hb⟩
    simpa [ptrs] using ho
  case round =>
    obtain ⟨k, L, g, cp, B, N, M, hk, rfl, rfl, hL1, hL, hown, hN, hb⟩ := hrel
    have c0 : k < n → wr.cell? ⟨b, k * 3, none⟩ = some (.int .i64 (f k).parent) := fun h => (((unhide HA).below hb hl).cells h).1
    have c1 : k < n → wr.cell? ⟨b, k * 3 + 1, none⟩ = some (.string (f k).key) := fun h => (((unhide HA).below hb hl).cells h).2.1
    have c2 : k < n → wr.cell? ⟨b, k * 3 + 2, none⟩ = some (.int .i64 (f k).count) := fun h => (((unhide HA).below hb hl).cells h).2.2
    have HB := hide hb
    have HO := hide hown
    have HN := hide hN
    clear hb hown hN
    go_wp2
    · have hkn : k < n := by assumption
      have hk0 : 0 < k := by assumption
      have hLk : L = k := by omega
      subst hLk
      have p0 := (unhide H3 L hk0 hkn).1
      have p1 := (unhide H3 L hk0 hkn).2.1
      obtain ⟨p, hp⟩ : ∃ p : Nat, (f L).parent = p := ⟨(f L).parent.toNat, by omega⟩
      have hpL : p < L := by omega
      rw [hp]
      obtain ⟨W, hW⟩ : ∃ W, W = wr.alloc (.cells #[.int .i64 p, .string (f L).key, .int .i64 (f L).count] 79) := ⟨_, rfl⟩
      rw [← hW]
      have x0 : W.cell? ⟨wr.heap.size, 0, none⟩ = some (.int .i64 p) := by rw [hW]; simp [go_sem]
      have x1 : W.cell? ⟨wr.heap.size, 1, none⟩ = some (.string (f L).key) := by rw [hW]; simp [go_sem]
      have x2 : W.cell? ⟨wr.heap.size, 2, none⟩ = some (.int .i64 (f L).count) := by rw [hW]; simp [go_sem]
      have hzW : W.heap.size = wr.heap.size + 1 := by rw [hW]; simp
      have hbW : Below w.heap.size w W := by rw [hW]; exact (unhide HB).alloc (unhide HB).size _
      have hownW : W.drew.ownsRow w.heap.size 123 1 (.slice (some ⟨g, 0, none⟩) L cp) L (ptrs B L) := by rw [hW]; exact ((unhide HO).alloc _).drew
      have xp : W.cell? ⟨g, p, none⟩ = some (.pointer (some ⟨B p, 0, none⟩)) := (hownW.cellAt p (by omega)).trans (ptrs_get hpL)
      have hNW : NodesP W.drew f w.heap.size L B N M := (unhide HN).keep (fun b hb => by
        show W.heap[b]? = _
        rw [hW]
        exact Deep.blk_alloc_lt _ _ _ (by
          rcases hb with ⟨c, hc⟩ | ⟨es, c, hc⟩
          · exact (Array.getElem?_eq_some_iff.1 hc).1
          · exact (Array.getElem?_eq_some_iff.1 hc).1))
      have hC := intern_any W.drew f w.heap.size L B N M hNW (by omega) (unhide H2) (fun i h1 h4 => unhide H3 i h1 (by omega))
      rw [show shPar f L = p by unfold shPar; rw [hp]; rfl, show ShV (f L) = .agg #[.int .i64 p, .string (f L).key, .int .i64 (f L).count] by unfold ShV; rw [hp]] at hC
      have HC := hide hC
      have HOW := hide hownW
      have HBW := hide hbW
      have HP := hide hp
      clear hC hownW hbW hNW hW HN HO HB c0 c1 c2 p0 p1 hp
      go_region_law (first
        | (go_simp; refine (unhide HC).mono ?_; rintro e w2 ⟨r, B', N', M', rfl, hN2, hBr, hBe, hG2⟩; have HN2 := hide hN2; have HBr := hide hBr; have HBe := hide hBe; have HG2 := hide hG2; have HO2 := hide ((own_grown (unhide HOW) hG2 (by decide)).alloc (.cells #[.pointer (some ⟨r, 0, none⟩)] 123)); have hws : w.heap.size ≤ w2.heap.size := Nat.le_trans (unhide HBW).size hG2.size; clear hN2 hBr hBe hG2)
        | (refine step_append_lies _ rfl (.tmp 20) (.tmp 29) 59 rfl w.heap.size 123 i0 (.pointer none) 1 8 Tryz.underlying59 hi hz0 hz1 hz2 rfl (by decide) (.slice (some ⟨g, 0, none⟩) L cp) L (ptrs B L) (by simp [Act.eval]) (unhide HO2) ⟨w2.heap.size, 0, none⟩ 1 1 [.pointer (some ⟨r, 0, none⟩)] (by simp [Act.eval]) rfl (World.news_of_block (Deep.blk_alloc_new _ _)) (by simp [Value.oneCell']) (by decide) (by unfold maxLen; omega) (by omega) (by simp; omega) _ rfl ?_; intro g3 cp3 w3 hown3 hgr3 hloc3 hlt3))
      all_goals
        have hfar := own_far (unhide HO2) (show 123 ≠ 144 by decide)
        have hbg : w.heap.size ≤ g := ((unhide HO2).lt g rfl).1
        have hN3 : NodesP w3 f w.heap.size (L + 1) B' N' M' := ((unhide HN2).keep (w' := w3) (fun b hb => by
          have hbl : b < w2.heap.size := by
            rcases hb with ⟨c, hc⟩ | ⟨es, c, hc⟩
            · exact (Array.getElem?_eq_some_iff.1 hc).1
            · exact (Array.getElem?_eq_some_iff.1 hc).1
          have hbe := Deep.blk_alloc_lt w2 (.cells #[.pointer (some ⟨r, 0, none⟩)] 123) b hbl
          rw [← hbe]
          refine hgr3.block b (by simp; omega) (fun e => hfar ?_)
          have e : b = g := Option.some.inj e
          rw [← e]
          rcases hb with ⟨c, hc⟩ | ⟨es, c, hc⟩
          · exact .inl ⟨c, hbe.trans hc⟩
          · exact .inr ⟨es, c, hbe.trans hc⟩))
        have hb2 : Below w.heap.size w w2 := (unhide HBW).trans (by
          have := (unhide HG2).below (unhide HBW).size
          exact ⟨this.os, this.tape, this.output, this.size, this.block⟩)
        have hb3 : Below w.heap.size w w3 := hb2.trans ⟨hgr3.os, hgr3.tape, hgr3.output, Nat.le_trans (by simp) hgr3.size, fun k hk => by
          rw [hgr3.block k (by simp; omega) (fun e => by have e : k = g := Option.some.inj e; omega)]
          exact Deep.blk_alloc_lt _ _ _ (by omega)⟩
        rw [ptrs_snoc (unhide HBe) (unhide HBr)] at hown3
        have HN3 := hide hN3
        have HB3 := hide hb3
        have HO3 := hide hown3
        clear hN3 hb2 hb3 hown3 hgr3 hfar HO2 HN2 HG2 HBe HBr HC HOW HBW x0 x1 x2 xp
        go_wp2
        go_roundw
        case rel => exact ⟨L + 1, L + 1, g3, cp3, B', N', M', by omega, by go_num, rfl, by omega, .inl rfl, unhide HO3, unhide HN3, unhide HB3⟩
        case measure => simp [intOf]; omega
    · have hk0 : k = 0 := by omega
      subst hk0
      have hL1' : L = 1 := by omega
      subst hL1'
      go_roundw
      case rel =>
        refine ⟨1, 1, g, cp, B, N, M, by omega, by go_num, rfl, by omega, .inl rfl, (unhide HO).alloc _, (unhide HN).keep (fun b hb => Deep.blk_alloc_lt _ _ _ ?_), (unhide HB).alloc (unhide HB).size _⟩
        rcases hb with ⟨c, hc⟩ | ⟨es, c, hc⟩
        · exact (Array.getElem?_eq_some_iff.1 hc).1
        · exact (Array.getElem?_eq_some_iff.1 hc).1
      case measure => simp [intOf]; omega
    · have hLn : L = n := by omega
      subst hLn
      go_ret
      exact ⟨⟨g, cp, B, N, M, rfl, unhide HN, ((unhide HO).lt g rfl).2, fun i hi => ((unhide HO).cellAt i (by omega)).trans (ptrs_get hi)⟩, unhide HB⟩
end Go.Proofs.YtfceeijdmilieaaGreat
namespace Go.Proofs.YtfceeijdmilieaaGreat
open Go.RowKit
open Go.Maps (Keyed)
set_option linter.unusedVariables false

/-- The place of a key among the fields of shape i, as the program looks for it. -/
def Plc (f : Nat → Shp) (i : Nat) (key : ByteArray) (r : Int) : Prop :=
  (∃ t, (∀ s, s ≤ t → 0 < anc f i s) ∧ (f (anc f i t)).key.toList = key.toList ∧ (∀ s, s < t → (f (anc f i s)).key.toList ≠ key.toList) ∧ r = (f (anc f i t)).count - 1) ∨
  (r = -1 ∧ ∀ t, (∀ s, s ≤ t → 0 < anc f i s) → (f (anc f i t)).key.toList ≠ key.toList)

theorem Plc.unique {f : Nat → Shp} {i : Nat} {key : ByteArray} {r r' : Int} (h : Plc f i key r) (h' : Plc f i key r') : r = r' := by
  rcases h with ⟨t, a1, a2, a3, a4⟩ | ⟨a1, a2⟩
  · rcases h' with ⟨u, b1, b2, b3, b4⟩ | ⟨b1, b2⟩
    · have : t = u := by
        rcases Nat.lt_trichotomy t u with e | e | e
        · exact absurd a2 (b3 t e)
        · exact e
        · exact absurd b2 (a3 u e)
      subst this
      rw [a4, b4]
    · exact absurd a2 (b2 t a1)
  · rcases h' with ⟨u, b1, b2, b3, b4⟩ | ⟨b1, b2⟩
    · exact absurd b2 (a2 u b1)
    · rw [a1, b1]

open Classical in
noncomputable def plcI (f : Nat → Shp) (i : Nat) (key : ByteArray) : Int := if h : ∃ r, Plc f i key r then h.choose else 0

theorem Plc.eq {f : Nat → Shp} {i : Nat} {key : ByteArray} {r : Int} (h : Plc f i key r) : plcI f i key = r := by
  have h1 : ∃ r, Plc f i key r := ⟨r, h⟩
  unfold plcI
  rw [dif_pos h1]
  exact h1.choose_spec.unique h

def numAt (v : Value) (w : World) : Nat :=
  match v with
  | .pointer (some a) => (match w.cell? a with | some (.int _ n) => n.toNat | _ => 0)
  | _ => 0

theorem numAt_eq {w : World} {a : Addr} {n : Nat} (h : w.cell? a = some (.int .i64 n)) : numAt (.pointer (some a)) w = n := by
  unfold numAt
  simp [h]

theorem node_cells {w : World} {f : Nat → Shp} {b0 n : Nat} {B N : Nat → Nat} {M : Nat → Option Nat} (h : NodesP w f b0 n B N M) (hid : ∀ i, i < n → N i = i) {j : Nat} (hj : j < n) :
    w.cell? ⟨B j, 0, none⟩ = some (.int .i64 j) ∧ w.cell? ⟨B j, 2, none⟩ = some (.string (f j).key) ∧ w.cell? ⟨B j, 3, none⟩ = some (.int .i64 (f j).count) ∧ w.cell? ⟨B j, 4, none⟩ = some (.pointer (parOf f B j)) ∧ w.cell? ⟨B j, 5, none⟩ = some (.map (M j)) := by
  have hr := h.node j hj (hid j hj)
  exact ⟨hr.cell (i := 0) (by omega), hr.cell (i := 2) (by omega), hr.cell (i := 3) (by omega), hr.cell (i := 4) (by omega), hr.cell (i := 5) (by omega)⟩

set_option maxRecDepth 100000 in
set_option maxHeartbeats 1000000 in
theorem placeOf_any (w : World) (f : Nat → Shp) (b0 n : Nat) (B N : Nat → Nat) (M : Nat → Option Nat) (h : NodesP w f b0 n B N M) (hid : ∀ i, i < n → N i = i) (h2 : Rule2 f) (h3 : Rule3 n f) (i : Nat) (hi : i < n) (key : ByteArray) :
    Calls Tryz.prog 60 #[.pointer (some ⟨B i, 0, none⟩), .string key] w fun e w' => (e = .returned (.int .i64 (plcI f i key)) ∧ Plc f i key (plcI f i key)) ∧ w' = w := by
  have HC : Hid (∀ j, j < n → w.cell? ⟨B j, 0, none⟩ = some (.int .i64 j) ∧ w.cell? ⟨B j, 2, none⟩ = some (.string (f j).key) ∧ w.cell? ⟨B j, 3, none⟩ = some (.int .i64 (f j).count) ∧ w.cell? ⟨B j, 4, none⟩ = some (.pointer (parOf f B j)) ∧ w.cell? ⟨B j, 5, none⟩ = some (.map (M j))) := hide (fun j hj => node_cells h hid hj)
  have H2 := hide h2
  have H3 := hide h3
  clear h h2 h3
  go_enter Tryz.func60, Tryz.ntmps60
  go_wp2
  go_loopw [5] (fun v wr => ∃ (t j : Nat), v = .pointer (some ⟨B j, 0, none⟩) ∧ j = anc f i t ∧ j < n ∧ wr = w ∧ ∀ s, s < t → 0 < anc f i s ∧ (f (anc f i s)).key.toList ≠ key.toList) (fun v wr => numAt v wr)
  case atStart => exact ⟨0, i, rfl, rfl, hi, rfl, fun s hs => by omega⟩
  case round =>
    obtain ⟨t, j, rfl, hj, hjn, rfl, hall⟩ := hrel
    obtain ⟨c0, c2, c3, c4, _⟩ := unhide HC j hjn
    have HJ := hide hj
    have HALL := hide hall
    clear hj hall
    by_cases hj0 : j = 0
    · subst hj0
      rw [show parOf f B 0 = none by unfold parOf; rw [if_pos rfl]] at c4
      go_wp2
      go_ret
      have hP : Plc f i key (-1) := by
       refine .inr ⟨rfl, fun u hu e => ?_⟩
       by_cases hut : u < t
       · exact (unhide HALL u hut).2 e
       · have := hu t (by omega)
         rw [← unhide HJ] at this
         omega
      rw [hP.eq]
      exact ⟨⟨rfl, hP⟩, rfl⟩
    · rw [show parOf f B j = some ⟨B (shPar f j), 0, none⟩ by unfold parOf; rw [if_neg hj0]] at c4
      have hj1 : 0 < j := by omega
      obtain ⟨cp1, cp2⟩ := count_pos (unhide H2) (unhide H3) hjn hj1
      have q0 := (unhide H3 j hj1 hjn).1
      have q1 := (unhide H3 j hj1 hjn).2.1
      have hst : ∀ s, s ≤ t → 0 < anc f i s := fun s hs => by
        by_cases e : s = t
        · rw [e, ← unhide HJ]; exact hj1
        · exact (unhide HALL s (by omega)).1
      have hnx : anc f i (t + 1) = shPar f j := by show (f (anc f i t)).parent.toNat = _; rw [← unhide HJ]
      have hm : numAt (.pointer (some ⟨B (shPar f j), 0, none⟩)) wr = shPar f j := numAt_eq (unhide HC (shPar f j) (by unfold shPar; omega)).1
      have hm' : numAt (.pointer (some ⟨B j, 0, none⟩)) wr = j := numAt_eq c0
      have hsp : shPar f j < j := by unfold shPar; omega
      have HST := hide hst
      have HNX := hide hnx
      have HM := hide (And.intro hm hm')
      have HQ := hide (And.intro cp1 cp2)
      clear hst hnx hm hm' q0 q1 cp1 cp2
      by_cases hK : (f j).key.toList = key.toList
      · have hd : ((f j).key.toList == key.toList) = true := by simp [hK]
        have HK := hide hK
        have cp1 := (unhide HQ).1
        have cp2 := (unhide HQ).2
        clear hK
        go_wp2
        go_ret
        have hP : Plc f i key ((f j).count - 1) := .inl ⟨t, unhide HST, by rw [← unhide HJ]; exact unhide HK, fun s hs => (unhide HALL s hs).2, by rw [← unhide HJ]⟩
        rw [hP.eq]
        exact ⟨⟨rfl, hP⟩, rfl⟩
      · have hd : ((f j).key.toList == key.toList) = false := by simp [hK]
        have HK := hide hK
        clear hK
        go_wp2
        go_roundw
        case rel =>
          refine ⟨t + 1, shPar f j, rfl, (unhide HNX).symm, by omega, trivial, fun s hs => ?_⟩
          by_cases e : s = t
          · rw [e]; exact ⟨unhide HST t (Nat.le_refl _), by rw [← unhide HJ]; exact unhide HK⟩
          · exact unhide HALL s (by omega)
        case measure => rw [(unhide HM).1, (unhide HM).2]; exact hsp

set_option maxRecDepth 100000 in
set_option maxHeartbeats 1000000 in
theorem hasTwins_any (w : World) (f : Nat → Shp) (b0 n g cp : Nat) (B N : Nat → Nat) (M : Nat → Option Nat) (h : NodesP w f b0 n B N M) (hp : ∀ i, i < n → w.cell? ⟨g, i, none⟩ = some (.pointer (some ⟨B i, 0, none⟩))) (hn : n ≤ 200) :
    Calls Tryz.prog 56 #[.slice (some ⟨g, 0, none⟩) n cp] w fun e w' => (∃ r : Bool, e = .returned (.bool r) ∧ (r = false ↔ ∀ i, i < n → N i = i)) ∧ w' = w := by
  have HC : Hid (∀ i, i < n → w.cell? ⟨B i, 0, none⟩ = some (.int .i64 (N i))) := hide (fun i hi => by
    rw [← h.blk i hi]
    exact (h.node (N i) (Nat.lt_of_le_of_lt (h.le i hi) hi) (h.own i hi)).cell (i := 0) (by omega))
  have HP := hide hp
  clear h hp
  go_enter Tryz.func56, Tryz.ntmps56
  go_wp2
  go_loopw [7] (fun i wr => ∃ k : Nat, k ≤ n ∧ i = .int .i64 k ∧ wr = w ∧ ∀ j, j < k → N j = j) (fun i _ => n - (intOf i).toNat)
  case atStart => exact ⟨0, by omega, rfl, rfl, fun j hj => by omega⟩
  case round =>
    obtain ⟨k, hk, rfl, hw, hall⟩ := hrel
    subst hw
    have c0 : k < n → wr.cell? ⟨g, k, none⟩ = some (.pointer (some ⟨B k, 0, none⟩)) := fun h => unhide HP k h
    have c1 : k < n → wr.cell? ⟨B k, 0, none⟩ = some (.int .i64 (N k)) := fun h => unhide HC k h
    have HALL := hide hall
    clear hall
    go_wp2
    · have hkn : k < n := by assumption
      have hne : N k ≠ k := by
        intro e
        have h' : ((N k : Int) != (k : Int)) = true := by assumption
        rw [e] at h'
        simp at h'
      go_ret
      exact ⟨⟨true, rfl, ⟨fun h => (by cases h), fun h => absurd (h k hkn) hne⟩⟩, rfl⟩
    · have he : N k = k := by
        have h' : ((N k : Int) != (k : Int)) = false := by assumption
        simp at h'
        omega
      go_roundw
      case rel =>
        refine ⟨k + 1, by omega, by go_num, trivial, fun j hj => ?_⟩
        by_cases e : j = k
        · rw [e]; exact he
        · exact unhide HALL j (by omega)
      case measure => simp [intOf]; omega
    · go_ret
      exact ⟨⟨false, rfl, ⟨fun _ i hi => unhide HALL i (by omega), fun _ => rfl⟩⟩, rfl⟩

/-- Some shape's own key is a field of its parent already. -/
def Repeats (n : Nat) (f : Nat → Shp) : Prop := ∃ i, 0 < i ∧ i < n ∧ 0 ≤ plcI f (shPar f i) (f i).key

set_option maxRecDepth 100000 in
set_option maxHeartbeats 1000000 in
theorem repeatsField_any (w : World) (f : Nat → Shp) (b0 n g cp : Nat) (B N : Nat → Nat) (M : Nat → Option Nat) (h : NodesP w f b0 n B N M) (hid : ∀ i, i < n → N i = i) (h2 : Rule2 f) (h3 : Rule3 n f) (hp : ∀ i, i < n → w.cell? ⟨g, i, none⟩ = some (.pointer (some ⟨B i, 0, none⟩))) (hn : n ≤ 200) :
    Calls Tryz.prog 57 #[.slice (some ⟨g, 0, none⟩) n cp] w fun e w' => (∃ r : Bool, e = .returned (.bool r) ∧ (r = true ↔ Repeats n f)) ∧ Below w.heap.size w w' := by
  have HH := hide h
  have HI := hide hid
  have H2 := hide h2
  have H3 := hide h3
  have HP := hide hp
  clear h hp hid h2 h3
  go_enter Tryz.func57, Tryz.ntmps57
  go_wp2
  go_loopw [7] (fun i wr => ∃ (k q : Nat), k ≤ n ∧ i = .int .i64 k ∧ wr = w.drewN q ∧ ∀ j, 0 < j → j < k → plcI f (shPar f j) (f j).key < 0) (fun i _ => n - (intOf i).toNat)
  case atStart => exact ⟨0, 0, by omega, rfl, rfl, fun j h0 hj => by omega⟩
  case round =>
    obtain ⟨k, q, hk, rfl, hw, hall⟩ := hrel
    have hNq : NodesP wr f b0 n B N M := (unhide HH).keep (fun b _ => by rw [hw]; rfl)
    have c0 : k < n → wr.cell? ⟨g, k, none⟩ = some (.pointer (some ⟨B k, 0, none⟩)) := fun h => by rw [hw]; exact unhide HP k h
    have HW := hide hw
    have HNQ := hide hNq
    have HALL := hide hall
    clear hall hw hNq
    go_wp2
    · have hkn : k < n := by assumption
      obtain ⟨_, c2, _, c4, _⟩ := node_cells (unhide HNQ) (unhide HI) hkn
      clear c0
      by_cases hk0 : k = 0
      · subst hk0
        rw [show parOf f B 0 = none by unfold parOf; rw [if_pos rfl]] at c4
        go_quiet (fail)
        go_wp2
        go_roundw
        case rel => exact ⟨1, q + nq, by omega, rfl, by rw [unhide HW, World.drewN_drewN], fun j h0 h1 => by omega⟩
        case measure => simp [intOf]; omega
      · rw [show parOf f B k = some ⟨B (shPar f k), 0, none⟩ by unfold parOf; rw [if_neg hk0]] at c4
        have hk1 : 0 < k := by omega
        have hs : shPar f k < n := by have := (unhide H3 k hk1 hkn).2.1; unfold shPar; omega
        have HQ : Hid (∀ q, Calls Tryz.prog 60 #[.pointer (some ⟨B (shPar f k), 0, none⟩), .string (f k).key] (wr.drewN q) fun e w' => e = .returned (.int .i64 (plcI f (shPar f k) (f k).key)) ∧ w' = wr.drewN q) :=
          hide (fun q => (placeOf_any (wr.drewN q) f b0 n B N M ((unhide HNQ).keep (fun b _ => rfl)) (unhide HI) (unhide H2) (unhide H3) (shPar f k) hs (f k).key).mono (fun e w' h => ⟨h.1.1, h.2⟩))
        go_quiet (first | (go_at_call 60; exact Calls.quiet_of_same (unhide HQ _)))
        by_cases hr : 0 ≤ plcI f (shPar f k) (f k).key
        · go_wp2
          go_ret
          exact ⟨⟨true, rfl, ⟨fun _ => ⟨k, hk1, hkn, hr⟩, fun _ => rfl⟩⟩, by rw [unhide HW]; exact below_drewN (below_drewN (Below.refl _ _) _) _⟩
        · go_wp2
          go_roundw
          case rel =>
            refine ⟨k + 1, q + nq, by omega, by go_num, by rw [unhide HW, World.drewN_drewN], fun j h0 h1 => ?_⟩
            by_cases e : j = k
            · rw [e]; omega
            · exact unhide HALL j h0 (by omega)
          case measure => simp [intOf]; omega
    · go_ret
      refine ⟨⟨false, rfl, ⟨fun h => (by cases h), ?_⟩⟩, ?_⟩
      · rintro ⟨i, h0, h1, h2⟩
        have := unhide HALL i h0 (by omega)
        omega
      · rw [unhide HW]; exact below_drewN (Below.refl _ _) _
end Go.Proofs.YtfceeijdmilieaaGreat
namespace Go.Proofs.YtfceeijdmilieaaGreat
open Go.RowKit
open Go.Maps (Keyed)
set_option linter.unusedVariables false

/-- The answer is a bool: whether p. -/
def Tells (e : Ending) (p : Prop) : Prop := ∃ r : Bool, e = .returned (.bool r) ∧ (r = true ↔ p)
theorem Tells.no {p : Prop} (h : ¬ p) : Tells (.returned (.bool false)) p := ⟨false, rfl, ⟨fun e => (by cases e), fun e => absurd e h⟩⟩
theorem Tells.yes {p : Prop} (h : p) : Tells (.returned (.bool true)) p := ⟨true, rfl, ⟨fun _ => h, fun _ => rfl⟩⟩

set_option maxRecDepth 100000 in
set_option maxHeartbeats 2000000 in
theorem shapesFit_any (b n cap : Nat) (f : Nat → Shp) (w : World) (hA : ShRow w b n f) (hn : n ≤ 200) (h2 : Rule2 f) :
    Calls Tryz.prog 54 #[.agg #[.slice (some ⟨b, 0, none⟩) n cap]] w fun e w' => Tells e (Rule3 n f) ∧ Below w.heap.size w w' := by
  have hl := hA.lt
  have HA := hide hA
  have H2 := hide h2
  clear hA h2
  go_enter Tryz.func54, Tryz.ntmps54
  go_wp2
  go_loopw [8] (fun i wr => ∃ k : Nat, k ≤ n ∧ i = .int .i64 k ∧ Below w.heap.size w wr ∧ wr.cell? ⟨w.heap.size, 0, none⟩ = some (.slice (some ⟨b, 0, none⟩) n cap) ∧ w.heap.size < wr.heap.size ∧ ∀ j, 1 ≤ j → j < k → Ok3 f j) (fun i _ => n - (intOf i).toNat)
  case atStart => exact ⟨0, by omega, rfl, (Below.refl _ _).alloc (Nat.le_refl _) _, by simp [go_sem], by simp, fun j h1 h2 => by omega⟩
  case round =>
    obtain ⟨k, hk, rfl, hb, hbox, hsz, hall⟩ := hrel
    have c0 : k < n → wr.cell? ⟨b, k * 3, none⟩ = some (.int .i64 (f k).parent) := fun h => (((unhide HA).below hb hl).cells h).1
    have c1 : k < n → wr.cell? ⟨b, k * 3 + 1, none⟩ = some (.string (f k).key) := fun h => (((unhide HA).below hb hl).cells h).2.1
    have c2 : k < n → wr.cell? ⟨b, k * 3 + 2, none⟩ = some (.int .i64 (f k).count) := fun h => (((unhide HA).below hb hl).cells h).2.2
    have HB := hide hb
    have HALL := hide hall
    clear hb hall
    by_cases hkn : k < n
    case neg =>
      go_wp2
      go_ret
      exact ⟨.yes (fun i h1 h2 => unhide HALL i h1 (by omega)), unhide HB⟩
    by_cases hk0 : k = 0
    · subst hk0
      go_wp2
      go_roundw
      case rel => exact ⟨1, by omega, by go_num, (unhide HB).alloc (by omega) _, by simp [go_sem, hbox, hsz], by simp; omega, fun j h1 h2 => by omega⟩
      case measure => simp [intOf]; omega
    have hk1 : ((k : Int) == 0) = false := by simp; omega
    by_cases hA : (f k).parent < 0
    · have hd : decide ((f k).parent < 0) = true := by simp [hA]
      have HN : Hid (¬ Rule3 n f) := hide (fun h => by have := (h k (by omega) hkn).1; omega)
      go_wp2
      go_ret
      exact ⟨.no (unhide HN), (unhide HB).alloc (by omega) _⟩
    have hd : decide ((f k).parent < 0) = false := by simp [hA]
    by_cases hB : (k : Int) ≤ (f k).parent
    · have hd2 : decide ((k : Int) ≤ (f k).parent) = true := by simp [hB]
      have HN : Hid (¬ Rule3 n f) := hide (fun h => by have := (h k (by omega) hkn).2.1; omega)
      go_wp2
      go_ret
      exact ⟨.no (unhide HN), (unhide HB).alloc (by omega) _⟩
    have hd2 : decide ((k : Int) ≤ (f k).parent) = false := by simp; omega
    by_cases hE : (4000 : Int) < (f k).key.size
    · have hdE : decide ((4000 : Int) < (f k).key.size) = true := by simp [hE]
      have HN : Hid (¬ Rule3 n f) := hide (fun h => by have := (h k (by omega) hkn).2.2.2.2; omega)
      go_wp2
      go_ret
      exact ⟨.no (unhide HN), (unhide HB).alloc (by omega) _⟩
    have hdE : decide ((4000 : Int) < (f k).key.size) = false := by simp; omega
    obtain ⟨p, hp⟩ : ∃ p : Nat, (f k).parent = p := ⟨(f k).parent.toNat, by omega⟩
    have hpk : p < k := by omega
    have hpn : p < n := by omega
    obtain ⟨hp0, hp1⟩ := count_bound (unhide H2) (unhide HALL) p hpk
    have e2 : wr.cell? ⟨b, p * 3 + 2, none⟩ = some (.int .i64 (f p).count) := (((unhide HA).below (unhide HB) hl).cells hpn).2.2
    rw [hp] at hA hB hd hd2 c0
    have HP := hide hp
    have hbw : b < wr.heap.size := Nat.lt_of_lt_of_le hl (unhide HB).size
    have d0 := c0 hkn
    have d1 := c1 hkn
    have d2 := c2 hkn
    clear hp c0 c1 c2
    have hw : IntKind.i64.wrap ((f p).count + 1) = (f p).count + 1 := by rw [IntKind.wrap_i64]; omega
    by_cases hD : 12 < (f k).count
    · have HN : Hid (¬ Rule3 n f) := hide (fun h => by have := (h k (by omega) hkn).2.2.2.1; omega)
      have hdD : decide (12 < (f k).count) = true := by simp [hD]
      go_wp2
      go_quiet (fail)
      go_wp2
      go_ret
      exact ⟨.no (unhide HN), below_drewN ((unhide HB).alloc (by omega) _) _⟩
    have hdD : decide (12 < (f k).count) = false := by simp; omega
    by_cases hC : (f k).count = (f p).count + 1
    case neg =>
      have HN : Hid (¬ Rule3 n f) := hide (fun h => by have := (h k (by omega) hkn).2.2.1; rw [unhide HP] at this; exact hC this)
      go_wp2
      go_quiet (fail)
      go_wp2
      go_ret
      exact ⟨.no (unhide HN), below_drewN ((unhide HB).alloc (by omega) _) _⟩
    have hdC : ((f k).count != (f p).count + 1) = false := by simp [hC]
    have HO : Hid (Ok3 f k) := hide ⟨by rw [unhide HP]; omega, by rw [unhide HP]; omega, by rw [unhide HP]; exact hC, by omega, by omega⟩
    have HC := hide hC
    clear hC
    go_wp2
    go_quiet (fail)
    go_wp2
    go_roundw
    case rel =>
      refine ⟨k + 1, by omega, by go_num, below_drewN ((unhide HB).alloc (by omega) _) _, by simp [go_sem, hbox, hsz], by simp; omega, fun j h1 h2 => ?_⟩
      by_cases e : j = k
      · rw [e]; exact unhide HO
      · exact unhide HALL j h1 (by omega)
    case measure => simp [intOf]; omega
end Go.Proofs.YtfceeijdmilieaaGreat
