/-
  Shapes: a forest copied, by the model and by the program.
-/
import Derived.Test.YtgiegkigfokdmabFoH
namespace Go.Proofs.Ytgiegkigfokdmab
open Go.RowKit
set_option linter.unusedVariables false

/-- The cells of n shapes. -/
def shL (f : Nat → Shp) (n : Nat) : List Value := (List.range (n * 3)).map (cellOf f)

theorem shL_length (f : Nat → Shp) (n : Nat) : (shL f n).length = n * 3 := by simp [shL]
theorem shL_get {f : Nat → Shp} {n j : Nat} (h : j < n * 3) : (shL f n)[j]? = some (cellOf f j) := by simp [shL, h]
theorem shL_snoc (f : Nat → Shp) (n : Nat) (s : Shp) (hs : f n = s) : shL f n ++ [.int .i64 s.parent, .string s.key, .int .i64 s.count] = shL f (n + 1) := by
  subst hs
  unfold shL
  rw [show (n + 1) * 3 = n * 3 + 1 + 1 + 1 by omega, List.range_succ, List.range_succ, List.range_succ]
  simp only [List.map_append, List.map_cons, List.map_nil, List.append_assoc, List.cons_append, List.nil_append]
  rw [cellOf0, cellOf1, cellOf2]
theorem shL_congr {f g : Nat → Shp} {n : Nat} (h : ∀ i, i < n → f i = g i) : shL f n = shL g n := by
  unfold shL
  refine List.map_congr_left fun j hj => ?_
  have hj : j < n * 3 := List.mem_range.1 hj
  unfold cellOf
  rw [h (j / 3) (by omega)]
theorem shL_one (f : Nat → Shp) (n : Nat) : ∀ u ∈ shL f n, u.oneCell' = true := by
  intro u hu
  obtain ⟨j, _, rfl⟩ := List.mem_map.1 hu
  unfold cellOf
  split
  · rfl
  · split <;> rfl

/-- A slice of n shapes in memory of its own. -/
abbrev ShOwn (w : World) (base : Nat) (v : Value) (n : Nat) (f : Nat → Shp) : Prop := w.ownsRow base 56 3 v n (shL f n)

theorem grown_setCell (w : World) (a : Addr) (v : Value) : w.grownBy (w.setCell a v) (some a.block) := ⟨rfl, rfl, rfl, by simp, fun k _ hne => Deep.blk_setCell_other _ _ _ _ (fun e => hne (by rw [e]))⟩

theorem news3 (w : World) (o : Obj) (x y z : Value) : ∀ j u, [x, y, z][j]? = some u → ((w.alloc o).alloc (.cells #[x, y, z] 56)).cell? ((⟨w.heap.size + 1, 0, none⟩ : Addr).add j) = some u := fun j u h => by
  have hb := Deep.blk_alloc_new (w.alloc o) (.cells #[x, y, z] 56)
  rw [Deep.nblk_alloc] at hb
  exact World.news_of_block hb j u h

theorem after_append {wr w1 : World} {o1 o2 : Obj} {v u : Value} {N : Nat} (hlt : ∀ q, v.ownBlock = some q → N + 3 ≤ q ∧ q < wr.heap.size) (hgr : ((wr.alloc o1).alloc o2).grownBy w1 v.ownBlock) (hz : N + 2 < wr.heap.size)
    (x0 : wr.cell? ⟨N + 2, 0, none⟩ = some u) (f0 : wr.frozen? ⟨N + 2, 0, none⟩ = false) : w1.cell? ⟨N + 1 + 1, 0, none⟩ = some u ∧ w1.frozen? ⟨N + 1 + 1, 0, none⟩ = false ∧ Hid (wr.grownBy w1 v.ownBlock ∧ ∀ q, q < N + 3 → w1.heap[q]? = wr.heap[q]?) := by
  have gg : wr.grownBy w1 v.ownBlock := ((World.grownBy_alloc wr o1 _).trans (World.grownBy_alloc _ o2 _)).trans hgr
  have hq : ∀ q, q < N + 3 → w1.heap[q]? = wr.heap[q]? := fun q hq => gg.block q (by omega) (fun e => by have := (hlt q e.symm).1; omega)
  exact ⟨(World.cell?_of_block (hq _ (by show N + 1 + 1 < N + 3; omega))).trans x0, (World.frozen?_of_block (hq _ (by show N + 1 + 1 < N + 3; omega))).trans f0, hide ⟨gg, hq⟩⟩

theorem own_mono {w : World} {base base' e size : Nat} {v : Value} {n : Nat} {xs : List Value} (h : w.ownsRow base e size v n xs) (hb : base' ≤ base) : w.ownsRow base' e size v n xs := by
  obtain ⟨hl, h | ⟨g, cap, cur, h1, h2, h3⟩⟩ := h
  · exact ⟨hl, .inl h⟩
  · exact ⟨hl, .inr ⟨g, cap, cur, h1, Nat.le_trans hb h2, h3⟩⟩

theorem ShRow.news {w : World} {b n : Nat} {f : Nat → Shp} (h : ShRow w b n f) : ∀ j u, (shL f n)[j]? = some u → w.cell? ((⟨b, 0, none⟩ : Addr).add j) = some u := fun j u hu => by
  have hj : j < n * 3 := by
    have := (List.getElem?_eq_some_iff.1 hu).1
    rwa [shL_length] at this
  rw [shL_get hj] at hu
  have hadd : (⟨b, 0, none⟩ : Addr).add j = ⟨b, j, none⟩ := by unfold Addr.add; split <;> simp_all
  obtain ⟨N, g, hN, hr, hg⟩ := h
  rw [hadd, hr.cell (by omega), hg j hj]
  exact hu

set_option maxRecDepth 100000 in
set_option maxHeartbeats 1000000 in
theorem copyForest_any (b n cap : Nat) (f : Nat → Shp) (w : World) (hA : ShRow w b n f) (h0 : 0 < n) (hn : n ≤ 1048576) :
    Calls Try.prog 45 #[.agg #[.slice (some ⟨b, 0, none⟩) n cap]] w fun e w' => (∃ g cp, e = .returned (.agg #[.slice (some ⟨g, 0, none⟩) n cp]) ∧ w.heap.size ≤ g ∧ ShOwn w' w.heap.size (.slice (some ⟨g, 0, none⟩) n cp) n f) ∧ Below w.heap.size w w' := by
  have hl := hA.lt
  obtain ⟨i0, hi, hz0, hz1, hz2⟩ := info_parts infoShape
  have HA := hide hA
  clear hA
  have hb0 : Below w.heap.size w ((w.alloc (.cells #[.slice (some ⟨b, 0, none⟩) n cap] 29)).alloc (.cells #[.slice none 0 0] 29)) := ((Below.refl _ _).alloc (Nat.le_refl _) _).alloc (by simp) _
  have HB := hide hb0
  have HR := hide ((unhide HA).below hb0 hl)
  clear hb0
  go_enter Try.func45, Try.ntmps45
  go_wp2_with (first | (at_builtin; refine wpList_append_lies _ rfl _ _ 27 rfl w.heap.size 56 i0 (Sh 0 ⟨#[]⟩ 0) 3 32 Try.underlying27 hi hz0 hz1 hz2 rfl (by decide) (.slice none 0 0) 0 [] rfl (World.ownsRow_nil _ _ _ _) ⟨b, 0, none⟩ n cap (shL f n) rfl (shL_length f n) (ShRow.news (unhide HR)) (shL_one f n) h0 (by unfold maxLen; omega) (by omega) (by simp; omega) _ rfl ?_; intro g cp w1 hown hgr hloc hlt; have x1 : w1.cell? ⟨w.heap.size + 1, 0, none⟩ = some (.slice none 0 0) := hgr.cell (by simp [go_sem]) (by simp [Value.ownBlock]); have f1 : w1.frozen? ⟨w.heap.size + 1, 0, none⟩ = false := (World.frozen?_of_block (hgr.block _ (by simp) (by simp [Value.ownBlock]))).trans (by simp [go_sem]); have HO := hide hown; have HG := hide hgr; clear hown hgr) | go_in)
  have hg2 : g = w.heap.size + 2 := by
    rcases hloc with h | h
    · cases h
    · simpa using h
  have ho : ShOwn w1 w.heap.size (.slice (some ⟨g, 0, none⟩) n cp) n f := by simpa using unhide HO
  refine bodyPost_ret (v := .agg #[.slice (some ⟨g, 0, none⟩) n cp]) (by simp [results, Try.results45, go_sem, x1]) rfl ⟨⟨g, cp, rfl, by omega, ho.kept (grown_setCell w1 _ _) (.inr (by simp [Value.ownBlock]; omega))⟩, ?_⟩
  have hb1 : Below w.heap.size w w1 := (unhide HB).trans ⟨(unhide HG).os, (unhide HG).tape, (unhide HG).output, (unhide HG).size, fun k hk => (unhide HG).block k (by simp; omega) (by simp [Value.ownBlock])⟩
  exact hb1.setCell (by show _ ≤ w.heap.size + 1; omega) _

set_option maxRecDepth 100000 in
set_option maxHeartbeats 1000000 in
theorem l2copy_any (b n cap : Nat) (f : Nat → Shp) (w : World) (hA : ShRow w b n f) (hn : n ≤ 200) :
    Calls Try.prog 43 #[.agg #[.slice (some ⟨b, 0, none⟩) n cap]] w fun e w' => (∃ v, e = .returned (.agg #[v]) ∧ ShOwn w' w.heap.size v n f) ∧ Below w.heap.size w w' := by
  have hl := hA.lt
  obtain ⟨i0, hi, hz0, hz1, hz2⟩ := info_parts infoShape
  have HA := hide hA
  clear hA
  go_enter Try.func43, Try.ntmps43
  go_wp2
  go_loopw [9] (fun i wr => ∃ (k : Nat) (v : Value), k ≤ n ∧ i = .int .i64 k ∧ wr.cell? ⟨w.heap.size + 2, 0, none⟩ = some v ∧ wr.frozen? ⟨w.heap.size + 2, 0, none⟩ = false ∧ wr.cell? ⟨w.heap.size + 1, 0, none⟩ = some (.slice none 0 0) ∧ wr.frozen? ⟨w.heap.size + 1, 0, none⟩ = false ∧ w.heap.size + 2 < wr.heap.size ∧ ShOwn wr (w.heap.size + 3) v k f ∧ Below w.heap.size w wr) (fun i _ => n - (intOf i).toNat)
  case atStart =>
    refine ⟨0, .slice none 0 0, by omega, rfl, by simp [go_sem], by simp [go_sem], by simp [go_sem], by simp [go_sem], by simp, ?_, (((Below.refl _ _).alloc (Nat.le_refl _) _).alloc (by simp) _).alloc (by simp; omega) _⟩
    exact World.ownsRow_nil _ _ _ _
  case round =>
    obtain ⟨k, v, hk, rfl, x0, f0, x1, f1, hz, ho, hb⟩ := hrel
    have c0 : k < n → wr.cell? ⟨b, k * 3, none⟩ = some (.int .i64 (f k).parent) := fun h => (((unhide HA).below hb hl).cells h).1
    have c1 : k < n → wr.cell? ⟨b, k * 3 + 1, none⟩ = some (.string (f k).key) := fun h => (((unhide HA).below hb hl).cells h).2.1
    have c2 : k < n → wr.cell? ⟨b, k * 3 + 2, none⟩ = some (.int .i64 (f k).count) := fun h => (((unhide HA).below hb hl).cells h).2.2
    have HB := hide hb
    have HO := hide ho
    have hlt := ho.lt
    clear hb ho
    by_cases hkn : k < n
    case neg =>
      have hkn' : k = n := by omega
      subst hkn'
      have x1' : wr.cell? ⟨w.heap.size + 1, 0, none⟩ = some (.slice none 0 0) := x1
      rcases (unhide HO).2 with ⟨hv, hk0⟩ | ⟨g, cp, cur, hv, hbg, _⟩
      · subst hv
        go_wp2
        refine bodyPost_ret (v := .agg #[.slice none 0 0]) (by simp [results, Try.results43, go_sem, x1]) rfl ⟨⟨_, rfl, ?_⟩, (unhide HB).setCell (by show _ ≤ w.heap.size + 1; omega) _⟩
        subst hk0
        exact World.ownsRow_nil _ _ _ _
      · subst hv
        go_wp2
        refine bodyPost_ret (v := .agg #[.slice (some ⟨g, 0, none⟩) k cp]) (by simp [results, Try.results43, go_sem, x1]) rfl ⟨⟨_, rfl, ?_⟩, (unhide HB).setCell (by show _ ≤ w.heap.size + 1; omega) _⟩
        have hk : ShOwn (wr.setCell ⟨w.heap.size + 1, 0, none⟩ (.slice (some ⟨g, 0, none⟩) k cp)) (w.heap.size + 3) (.slice (some ⟨g, 0, none⟩) k cp) k f := (unhide HO).kept (grown_setCell wr _ _) (.inr (by simp [Value.ownBlock]; omega))
        exact own_mono hk (by omega)
    have d0 := c0 hkn
    have d1 := c1 hkn
    have d2 := c2 hkn
    clear c0 c1 c2
    go_wp2_with (first | (at_builtin; refine wpList_append_lies _ rfl _ _ 27 rfl (w.heap.size + 3) 56 i0 (Sh 0 ⟨#[]⟩ 0) 3 32 Try.underlying27 hi hz0 hz1 hz2 rfl (by decide) v k (shL f k) rfl (((unhide HO).alloc _).alloc _) ⟨wr.heap.size + 1, 0, none⟩ 1 1 [.int .i64 (f k).parent, .string (f k).key, .int .i64 (f k).count] rfl rfl (news3 wr _ _ _ _) (by simp [Value.oneCell']) (by decide) (by unfold maxLen; omega) (by omega) (by simp; omega) _ rfl ?_; intro g cp w1 hown hgr hloc hlt1; obtain ⟨y0, e0, HG⟩ := after_append hlt hgr hz x0 f0; have HO1 := hide hown; clear hown hgr) | go_in)
    obtain ⟨gg, hq⟩ := unhide HG
    have hown := unhide HO1
    rw [shL_snoc f k (f k) rfl] at hown
    have hg3 := (hown.lt g rfl).1
    have hbw1 : Below w.heap.size w w1 := (unhide HB).trans ⟨gg.os, gg.tape, gg.output, gg.size, fun q hq' => hq q (by omega)⟩
    have hz1 : w.heap.size + 2 < w1.heap.size := Nat.lt_of_lt_of_le hz gg.size
    go_roundw
    case rel =>
      refine ⟨k + 1, .slice (some ⟨g, 0, none⟩) (k + 1) cp, by omega, by go_num, ?_, ?_, ?_, ?_, by simpa using hz1, hown.kept (grown_setCell w1 _ _) (.inr (by simp [Value.ownBlock]; omega)), hbw1.setCell (by show _ ≤ w.heap.size + 1 + 1; omega) _⟩
      · show (w1.setCell ⟨w.heap.size + 1 + 1, 0, none⟩ _).cell? ⟨w.heap.size + 1 + 1, 0, none⟩ = _
        simp [go_sem, y0]
      · rw [World.frozen?_setCell]; exact e0
      · exact (World.cell?_of_block ((Deep.blk_setCell_other _ _ _ _ (by show w.heap.size + 1 ≠ w.heap.size + 1 + 1; omega)).trans (hq _ (by show w.heap.size + 1 < w.heap.size + 3; omega)))).trans x1
      · rw [World.frozen?_setCell]
        exact (World.frozen?_of_block (hq _ (by show w.heap.size + 1 < w.heap.size + 3; omega))).trans f1
    case measure => simp [intOf]; omega
end Go.Proofs.Ytgiegkigfokdmab
