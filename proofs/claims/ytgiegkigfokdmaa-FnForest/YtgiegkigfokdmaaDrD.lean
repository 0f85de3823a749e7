/-
  Drawing: a forest spoiled.
-/
import Derived.Test.YtgiegkigfokdmaaDrB
import Derived.Deep.RegionHeld3
namespace Go.Proofs.Ytgiegkigfokdmaa
open Go.RowKit
set_option linter.unusedVariables false

/-- A forest in its box: nil, or some shapes. -/
structure Sb (w0 w : World) (ob : Nat) : Prop where
  box : ∃ v, w.cell? ⟨ob, 0, none⟩ = some v ∧ (v = .slice none 0 0 ∨ ∃ g cp n f, v = .slice (some ⟨g, 0, none⟩) n cp ∧ 1 ≤ n ∧ n ≤ 201 ∧ ShOwn w (w0.heap.size + 1) v n f)
  res : w.cell? ⟨w0.heap.size, 0, none⟩ = some (.slice none 0 0)
  rfz : w.frozen? ⟨w0.heap.size, 0, none⟩ = false

theorem Fb.sb {w0 w : World} {ob g cp n : Nat} {f : Nat → Shp} (h : Fb w0 w ob g cp n f) (h1 : 1 ≤ n) (h2 : n ≤ 201) : Sb w0 w ob := ⟨⟨_, h.box, .inr ⟨g, cp, n, f, rfl, h1, h2, h.own⟩⟩, h.res, h.rfz⟩

theorem cellOf_mod (f : Nat → Shp) (q : Nat) : cellOf f q = cellOf (fun _ => f (q / 3)) (q % 3) := by
  unfold cellOf
  have h : q % 3 % 3 = q % 3 := Nat.mod_mod _ _
  rw [h]

theorem shL_set (f : Nat → Shp) (n i o : Nat) (s : Shp) (hi : i < n) (ho : o < 3) (hs : ∀ q, q < 3 → q ≠ o → cellOf (fun _ => s) q = cellOf (fun _ => f i) q) :
    (shL f n).set (i * 3 + o) (cellOf (fun _ => s) o) = shL (fun j => if j = i then s else f j) n := by
  apply List.ext_getElem?
  intro q
  rw [List.getElem?_set]
  by_cases hq : q < n * 3
  · by_cases e : i * 3 + o = q
    · rw [if_pos e, if_pos (by rw [shL_length]; omega), shL_get hq, cellOf_mod _ q]
      have h1 : q / 3 = i := by omega
      have h2 : q % 3 = o := by omega
      rw [h1, h2, if_pos rfl]
    · rw [if_neg e, shL_get hq, shL_get hq, cellOf_mod f q, cellOf_mod _ q]
      by_cases h1 : q / 3 = i
      · rw [if_pos h1, h1, hs (q % 3) (by omega) (by omega)]
      · rw [if_neg h1]
  · rw [if_neg (by omega), List.getElem?_eq_none (by rw [shL_length]; omega), List.getElem?_eq_none (by rw [shL_length]; omega)]

/-- A shape's cell is written. -/
theorem Fb.set {w0 w : World} {ob g cp n : Nat} {f : Nat → Shp} (h : Fb w0 w ob g cp n f) (i : Nat) (hi : i < n) (s : Shp) (o : Nat) (ho : o < 3) (hs : ∀ q, q < 3 → q ≠ o → cellOf (fun _ => s) q = cellOf (fun _ => f i) q) :
    Fb w0 (w.setCell ⟨g, i * 3 + o, none⟩ (cellOf (fun _ => s) o)) ob g cp n (fun j => if j = i then s else f j) := by
  have hg := (h.own.lt g rfl)
  have hs0 := h.siz
  have hob := h.obg
  have hown : ShOwn (w.setCell ⟨g, i * 3 + o, none⟩ (cellOf (fun _ => s) o)) (w0.heap.size + 1) (.slice (some ⟨g, 0, none⟩) n cp) n (fun j => if j = i then s else f j) := by
    have h1 := (h.own.stored (i * 3 + o) (cellOf (fun _ => s) o)).1
    rw [shL_set f n i o s hi ho hs] at h1
    exact h1
  refine ⟨?_, ?_, ?_, ?_, hown, h.obg, by simpa using h.obl, h.obb, by simpa using hs0⟩
  · exact (World.cell?_of_block (Deep.blk_setCell_other _ _ _ _ (by exact hob))).trans h.box
  · rw [World.frozen?_setCell]; exact h.bfz
  · exact (World.cell?_of_block (Deep.blk_setCell_other _ _ _ _ (by show w0.heap.size ≠ g; omega))).trans h.res
  · rw [World.frozen?_setCell]; exact h.rfz

theorem Fb.drew {w0 w : World} {ob g cp n : Nat} {f : Nat → Shp} (h : Fb w0 w ob g cp n f) : Fb w0 w.drew ob g cp n f := h.below (Below.refl _ _).drew
theorem Cu.drew {b N : Nat} {w : World} (h : Cu b N w) : Cu b N w.drew := h.below (B := w.heap.size) (Below.refl _ _).drew h.lt
theorem Gr.drew {b : Nat} {u w : World} (h : Gr b u w) : Gr b u w.drew := ⟨h.os, h.tape, h.output, h.size, h.block⟩

/-- What is known behind the spoiling. -/
def Spoilt (w0 : World) (b ob N : Nat) (w w' : World) : Prop := Sb w0 w' ob ∧ Cu b (N + 20) w' ∧ (w'.os = w.os ∧ w'.tape = w.tape ∧ w'.output = w.output ∧ w.heap.size ≤ w'.heap.size ∧ ∀ k, k < w0.heap.size → k ≠ b → w'.heap[k]? = w.heap[k]?)

theorem spoilt_of {w0 w w' : World} {b ob N M g cp n : Nat} {f : Nat → Shp} (hF : Fb w0 w' ob g cp n f) (h1 : 1 ≤ n) (h2 : n ≤ 201) (hC : Cu b M w') (hM : M ≤ N + 20) (hw : Fb w0 w' ob g cp n f → w'.os = w.os ∧ w'.tape = w.tape ∧ w'.output = w.output ∧ w.heap.size ≤ w'.heap.size ∧ ∀ k, k < w0.heap.size → k ≠ b → w'.heap[k]? = w.heap[k]?) : Spoilt w0 b ob N w w' :=
  ⟨hF.sb h1 h2, hC.mono hM, hw hF⟩

theorem frame_set {w0 w w3 : World} {b : Nat} {a : Addr} {v : Value} (hG : Gr b w w3) (hw : w0.heap.size ≤ w.heap.size) (ha : w0.heap.size ≤ a.block) : (w3.setCell a v).os = w.os ∧ (w3.setCell a v).tape = w.tape ∧ (w3.setCell a v).output = w.output ∧ w.heap.size ≤ (w3.setCell a v).heap.size ∧ ∀ k, k < w0.heap.size → k ≠ b → (w3.setCell a v).heap[k]? = w.heap[k]? :=
  ⟨hG.os, hG.tape, hG.output, by simpa using hG.size, fun k hk hne => (Deep.blk_setCell_other _ _ _ _ (by omega)).trans (hG.block k hne (by omega))⟩

theorem frame_set2 {w0 w w3 w5 : World} {b : Nat} {a : Addr} {v : Value} (hG : Gr b w w3) (hB : Below (w0.heap.size + 1) w3 w5) (hw : w0.heap.size ≤ w.heap.size) (ha : w0.heap.size ≤ a.block) : (w5.setCell a v).os = w.os ∧ (w5.setCell a v).tape = w.tape ∧ (w5.setCell a v).output = w.output ∧ w.heap.size ≤ (w5.setCell a v).heap.size ∧ ∀ k, k < w0.heap.size → k ≠ b → (w5.setCell a v).heap[k]? = w.heap[k]? :=
  ⟨hB.os.trans hG.os, hB.tape.trans hG.tape, hB.output.trans hG.output, by have := hG.size; have := hB.size; simp; omega, fun k hk hne => ((Deep.blk_setCell_other _ _ _ _ (by omega)).trans (hB.block k (by omega))).trans (hG.block k hne (by omega))⟩

set_option maxRecDepth 100000 in
set_option maxHeartbeats 2000000 in
theorem spoil_any (b N ob g cp n : Nat) (f : Nat → Shp) (w0 w : World) (hF : Fb w0 w ob g cp n f) (h1 : 1 ≤ n) (h2 : n ≤ 200) (hcnt : ∀ i, i < n → 0 ≤ (f i).count ∧ (f i).count ≤ 12) (hC : Cu b N w) (hb : b < w0.heap.size) (hN : N ≤ 1099511000000) :
    Calls Try.prog 42 #[.pointer (some ⟨b, 0, none⟩), .pointer (some ⟨ob, 0, none⟩)] w fun e w' => (∃ v, e = .returned v) ∧ Spoilt w0 b ob N w w' := by
  have hobl := hF.obl
  have hobb := hF.obb
  have hsz := hF.siz
  have HF := hide hF
  have HC := hide hC
  clear hF hC
  go_enter Try.func42, Try.ntmps42
  go_wp2_with fail
  refine (pick_any b N 8 _ (unhide HC) (by omega) (by omega) (by omega)).mono ?_
  rintro e w1 ⟨⟨x, rfl, hx0, hx1⟩, hc1, hs1⟩
  have hF1 := (unhide HF).gr hs1.gr hb
  have bx := hF1.box
  have bf := hF1.bfz
  have HF1 := hide hF1
  have HC1 := hide hc1
  have HG1 := hide hs1.gr
  clear hF1 hc1 hs1 HF HC
  by_cases x0 : x = 0
  · subst x0
    go_wp2
    refine bodyPost_ret (v := .tuple #[]) (by simp [results, Try.results42, go_sem]) rfl ⟨⟨_, rfl⟩, ⟨⟨_, by simp [go_sem, bx], .inl rfl⟩, ?_, ?_⟩, ?_, frame_set (unhide HG1) (by omega) (by show w0.heap.size ≤ ob; omega)⟩
    · exact (World.cell?_of_block (Deep.blk_setCell_other _ _ _ _ (by show w0.heap.size ≠ ob; omega))).trans (unhide HF1).res
    · rw [World.frozen?_setCell]; exact (unhide HF1).rfz
    · exact ((unhide HC1).mono (by omega)).below ((Below.refl w0.heap.size w1).setCell (by show w0.heap.size ≤ ob; omega) _) hb
  have hx : (x == 0) = false := by simp [x0]
  have hn0 : ((n : Int) == 0) = false := by simp; omega
  go_wp2_with fail
  refine (pick_all b (N + 2) n _ (unhide HC1) (by omega) (by omega) (by omega)).mono ?_
  rintro e w2 ⟨⟨i, rfl, hi0, hi1⟩, hc2, hs2⟩
  obtain ⟨k, hk⟩ : ∃ k : Nat, i = k := ⟨i.toNat, by omega⟩
  subst hk
  have hkn : k < n := by omega
  have hF2 := (unhide HF1).gr hs2.gr hb
  have HF2 := hide hF2
  have HC2 := hide hc2
  have HG2 := hide ((unhide HG1).trans hs2.gr)
  clear hF2 hc2 hs2 HF1 HC1 HG1 bx bf
  go_wp2_with fail
  refine (pick_any b (N + 2 + 2) 4 _ (unhide HC2) (by omega) (by omega) (by omega)).mono ?_
  rintro e w3 ⟨⟨y, rfl, hy0, hy1⟩, hc3, hs3⟩
  have hF3 := (unhide HF2).gr hs3.gr hb
  have bx := hF3.box
  have bf := hF3.bfz
  obtain ⟨c0, c1, c2⟩ := hF3.own.cells hkn
  have z0 := hF3.own.frozenAt (k * 3)
  have z1 := hF3.own.frozenAt (k * 3 + 1)
  have z2 := hF3.own.frozenAt (k * 3 + 2)
  have hgb := (hF3.own.lt g rfl).1
  have HF3 := hide hF3
  have HC3 := hide hc3
  have HG3 := hide ((unhide HG2).trans hs3.gr)
  clear hF3 hc3 hs3 HF2 HC2 HG2
  by_cases y0 : y = 0
  · subst y0
    go_wp2
    have hwp : IntKind.i64.wrap ((n : Int) + 2) = (n : Int) + 2 := by rw [IntKind.wrap_i64]; omega
    have HFd := hide (unhide HF3).drew
    have HCd := hide (unhide HC3).drew
    have HGd := hide (unhide HG3).drew
    go_region_law (first
      | (go_simp; go_at_call 19; refine (pick_any b (N + 2 + 2 + 2) ((n : Int) + 2) _ (unhide HCd) (by omega) (by omega) (by omega)).mono ?_; rintro e w4 ⟨⟨z, rfl, hz0, hz1⟩, hc4, hs4⟩; have hwz : IntKind.i64.wrap (z - 1) = z - 1 := (by rw [IntKind.wrap_i64]; omega); have hF4 := (unhide HFd).gr hs4.gr hb; have bx4 := hF4.box; have e0 := (hF4.own.cells hkn).1; have e1 := hF4.own.frozenAt (k * 3); have HF4 := hide hF4; have HC4 := hide hc4; have HG4 := hide ((unhide HGd).trans hs4.gr); clear hF4 hc4 hs4))
    all_goals
      go_wp2
      have hs := (unhide HF4).set k hkn ⟨z - 1, (f k).key, (f k).count⟩ 0 (by omega) (fun q hq hne => by
        match q, hq, hne with
        | 1, _, _ => rfl
        | 2, _, _ => rfl)
      refine bodyPost_end (v := .tuple #[]) (by simp [results, Try.results42, go_sem]) rfl ⟨⟨_, rfl⟩, spoilt_of hs h1 (by omega) ((unhide HC4).below ((Below.refl w0.heap.size w4).setCell (by show w0.heap.size ≤ g; omega) _) hb) (by omega) (fun _ => frame_set (unhide HG4) (by omega) (by show w0.heap.size ≤ g; omega))⟩
  have hy0' : (y == 0) = false := by simp [y0]
  by_cases y1 : y = 1
  · subst y1
    go_wp2
    have HFd := hide (unhide HF3).drew
    have HCd := hide (unhide HC3).drew
    have HGd := hide (unhide HG3).drew
    go_region_law (first
      | (go_simp; go_at_call 20; refine (word_any b (N + 2 + 2 + 2) _ (unhide HCd) (by omega)).mono ?_; rintro e w4 ⟨⟨ws, rfl, hws⟩, hc4, hs4⟩; have hF4 := (unhide HFd).gr hs4 hb; have bx4 := hF4.box; have e0 := (hF4.own.cells hkn).2.1; have e1 := hF4.own.frozenAt (k * 3 + 1); have HF4 := hide hF4; have HC4 := hide hc4; have HG4 := hide ((unhide HGd).trans hs4); clear hF4 hc4 hs4))
    all_goals
      go_wp2
      have hs := (unhide HF4).set k hkn ⟨(f k).parent, ws, (f k).count⟩ 1 (by omega) (fun q hq hne => by
        match q, hq, hne with
        | 0, _, _ => rfl
        | 2, _, _ => rfl)
      refine bodyPost_end (v := .tuple #[]) (by simp [results, Try.results42, go_sem]) rfl ⟨⟨_, rfl⟩, spoilt_of hs h1 (by omega) ((unhide HC4).below ((Below.refl w0.heap.size w4).setCell (by show w0.heap.size ≤ g; omega) _) hb) (by omega) (fun _ => frame_set (unhide HG4) (by omega) (by show w0.heap.size ≤ g; omega))⟩
  have hy1' : (y == 1) = false := by simp [y1]
  by_cases y2 : y = 2
  · subst y2
    go_wp2
    have HFd := hide (unhide HF3).drew
    have HCd := hide (unhide HC3).drew
    have HGd := hide (unhide HG3).drew
    have hck := hcnt k hkn
    go_region_law (first
      | (go_simp; go_at_call 19; refine (pick_any b (N + 2 + 2 + 2) 3 _ (unhide HCd) (by omega) (by omega) (by omega)).mono ?_; rintro e w4 ⟨⟨z, rfl, hz0, hz1⟩, hc4, hs4⟩; have hwz : IntKind.i64.wrap (z - 1) = z - 1 := (by rw [IntKind.wrap_i64]; omega); have hwc : IntKind.i64.wrap ((f k).count + (z - 1)) = (f k).count + (z - 1) := (by rw [IntKind.wrap_i64]; omega); have hF4 := (unhide HFd).gr hs4.gr hb; have bx4 := hF4.box; have e0 := (hF4.own.cells hkn).2.2; have e1 := hF4.own.frozenAt (k * 3 + 2); have HF4 := hide hF4; have HC4 := hide hc4; have HG4 := hide ((unhide HGd).trans hs4.gr); clear hF4 hc4 hs4))
    all_goals
      go_wp2
      have hs := (unhide HF4).set k hkn ⟨(f k).parent, (f k).key, (f k).count + (z - 1)⟩ 2 (by omega) (fun q hq hne => by
        rcases (show q = 0 ∨ q = 1 by omega) with rfl | rfl <;> rfl)
      refine bodyPost_end (v := .tuple #[]) (by simp [results, Try.results42, go_sem]) rfl ⟨⟨_, rfl⟩, spoilt_of hs h1 (by omega) ((unhide HC4).below ((Below.refl w0.heap.size w4).setCell (by show w0.heap.size ≤ g; omega) _) hb) (by omega) (fun _ => frame_set (unhide HG4) (by omega) (by show w0.heap.size ≤ g; omega))⟩
  have hy2' : (y == 2) = false := by simp [y2]
  obtain ⟨i0, hi0', hz0', hz1', hz2'⟩ := info_parts infoShape
  go_wp2
  have hob3 := (unhide HF3).obl
  have hs3 := (unhide HF3).siz
  have hgl3 := ((unhide HF3).own.lt g rfl).2
  have hobg := (unhide HF3).obg
  obtain ⟨ns, hns⟩ : ∃ ns : List Value, ns = [.int .i64 (f k).parent, .string (f k).key, .int .i64 (f k).count] := ⟨_, rfl⟩
  have HOA : Hid ((w3.alloc (.cells #[.int .i64 (f k).parent, .string (f k).key, .int .i64 (f k).count] 61)).drew.ownsRow (w0.heap.size + 1) 61 3 (.slice (some ⟨g, 0, none⟩) n cp) n (shL f n)) := hide ((unhide HF3).own.alloc _).drew
  have HNA : Hid (∀ j u, ns[j]? = some u → (w3.alloc (.cells #[.int .i64 (f k).parent, .string (f k).key, .int .i64 (f k).count] 61)).drew.cell? ((⟨w3.heap.size, 0, none⟩ : Addr).add j) = some u) := hide (by rw [hns]; exact World.news_of_block (Deep.blk_alloc_new w3 (.cells #[.int .i64 (f k).parent, .string (f k).key, .int .i64 (f k).count] 61)))
  have hnl : ns.length = 1 * 3 := by rw [hns]; rfl
  have hn1c : ∀ u ∈ ns, u.oneCell' = true := by rw [hns]; simp [Value.oneCell']
  have hba : w0.heap.size + 1 ≤ (w3.alloc (.cells #[.int .i64 (f k).parent, .string (f k).key, .int .i64 (f k).count] 61)).drew.heap.size := by simp; omega
  have HNS := hide hns
  have HXA : Hid ((w3.alloc (.cells #[.int .i64 (f k).parent, .string (f k).key, .int .i64 (f k).count] 61)).drew.cell? ⟨ob, 0, none⟩ = some (.slice (some ⟨g, 0, none⟩) n cp) ∧ (w3.alloc (.cells #[.int .i64 (f k).parent, .string (f k).key, .int .i64 (f k).count] 61)).drew.frozen? ⟨ob, 0, none⟩ = false) := hide ⟨cell_alloc bx, (World.frozen?_of_block (w := w3) (Deep.blk_alloc_lt _ _ _ hob3)).trans bf⟩
  have hobb' : some ob ≠ (Value.slice (some ⟨g, 0, none⟩) n cp).ownBlock := by simpa [Value.ownBlock] using hobg
  clear hns
  go_region_law (refine step_append_lies _ rfl (.tmp 32) (.tmp 40) 23 rfl (w0.heap.size + 1) 61 i0 (Sh 0 ⟨#[]⟩ 0) 3 32 Try.underlying23 hi0' hz0' hz1' hz2' rfl (by decide) (.slice (some ⟨g, 0, none⟩) n cp) n (shL f n) (by simp [Act.eval]) (unhide HOA) ⟨w3.heap.size, 0, none⟩ 1 1 ns (by simp [Act.eval]) hnl (unhide HNA) hn1c (by decide) (by unfold maxLen; omega) (by omega) hba _ rfl ?_; intro g5 cp5 w5 hown5 hgr5 hloc5 hlt5; have y5 : w5.cell? ⟨ob, 0, none⟩ = some (.slice (some ⟨g, 0, none⟩) n cp) := hgr5.cell (unhide HXA).1 hobb'; have e5 : w5.frozen? ⟨ob, 0, none⟩ = false := (World.frozen?_of_block (hgr5.block ob (by simp; omega) hobb')).trans (unhide HXA).2; have HO5 := hide hown5; have HG5 := hide hgr5; clear hown5 hgr5)
  all_goals
    have ho5 : ShOwn w5 (w0.heap.size + 1) (.slice (some ⟨g5, 0, none⟩) (n + 1) cp5) (n + 1) (fun j => if j = n then f k else f j) := by
      have h := unhide HO5
      rw [unhide HNS, shL_congr (f := f) (g := fun j => if j = n then f k else f j) (fun j hj => by rw [if_neg (by omega)]), shL_snoc _ n (f k) (by simp)] at h
      exact h
    have hg5 : g5 ≠ ob := by
      rcases hloc5 with h | h
      · simp [Value.ownBlock] at h; omega
      · simp at h; omega
    have hB5 : Below (w0.heap.size + 1) w3 w5 := by
      have hG := unhide HG5
      refine ⟨hG.os, hG.tape, hG.output, Nat.le_trans (by simp) hG.size, fun q hq => ?_⟩
      rw [hG.block q (by simp; omega) (by simp [Value.ownBlock]; omega)]
      exact Deep.blk_alloc_lt w3 _ q (by omega)
    have hF5 : Fb w0 (w5.setCell ⟨ob, 0, none⟩ (.slice (some ⟨g5, 0, none⟩) (n + 1) cp5)) ob g5 cp5 (n + 1) (fun j => if j = n then f k else f j) := by
      refine ⟨by simp [go_sem, y5], by rw [World.frozen?_setCell]; exact e5, ?_, ?_, ho5.kept (grown_setCell w5 _ _) (.inr (by simpa [Value.ownBlock] using hg5)), fun e => hg5 e.symm, ?_, hobb, ?_⟩
      · exact (World.cell?_of_block (Deep.blk_setCell_other _ _ _ _ (by show w0.heap.size ≠ ob; omega))).trans ((hB5.cell (by show w0.heap.size < w0.heap.size + 1; omega)).trans (unhide HF3).res)
      · rw [World.frozen?_setCell]; exact (hB5.frozen (by show w0.heap.size < w0.heap.size + 1; omega)).trans (unhide HF3).rfz
      · have := hB5.size; simp; omega
      · have := hB5.size; simp; omega
    have HF5 := hide hF5
    have HB5 := hide hB5
    clear hF5 hB5 ho5 HG5 HO5 HOA HNA HXA hnl hn1c hba
    go_wp2
    refine bodyPost_end (v := .tuple #[]) (by simp [results, Try.results42, go_sem]) rfl ⟨⟨_, rfl⟩, spoilt_of (unhide HF5) (by omega) (by omega) ((((unhide HC3).below (unhide HB5) (by omega)).below ((Below.refl w0.heap.size w5).setCell (by show w0.heap.size ≤ ob; omega) _) hb)) (by omega) (fun _ => frame_set2 (unhide HG3) (unhide HB5) (by omega) (by show w0.heap.size ≤ ob; omega))⟩
end Go.Proofs.Ytgiegkigfokdmaa
