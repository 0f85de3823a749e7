/-
  Shapes: one shape more is planted.
-/
import Derived.Test.YtgiegkigfokdmabNodB
namespace Go.Proofs.Ytgiegkigfokdmab
open Go.RowKit
open Go.Maps (Keyed)
set_option linter.unusedVariables false

abbrev NodesP (w : World) (f : Nat → Shp) (b0 k : Nat) (B N : Nat → Nat) (M : Nat → Option Nat) : Prop := Nodes Try.prog 56 75 w f b0 k B N M
abbrev GrownP (b0 : Nat) (w w' : World) : Prop := Grown 75 b0 w w'

theorem drewN_heap (w : World) (n : Nat) : (w.drewN n).heap = w.heap := rfl

theorem grown_drewN {a c : World} {row : Option Nat} (h : a.grownBy c row) (n : Nat) : a.grownBy (c.drewN n) row := ⟨h.os, h.tape, h.output, h.size, h.block⟩

theorem look_kid {w : World} {m n : Nat} {g : Value → Value} (h : MapIs Try.prog 56 w m n g) {s : Shp} (h1 : (Lit.int .i64 s.parent).wf = true) (h2 : s.key.size ≤ maxLen) (h3 : (Lit.int .i64 s.count).wf = true) :
    ∀ q, (Instr.lookup 73 (.map (some m)) (ShV s) false).run Try.prog (w.drewN q) = .ok (g (ShV s)) (w.drewN q) := by
  intro q
  obtain ⟨kl, hkl⟩ := keyShape s h1 h2 h3
  exact (h.block (w' := w.drewN q) rfl).look shapeLaw Try.underlying73 (zeroNode _) hkl

theorem look_none {w : World} {s : Shp} (h1 : (Lit.int .i64 s.parent).wf = true) (h2 : s.key.size ≤ maxLen) (h3 : (Lit.int .i64 s.count).wf = true) :
    ∀ q, (Instr.lookup 73 (.map none) (ShV s) false).run Try.prog (w.drewN q) = .ok (.pointer none) (w.drewN q) := by
  intro q
  obtain ⟨kl, hkl⟩ := keyShape s h1 h2 h3
  simpa using Maps.look_nil (w := w.drewN q) false shapeLaw Try.underlying73 (zeroNode _) hkl

set_option maxRecDepth 100000 in
set_option maxHeartbeats 1000000 in
theorem intern_found (w : World) (r br j : Nat) (m : Nat) (g : Value → Value) (n : Nat) (s : Shp) (num : Nat) (sp : Shp) (par : Option Addr) (pn : Nat)
    (hrow : w.rowIs br 75 6 (nodeCell pn sp par (some m))) (hmap : MapIs Try.prog 56 w m n g) (hg : g (ShV s) = .pointer (some ⟨r, 0, none⟩))
    (h1 : (Lit.int .i64 s.parent).wf = true) (h2 : s.key.size ≤ maxLen) (h3 : (Lit.int .i64 s.count).wf = true) :
    Calls Try.prog 62 #[.pointer (some ⟨br, 0, none⟩), ShV s, .int .i64 num] w fun e w' => e = .returned (.pointer (some ⟨r, 0, none⟩)) ∧ Below w.heap.size w w' := by
  have hl := World.rowIs.lt hrow
  have hmap' := hmap.block (w' := w.alloc (.cells #[.int .i64 s.parent, .string s.key, .int .i64 s.count] 56)) (by obtain ⟨es, c, hm⟩ := hmap.isMap; exact Deep.blk_alloc_lt _ _ _ (Array.getElem?_eq_some_iff.1 hm).1)
  have hlk := look_kid hmap' h1 h2 h3
  rw [hg] at hlk
  have c5 : w.cell? ⟨br, 5, none⟩ = some (.map (some m)) := hrow.cell (i := 5) (by omega)
  clear hmap hmap' hrow hg h1 h2 h3
  go_enter Try.func62, Try.ntmps62
  go_wp2
  go_quiet (fail)
  go_wp2
  go_ret
  exact ⟨rfl, below_drewN ((Below.refl _ _).alloc (Nat.le_refl _) _) _⟩

open Classical in
theorem put_kid {w : World} {m n : Nat} {g : Value → Value} (h : MapIs Try.prog 56 w m n g) (hn : n ≤ 1000) {s : Shp} (h1 : (Lit.int .i64 s.parent).wf = true) (h2 : s.key.size ≤ maxLen) (h3 : (Lit.int .i64 s.count).wf = true) (v : Value) :
    ∃ w', (Instr.mapUpdate 73 (.map (some m)) (ShV s) v).run Try.prog w = .ok () w' ∧ MapIs Try.prog 56 w' m (n + 1) (fun k => if k = ShV s then v else g k) ∧ w.grownBy w' (some m) := by
  obtain ⟨kl, hkl⟩ := keyShape s h1 h2 h3
  exact h.put shapeLaw Try.underlying73 (by unfold maxLen; omega) v hkl

open Classical in
set_option maxRecDepth 100000 in
set_option maxHeartbeats 1000000 in
theorem intern_more (w : World) (br : Nat) (m : Nat) (g : Value → Value) (n : Nat) (s : Shp) (num : Nat) (sp : Shp) (par : Option Addr) (pn : Nat) (hn : n ≤ 1000)
    (hrow : w.rowIs br 75 6 (nodeCell pn sp par (some m))) (hmap : MapIs Try.prog 56 w m n g) (hg : g (ShV s) = .pointer none)
    (h1 : (Lit.int .i64 s.parent).wf = true) (h2 : s.key.size ≤ maxLen) (h3 : (Lit.int .i64 s.count).wf = true) :
    Calls Try.prog 62 #[.pointer (some ⟨br, 0, none⟩), ShV s, .int .i64 num] w fun e w' => ∃ r, e = .returned (.pointer (some ⟨r, 0, none⟩)) ∧ w.heap.size ≤ r ∧ w'.rowIs r 75 6 (nodeCell num s (some ⟨br, 0, none⟩) none) ∧
      MapIs Try.prog 56 w' m (n + 1) (fun k => if k = ShV s then .pointer (some ⟨r, 0, none⟩) else g k) ∧ w.grownBy w' (some m) := by
  have hl := World.rowIs.lt hrow
  obtain ⟨es, cl, hm⟩ := hmap.isMap
  have hml : m < w.heap.size := (Array.getElem?_eq_some_iff.1 hm).1
  have hmap' := hmap.block (w' := w.alloc (.cells #[.int .i64 s.parent, .string s.key, .int .i64 s.count] 56)) (Deep.blk_alloc_lt _ _ _ hml)
  have hlk := look_kid hmap' h1 h2 h3
  rw [hg] at hlk
  have c5 : w.cell? ⟨br, 5, none⟩ = some (.map (some m)) := hrow.cell (i := 5) (by omega)
  have HM := hide hmap'
  have H1 := hide h1
  have H2 := hide h2
  have H3 := hide h3
  have qT : ∀ (w : World), (binOp .eql 73 (.map (some m)) (.map none)).run Try.prog w = .ok (.bool false) w := fun w => run_eql_map_nil w _ _ _ (some m) Try.underlying73
  clear hmap hmap' hrow hg h1 h2 h3 hm
  go_enter Try.func62, Try.ntmps62
  go_wp2
  go_quiet (fail)
  go_wp2
  obtain ⟨W1, hW1⟩ : ∃ W1, W1 = ((w.alloc (.cells #[.int .i64 s.parent, .string s.key, .int .i64 s.count] 56)).drewN nq).alloc (.cells #[.int .i64 num, .int .i64 s.parent, .string s.key, .int .i64 s.count, .pointer (some ⟨br, 0, none⟩), .map none] 75) := ⟨_, rfl⟩
  rw [← hW1]
  have hz1 : W1.heap.size = w.heap.size + 2 := by rw [hW1]; simp
  have hgr : w.grownBy W1 none := by rw [hW1]; exact (grown_drewN (World.grownBy_alloc w _ none) nq).trans (World.grownBy_alloc _ _ none)
  have d5 : W1.cell? ⟨br, 5, none⟩ = some (.map (some m)) := by rw [← c5]; exact World.cell?_of_block (hgr.block br hl (by simp))
  have x0 : W1.cell? ⟨w.heap.size, 0, none⟩ = some (.int .i64 s.parent) := by rw [hW1]; simp [go_sem]
  have x1 : W1.cell? ⟨w.heap.size, 1, none⟩ = some (.string s.key) := by rw [hW1]; simp [go_sem]
  have x2 : W1.cell? ⟨w.heap.size, 2, none⟩ = some (.int .i64 s.count) := by rw [hW1]; simp [go_sem]
  have hrn : W1.rowIs (w.heap.size + 1) 75 6 (nodeCell num s (some ⟨br, 0, none⟩) none) := by
    have := World.rowIs_alloc ((w.alloc (.cells #[.int .i64 s.parent, .string s.key, .int .i64 s.count] 56)).drewN nq) #[.int .i64 num, .int .i64 s.parent, .string s.key, .int .i64 s.count, .pointer (some ⟨br, 0, none⟩), .map none] 75 (nodeCell num s (some ⟨br, 0, none⟩) none) (fun i hi => by
      have : i < 6 := hi
      match i, this with
      | 0, _ => rfl
      | 1, _ => rfl
      | 2, _ => rfl
      | 3, _ => rfl
      | 4, _ => rfl
      | 5, _ => rfl)
    rw [hW1]
    simpa using this
  have hmp : MapIs Try.prog 56 W1.drew m n g := (unhide HM).block (by
    show W1.heap[m]? = _
    rw [hgr.block m hml (by simp)]
    exact (Deep.blk_alloc_lt _ _ _ hml).symm)
  obtain ⟨w2, hrun, hmap2, hg2⟩ := put_kid hmp hn (unhide H1) (unhide H2) (unhide H3) (.pointer (some ⟨w.heap.size + 1, 0, none⟩))
  have HG := hide (hgr.but (some m))
  have HG2 := hide hg2
  have HM2 := hide hmap2
  have HR := hide hrn
  clear hW1 hgr hrn hmp hmap2 hg2 HM hlk
  go_region
  go_wp2
  go_ret
  refine ⟨w.heap.size + 1, rfl, by omega, (unhide HR).of_block ((unhide HG2).block _ (by show _ < W1.heap.size; omega) (by simp; omega)), unhide HM2, (unhide HG).trans ?_⟩
  exact ⟨(unhide HG2).os, (unhide HG2).tape, (unhide HG2).output, (unhide HG2).size, (unhide HG2).block⟩

theorem row6 (w : World) (num : Nat) (s : Shp) (par : Option Addr) : (w.alloc (.cells #[.int .i64 num, .int .i64 s.parent, .string s.key, .int .i64 s.count, .pointer par, .map none] 75)).rowIs w.heap.size 75 6 (nodeCell num s par none) :=
  World.rowIs_alloc w _ 75 _ (fun i hi => by
      have : i < 6 := hi
      match i, this with
      | 0, _ => rfl
      | 1, _ => rfl
      | 2, _ => rfl
      | 3, _ => rfl
      | 4, _ => rfl
      | 5, _ => rfl)

theorem nodeCell_set (num : Nat) (s : Shp) (par : Option Addr) (o m : Option Nat) (i : Nat) (hi : i < 6) : (if i = 5 then Value.map m else nodeCell num s par o i) = nodeCell num s par m i := by
  match i, hi with
  | 0, _ => rfl
  | 1, _ => rfl
  | 2, _ => rfl
  | 3, _ => rfl
  | 4, _ => rfl
  | 5, _ => rfl

open Classical in
set_option maxRecDepth 100000 in
set_option maxHeartbeats 1000000 in
theorem intern_first (w : World) (br : Nat) (s : Shp) (num : Nat) (sp : Shp) (par : Option Addr) (pn : Nat)
    (hrow : w.rowIs br 75 6 (nodeCell pn sp par none))
    (h1 : (Lit.int .i64 s.parent).wf = true) (h2 : s.key.size ≤ maxLen) (h3 : (Lit.int .i64 s.count).wf = true) :
    Calls Try.prog 62 #[.pointer (some ⟨br, 0, none⟩), ShV s, .int .i64 num] w fun e w' => ∃ r mm, e = .returned (.pointer (some ⟨r, 0, none⟩)) ∧ w.heap.size ≤ r ∧ w.heap.size ≤ mm ∧ w'.rowIs r 75 6 (nodeCell num s (some ⟨br, 0, none⟩) none) ∧
      w'.rowIs br 75 6 (nodeCell pn sp par (some mm)) ∧
      MapIs Try.prog 56 w' mm 1 (fun k => if k = ShV s then .pointer (some ⟨r, 0, none⟩) else .pointer none) ∧ w.grownBy w' (some br) := by
  have hl := World.rowIs.lt hrow
  have hlk := look_none (w := w.alloc (.cells #[.int .i64 s.parent, .string s.key, .int .i64 s.count] 56)) h1 h2 h3
  have c5 : w.cell? ⟨br, 5, none⟩ = some (.map none) := hrow.cell (i := 5) (by omega)
  have f5 : w.frozen? ⟨br, 5, none⟩ = false := hrow.frozen 5
  have hmm := @run_makeMap Try.prog
  have HW := hide hrow
  have H1 := hide h1
  have H2 := hide h2
  have H3 := hide h3
  have qT : ∀ (w : World), (binOp .eql 73 (.map none) (.map none)).run Try.prog w = .ok (.bool true) w := fun w => run_eql_map_nil w _ _ _ none Try.underlying73
  clear hrow h1 h2 h3
  go_enter Try.func62, Try.ntmps62
  go_wp2
  go_quiet (fail)
  go_wp2
  obtain ⟨W1, hW1⟩ : ∃ W1, W1 = ((((w.alloc (.cells #[.int .i64 s.parent, .string s.key, .int .i64 s.count] 56)).drewN nq).setCell ⟨br, 5, none⟩ (.map (some (w.heap.size + 1)))).alloc (.map #[] 0)).alloc (.cells #[.int .i64 num, .int .i64 s.parent, .string s.key, .int .i64 s.count, .pointer (some ⟨br, 0, none⟩), .map none] 75) := ⟨_, rfl⟩
  rw [← hW1]
  have hz1 : W1.heap.size = w.heap.size + 3 := by rw [hW1]; simp
  have ga : w.grownBy ((w.alloc (.cells #[.int .i64 s.parent, .string s.key, .int .i64 s.count] 56)).drewN nq) none := grown_drewN (World.grownBy_alloc w _ none) nq
  have ra := (unhide HW).of_block (ga.block br hl (by simp))
  have rb := (ra.set 5 (.map (some (w.heap.size + 1)))).congr (fun i hi => nodeCell_set pn sp par none (some (w.heap.size + 1)) i hi)
  have gb : w.grownBy (((w.alloc (.cells #[.int .i64 s.parent, .string s.key, .int .i64 s.count] 56)).drewN nq).setCell ⟨br, 5, none⟩ (.map (some (w.heap.size + 1)))) (some br) :=
    ⟨ga.os, ga.tape, ga.output, by simp, fun i hi hne => by rw [Deep.blk_setCell_other _ _ _ _ (fun e => hne (by rw [e]))]; exact ga.block i hi (by simp)⟩
  have hgr : w.grownBy W1 (some br) := by rw [hW1]; exact (gb.trans (World.grownBy_alloc _ _ _)).trans (World.grownBy_alloc _ _ _)
  have rbr : W1.rowIs br 75 6 (nodeCell pn sp par (some (w.heap.size + 1))) := by rw [hW1]; exact (rb.alloc _).alloc _
  have d5 : W1.cell? ⟨br, 5, none⟩ = some (.map (some (w.heap.size + 1))) := rbr.cell (i := 5) (by omega)
  have x0 : W1.cell? ⟨w.heap.size, 0, none⟩ = some (.int .i64 s.parent) := by rw [hW1]; simp [go_sem]
  have x1 : W1.cell? ⟨w.heap.size, 1, none⟩ = some (.string s.key) := by rw [hW1]; simp [go_sem]
  have x2 : W1.cell? ⟨w.heap.size, 2, none⟩ = some (.int .i64 s.count) := by rw [hW1]; simp [go_sem]
  have hrn : W1.rowIs (w.heap.size + 2) 75 6 (nodeCell num s (some ⟨br, 0, none⟩) none) := by
    have := row6 ((((w.alloc (.cells #[.int .i64 s.parent, .string s.key, .int .i64 s.count] 56)).drewN nq).setCell ⟨br, 5, none⟩ (.map (some (w.heap.size + 1)))).alloc (.map #[] 0)) num s (some ⟨br, 0, none⟩)
    rw [hW1]
    simpa using this
  have hmp : MapIs Try.prog 56 W1.drew (w.heap.size + 1) 0 (fun _ => .pointer none) := by
    have h0 := MapIs.made Try.prog 56 (((w.alloc (.cells #[.int .i64 s.parent, .string s.key, .int .i64 s.count] 56)).drewN nq).setCell ⟨br, 5, none⟩ (.map (some (w.heap.size + 1))))
    have hz : (((w.alloc (.cells #[.int .i64 s.parent, .string s.key, .int .i64 s.count] 56)).drewN nq).setCell ⟨br, 5, none⟩ (.map (some (w.heap.size + 1)))).heap.size = w.heap.size + 1 := by simp
    rw [hz] at h0
    refine h0.block ?_
    show W1.heap[w.heap.size + 1]? = _
    rw [hW1]
    exact Deep.blk_alloc_lt _ _ _ (by simp)
  obtain ⟨w2, hrun, hmap2, hg2⟩ := put_kid hmp (by omega) (unhide H1) (unhide H2) (unhide H3) (.pointer (some ⟨w.heap.size + 1 + 1, 0, none⟩))
  have HG := hide hgr
  have HG2 := hide hg2
  have HM2 := hide hmap2
  have HR := hide hrn
  have HRB := hide rbr
  clear hW1 hgr hrn hmp hmap2 hg2 hlk ga ra rb gb rbr HW
  go_region
  go_wp2
  go_ret
  refine ⟨w.heap.size + 2, w.heap.size + 1, rfl, by omega, by omega, (unhide HR).of_block ((unhide HG2).block _ (by show _ < W1.heap.size; omega) (by simp)), (unhide HRB).of_block ((unhide HG2).block _ (by show _ < W1.heap.size; omega) (by simp; omega)), unhide HM2, ?_⟩
  refine World.grownBy.andThen (unhide HG) (row' := some (w.heap.size + 1)) ?_ (fun j hj => by cases hj; exact .inl (by omega))
  exact ⟨(unhide HG2).os, (unhide HG2).tape, (unhide HG2).output, (unhide HG2).size, (unhide HG2).block⟩
end Go.Proofs.Ytgiegkigfokdmab
