/-
  IdR.
-/
import Derived.Test.YtnjgebncghdajaaGreatDoorBi1
import Derived.Test.YtnjgebncghdajaaGreatDoorBi2
namespace Go.Proofs.YtnjgebncghdajaaGreatDoor
open Go.RowKit
set_option linter.unusedVariables false

/-- An act in a box; an answer's box, still bare. -/
def ABx (w : World) (b : Nat) (a : Ac) : Prop := w.heap[b]? = some (.cells (ActBx a) 48 (0, 0))
def RBx (w : World) (b : Nat) : Prop := w.heap[b]? = some (.cells An0 50 (0, 0))
theorem blk_lt {w : World} {b : Nat} {o : Obj} (h : w.heap[b]? = some o) : b < w.heap.size := by
  rcases Nat.lt_or_ge b w.heap.size with h1 | h1
  · exact h1
  · rw [Array.getElem?_eq_none h1] at h; cases h
theorem ABx.lt {w : World} {b : Nat} {a : Ac} (h : ABx w b a) : b < w.heap.size := blk_lt h
theorem RBx.lt {w : World} {b : Nat} (h : RBx w b) : b < w.heap.size := blk_lt h
theorem ABx.below {w w' : World} {b B : Nat} {a : Ac} (h : ABx w b a) (hb : Below B w w') (hB : b < B) : ABx w' b a := (hb.block b hB).trans h
theorem RBx.below {w w' : World} {b B : Nat} (h : RBx w b) (hb : Below B w w') (hB : b < B) : RBx w' b := (hb.block b hB).trans h
theorem ABx.dst {O O' : Nat → Prop} {w w' : World} {b : Nat} {a : Ac} (h : ABx w b a) (hd : Dst O w O' w') (hO : ¬ O b) : ABx w' b a := (hd.block b h.lt hO).trans h
theorem RBx.dst {O O' : Nat → Prop} {w w' : World} {b : Nat} (h : RBx w b) (hd : Dst O w O' w') (hO : ¬ O b) : RBx w' b := (hd.block b h.lt hO).trans h
theorem ABx.all {w : World} {b : Nat} {a : Ac} (h : ABx w b a) : w.cell? ⟨b, 0, none⟩ = some (.int .i64 a.op) ∧ w.cell? ⟨b, 1, none⟩ = some (.int .i64 a.t) ∧ w.cell? ⟨b, 2, none⟩ = some (.int .i64 a.site) ∧ w.cell? ⟨b, 3, none⟩ = some (.int .i64 a.n) ∧ w.cell? ⟨b, 4, none⟩ = some (.int .i64 a.k.kind) ∧ w.cell? ⟨b, 5, none⟩ = some (.int .i64 a.k.num) ∧ w.cell? ⟨b, 6, none⟩ = some (.float .f64 a.k.flt) ∧ w.cell? ⟨b, 7, none⟩ = some (.string a.k.str) ∧ w.cell? ⟨b, 8, none⟩ = some (.int .i64 a.k.ref) ∧ w.cell? ⟨b, 9, none⟩ = some (.int .i64 a.v.kind) ∧ w.cell? ⟨b, 10, none⟩ = some (.int .i64 a.v.num) ∧ w.cell? ⟨b, 11, none⟩ = some (.float .f64 a.v.flt) ∧ w.cell? ⟨b, 12, none⟩ = some (.string a.v.str) ∧ w.cell? ⟨b, 13, none⟩ = some (.int .i64 a.v.ref) := by
  unfold ABx at h
  refine ⟨?_, ?_, ?_, ?_, ?_, ?_, ?_, ?_, ?_, ?_, ?_, ?_, ?_, ?_⟩
  all_goals (rw [cell_of_row w b _ _ _ _ h]; rfl)
theorem RBx.all {w : World} {b : Nat} (h : RBx w b) : w.cell? ⟨b, 0, none⟩ = some (.int .i64 0) ∧ w.cell? ⟨b, 1, none⟩ = some (.int .i64 0) ∧ w.cell? ⟨b, 2, none⟩ = some (.int .i64 0) ∧ w.cell? ⟨b, 3, none⟩ = some (.int .i64 0) ∧ w.cell? ⟨b, 4, none⟩ = some (.float .f64 0) ∧ w.cell? ⟨b, 5, none⟩ = some (.string ⟨#[]⟩) ∧ w.cell? ⟨b, 6, none⟩ = some (.int .i64 0) ∧ w.cell? ⟨b, 7, none⟩ = some (.int .i64 0) ∧ w.cell? ⟨b, 8, none⟩ = some (.int .i64 0) ∧ w.cell? ⟨b, 9, none⟩ = some (.float .f64 0) ∧ w.cell? ⟨b, 10, none⟩ = some (.string ⟨#[]⟩) ∧ w.cell? ⟨b, 11, none⟩ = some (.int .i64 0) := by
  unfold RBx at h
  refine ⟨?_, ?_, ?_, ?_, ?_, ?_, ?_, ?_, ?_, ?_, ?_, ?_⟩
  all_goals (rw [cell_of_row w b _ _ _ _ h]; rfl)
theorem RBx.frozen {w : World} {b : Nat} (h : RBx w b) (j : Nat) : w.frozen? ⟨b, j, none⟩ = false := by
  unfold RBx at h
  simp [World.frozen?, h]
theorem boxes (w : World) (a : Ac) : ∃ W, W = (w.alloc (.cells (ActBx a) 48)).alloc (.cells An0 50) ∧ Below w.heap.size w W ∧ ABx W w.heap.size a ∧ RBx W (w.heap.size + 1) ∧ w.heap.size + 1 < W.heap.size := by
  refine ⟨_, rfl, ((Below.refl _ _).alloc (Nat.le_refl _) _).alloc (by simp) _, ?_, ?_, by simp⟩
  · refine ((Below.refl (w.alloc (.cells (ActBx a) 48)).heap.size _).alloc (Nat.le_refl _) _).block _ (by simp) |>.trans (Deep.blk_alloc_new w _)
  · have h := Deep.blk_alloc_new (w.alloc (.cells (ActBx a) 48)) (.cells An0 50)
    rw [show (w.alloc (.cells (ActBx a) 48)).heap.size = w.heap.size + 1 by simp] at h
    exact h

/-- An answer written into its box. -/
abbrev set12 (w : World) (b : Nat) (x : An) : World := ((((((((((((w.setCell ⟨b, 0, none⟩ (.int .i64 x.code)).setCell ⟨b, 1, none⟩ (.int .i64 x.num)).setCell ⟨b, 2, none⟩ (.int .i64 x.key.kind)).setCell ⟨b, 3, none⟩ (.int .i64 x.key.num)).setCell ⟨b, 4, none⟩ (.float .f64 x.key.flt)).setCell ⟨b, 5, none⟩ (.string x.key.str)).setCell ⟨b, 6, none⟩ (.int .i64 x.key.ref)).setCell ⟨b, 7, none⟩ (.int .i64 x.val.kind)).setCell ⟨b, 8, none⟩ (.int .i64 x.val.num)).setCell ⟨b, 9, none⟩ (.float .f64 x.val.flt)).setCell ⟨b, 10, none⟩ (.string x.val.str)).setCell ⟨b, 11, none⟩ (.int .i64 x.val.ref))
theorem set12_blk (w : World) (b : Nat) (x : An) {k : Nat} (hk : k ≠ b) : (set12 w b x).heap[k]? = w.heap[k]? := by
  unfold set12
  iterate 12 rw [Deep.blk_setCell_other _ _ _ _ (by exact hk)]
theorem set12_os (w : World) (b : Nat) (x : An) : (set12 w b x).os = w.os ∧ (set12 w b x).tape = w.tape ∧ (set12 w b x).output = w.output ∧ (set12 w b x).heap.size = w.heap.size := by
  unfold set12
  refine ⟨?_, ?_, ?_, ?_⟩
  · iterate 12 rw [(set_os _ _ _).1]
  · iterate 12 rw [(set_os _ _ _).2.1]
  · iterate 12 rw [(set_os _ _ _).2.2.1]
  · iterate 12 rw [(set_os _ _ _).2.2.2]
theorem fin12 {ty : TypeId} {w W w1 : World} {c B rb : Nat} {vT vS vT' vS' : Value} {U U' : Nat → Value} {D D' : Ds} {n' : Nat} (hn : n' = D'.nt) (x : An) (hb : Below w.heap.size w W) (hO : ∀ k, OwnD c vT vS U D.nt k → k < w.heap.size) (hr : w.heap.size ≤ rb) (hr2 : rb < W.heap.size) (h : DeskM ty w1 c B vT' vS' U' D') (hd : Dst (OwnD c vT vS U D.nt) W (OwnD c vT' vS' U' n') w1) :
    DeskM ty (set12 w1 rb x) c B vT' vS' U' D' ∧ Dst (OwnD c vT vS U D.nt) w (OwnD c vT' vS' U' D'.nt) (set12 w1 rb x) := by
  subst hn
  have hs := set12_os w1 rb x
  have hno : ∀ k, OwnD c vT' vS' U' D'.nt k → k ≠ rb := fun k hk e => by
    rcases hd.own k hk with h1 | h1
    · have := hO k h1; omega
    · omega
  refine ⟨h.keep fun k hk => set12_blk _ _ _ (hno k hk), ⟨?_, ?_, ?_, ?_, fun k hk hn => ?_, fun k hk => ?_⟩⟩
  · rw [hs.1, hd.os, hb.os]
  · rw [hs.2.1, hd.tape, hb.tape]
  · rw [hs.2.2.1, hd.output, hb.output]
  · rw [hs.2.2.2]; exact Nat.le_trans hb.size hd.size
  · rw [set12_blk _ _ _ (by omega), hd.block k (Nat.lt_of_lt_of_le hk hb.size) hn, hb.block k hk]
  · rcases hd.own k hk with h1 | h1
    · exact .inl h1
    · exact .inr (Nat.le_trans hb.size h1)
theorem own_slice {w : World} {B : Nat} {e : TypeId} {size : Nat} {v : Value} {n : Nat} {xs : List Value} (h : w.ownsRow B e size v n xs) : ∃ a cp, v = .slice a n cp := by
  rcases h.2 with hn | ⟨g, cap, cur, hv, hb, hg, rest⟩
  · obtain ⟨h1, h2⟩ := hn
    subst h1 h2
    exact ⟨_, _, rfl⟩
  · exact ⟨_, _, hv⟩
theorem blk_set_same {w : World} {c j : Nat} {cs : Array Value} {ty : TypeId} (h : w.heap[c]? = some (.cells cs ty (0, 0))) (u : Value) : (w.setCell ⟨c, j, none⟩ u).heap[c]? = some (.cells (cs.setIfInBounds j u) ty (0, 0)) := by
  simp [World.setCell, Array.getElem?_modify, h]
abbrev PlZ : Value := .agg #[.slice none 0 0, .int .i64 0]
theorem infoPlain : (Tryz.prog.info? 72).map (fun i => (i.zero, i.size, i.bytes)) = some (some PlZ, 2, 32) := by kernel_rfl
theorem infoStr1 : (Tryz.prog.info? 9).map (fun i => (i.zero, i.size, i.bytes)) = some (some (.string ⟨#[]⟩), 1, 16) := by kernel_rfl
theorem infoAns : (Tryz.prog.info? 50).map (fun i => (i.zero, i.size, i.bytes)) = some (some (.agg An0), 12, 112) := by kernel_rfl
/-- A table more, as append leaves it. -/
theorem DeskM.moreT {ty : TypeId} {w X w3 : World} {c B g3 cp3 : Nat} {vT vS : Value} {U : Nat → Value} {D : Ds} (h : DeskM ty w c B vT vS U D) (hX : Below w.heap.size w X) (hgr : X.grownBy w3 vT.ownBlock)
    (hown : w3.ownsRow B 72 2 (.slice (some ⟨g3, 0, none⟩) (D.nt + 1) cp3) (D.nt + 1) (tL U D.T D.nt ++ [.slice none 0 0, .int .i64 0])) (hloc : vT.ownBlock = some g3 ∨ w.heap.size ≤ g3) :
    w3.heap[c]? = some (.cells #[vT, vS] ty (0, 0)) ∧ DeskM ty (w3.setCell ⟨c, 0, none⟩ (.slice (some ⟨g3, 0, none⟩) (D.nt + 1) cp3)) c B (.slice (some ⟨g3, 0, none⟩) (D.nt + 1) cp3) vS (up1 U D.nt (.slice none 0 0)) { D with nt := D.nt + 1, T := up1 D.T D.nt ⟨0, fun _ => default, 0⟩ } ∧ Dst (OwnD c vT vS U D.nt) w (OwnD c (.slice (some ⟨g3, 0, none⟩) (D.nt + 1) cp3) vS (up1 U D.nt (.slice none 0 0)) (D.nt + 1)) (w3.setCell ⟨c, 0, none⟩ (.slice (some ⟨g3, 0, none⟩) (D.nt + 1) cp3)) := by
  have hl := h.lt
  have s2 := set_os w3 ⟨c, 0, none⟩ (.slice (some ⟨g3, 0, none⟩) (D.nt + 1) cp3)
  have hXs := hX.size
  have hgs := hgr.size
  have hk3 : ∀ q, q < w.heap.size → vT.ownBlock ≠ some q → w3.heap[q]? = w.heap[q]? := fun q hq h1 => (hgr.block q (by omega) (fun e => h1 e.symm)).trans (hX.block q hq)
  have hc3 := (hk3 c hl h.tc).trans h.blk
  have hgc : g3 ≠ c := fun e => by
    rcases hloc with h1 | h1
    · exact h.tc (e ▸ h1)
    · omega
  refine ⟨hc3, h.pushT (t' := ⟨0, fun _ => default, 0⟩) rfl ⟨s2.1.trans (hgr.os.trans hX.os), s2.2.1.trans (hgr.tape.trans hX.tape), s2.2.2.1.trans (hgr.output.trans hX.output), by rw [s2.2.2.2]; omega⟩ (fun q hq h1 h2 => (Deep.blk_setCell_other _ _ _ _ (by exact h1)).trans (hk3 q hq h2)) (blk_set_same hc3 _) ?_ (fun q e => ?_)⟩
  · refine own_keep ?_ (fun q e => Deep.blk_setCell_other _ _ _ _ (by intro e2; have e2 : q = c := e2; cases e; exact hgc e2))
    have e : tL (up1 U D.nt (.slice none 0 0)) (up1 D.T D.nt ⟨0, fun _ => default, 0⟩) (D.nt + 1) = tL U D.T D.nt ++ [.slice none 0 0, .int .i64 0] := by
      show tL _ _ D.nt ++ _ = _
      rw [up1_self, up1_self, tL_congr (U' := U) (T' := D.T) fun i hi => ⟨up1_other _ _ (by omega), by rw [up1_other _ _ (by omega)]⟩]
    show w3.ownsRow _ _ _ _ _ _
    rw [e]
    exact hown
  · cases e; exact hloc
theorem DeskM.moreS {ty : TypeId} {w X w3 : World} {c B g3 cp3 : Nat} {vT vS : Value} {U : Nat → Value} {D : Ds} (s : ByteArray) (h : DeskM ty w c B vT vS U D) (hX : Below w.heap.size w X) (hgr : X.grownBy w3 vS.ownBlock)
    (hown : w3.ownsRow B 9 1 (.slice (some ⟨g3, 0, none⟩) (D.ns + 1) cp3) (D.ns + 1) (sL D.S D.ns ++ [.string s])) (hloc : vS.ownBlock = some g3 ∨ w.heap.size ≤ g3) :
    w3.heap[c]? = some (.cells #[vT, vS] ty (0, 0)) ∧ DeskM ty (w3.setCell ⟨c, 1, none⟩ (.slice (some ⟨g3, 0, none⟩) (D.ns + 1) cp3)) c B vT (.slice (some ⟨g3, 0, none⟩) (D.ns + 1) cp3) U { D with ns := D.ns + 1, S := up1 D.S D.ns s } ∧ Dst (OwnD c vT vS U D.nt) w (OwnD c vT (.slice (some ⟨g3, 0, none⟩) (D.ns + 1) cp3) U D.nt) (w3.setCell ⟨c, 1, none⟩ (.slice (some ⟨g3, 0, none⟩) (D.ns + 1) cp3)) := by
  have hl := h.lt
  have s2 := set_os w3 ⟨c, 1, none⟩ (.slice (some ⟨g3, 0, none⟩) (D.ns + 1) cp3)
  have hXs := hX.size
  have hgs := hgr.size
  have hk3 : ∀ q, q < w.heap.size → vS.ownBlock ≠ some q → w3.heap[q]? = w.heap[q]? := fun q hq h1 => (hgr.block q (by omega) (fun e => h1 e.symm)).trans (hX.block q hq)
  have hc3 := (hk3 c hl h.sc).trans h.blk
  have hgc : g3 ≠ c := fun e => by
    rcases hloc with h1 | h1
    · exact h.sc (e ▸ h1)
    · omega
  refine ⟨hc3, h.pushS (S' := up1 D.S D.ns s) ⟨s2.1.trans (hgr.os.trans hX.os), s2.2.1.trans (hgr.tape.trans hX.tape), s2.2.2.1.trans (hgr.output.trans hX.output), by rw [s2.2.2.2]; omega⟩ (fun q hq h1 h2 => (Deep.blk_setCell_other _ _ _ _ (by exact h1)).trans (hk3 q hq h2)) (blk_set_same hc3 _) ?_ (fun q e => ?_)⟩
  · refine own_keep ?_ (fun q e => Deep.blk_setCell_other _ _ _ _ (by intro e2; have e2 : q = c := e2; cases e; exact hgc e2))
    have e : sL (up1 D.S D.ns s) (D.ns + 1) = sL D.S D.ns ++ [.string s] := by
      show sL _ D.ns ++ _ = _
      rw [up1_self, sL_congr (S' := D.S) fun i hi => up1_other _ _ (by omega)]
    show w3.ownsRow _ _ _ _ _ _
    rw [e]
    exact hown
  · cases e; exact hloc
/-- A site read out of the desk. -/
theorem DeskM.site {ty : TypeId} {w : World} {c B : Nat} {vT vS : Value} {U : Nat → Value} {D : Ds} (h : DeskM ty w c B vT vS U D) {i : Nat} (hi : i < D.ns) : ∃ g cp, vS = .slice (some ⟨g, 0, none⟩) D.ns cp ∧ g < w.heap.size ∧ w.cell? ⟨g, i, none⟩ = some (.string (D.S i)) := by
  obtain ⟨g, cp, hv, hb, hg⟩ := h.st.form (by omega)
  exact ⟨g, cp, hv, hg, by rw [World.ownsRow.cellAt (hv ▸ h.st) i (by omega), sL_get hi]⟩
end Go.Proofs.YtnjgebncghdajaaGreatDoor
