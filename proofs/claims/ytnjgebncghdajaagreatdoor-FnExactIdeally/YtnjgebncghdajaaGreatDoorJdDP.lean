/-
  JdD.
-/
import Derived.Test.YtnjgebncghdajaaGreatDoorJdAP
import Derived.Test.YtnjgebncghdajaaGreatDoorIdZP
import Derived.Test.YtnjgebncghdajaaGreatDoorJdCP
import Derived.Test.YtnjgebncghdajaaGreatDoorIdOP
import Derived.Test.YtnjgebncghdajaaGreatDoorIdSP
import Derived.Deep.QuietTactic
import Derived.BigQuiet
namespace Go.Proofs.YtnjgebncghdajaaGreatDoor
open Go.RowKit
set_option linter.unusedVariables false
set_option linter.unusedSimpArgs false
attribute [local go_sem] run_store_float run_equalIn_float

/-- What an act that writes reads. -/
def HeldF (ab c : Nat) (t : Nat) (vT : Value) (a : Ac) (W : World) : Prop :=
  W.cell? ⟨c, 0, none⟩ = some vT ∧ W.cell? ⟨ab, 0, none⟩ = some (.int .i64 a.op) ∧ W.cell? ⟨ab, 1, none⟩ = some (.int .i64 t) ∧ W.cell? ⟨ab, 2, none⟩ = some (.int .i64 a.site) ∧ W.cell? ⟨ab, 3, none⟩ = some (.int .i64 a.n) ∧ W.cell? ⟨ab, 4, none⟩ = some (.int .i64 a.k.kind) ∧ W.cell? ⟨ab, 5, none⟩ = some (.int .i64 a.k.num) ∧ W.cell? ⟨ab, 6, none⟩ = some (.float .f64 a.k.flt) ∧ W.cell? ⟨ab, 7, none⟩ = some (.string a.k.str) ∧ W.cell? ⟨ab, 8, none⟩ = some (.int .i64 a.k.ref) ∧ W.cell? ⟨ab, 9, none⟩ = some (.int .i64 a.v.kind) ∧ W.cell? ⟨ab, 10, none⟩ = some (.int .i64 a.v.num) ∧ W.cell? ⟨ab, 11, none⟩ = some (.float .f64 a.v.flt) ∧ W.cell? ⟨ab, 12, none⟩ = some (.string a.v.str) ∧ W.cell? ⟨ab, 13, none⟩ = some (.int .i64 a.v.ref)
theorem HeldF.keep {ab c t : Nat} {vT : Value} {a : Ac} {w w' : World} (h : HeldF ab c t vT a w) (ha : w'.heap[ab]? = w.heap[ab]?) (hc : w'.heap[c]? = w.heap[c]?) : HeldF ab c t vT a w' := by
  obtain ⟨e0, h0, h1, h2, h3, h4, h5, h6, h7, h8, h9, h10, h11, h12, h13⟩ := h
  exact ⟨(World.cell?_of_block (a := ⟨c, 0, none⟩) hc).trans e0, (World.cell?_of_block (a := ⟨ab, 0, none⟩) ha).trans h0, (World.cell?_of_block (a := ⟨ab, 1, none⟩) ha).trans h1, (World.cell?_of_block (a := ⟨ab, 2, none⟩) ha).trans h2, (World.cell?_of_block (a := ⟨ab, 3, none⟩) ha).trans h3, (World.cell?_of_block (a := ⟨ab, 4, none⟩) ha).trans h4, (World.cell?_of_block (a := ⟨ab, 5, none⟩) ha).trans h5, (World.cell?_of_block (a := ⟨ab, 6, none⟩) ha).trans h6, (World.cell?_of_block (a := ⟨ab, 7, none⟩) ha).trans h7, (World.cell?_of_block (a := ⟨ab, 8, none⟩) ha).trans h8, (World.cell?_of_block (a := ⟨ab, 9, none⟩) ha).trans h9, (World.cell?_of_block (a := ⟨ab, 10, none⟩) ha).trans h10, (World.cell?_of_block (a := ⟨ab, 11, none⟩) ha).trans h11, (World.cell?_of_block (a := ⟨ab, 12, none⟩) ha).trans h12, (World.cell?_of_block (a := ⟨ab, 13, none⟩) ha).trans h13⟩
abbrev TrySays (c B : Nat) (vT vS : Value) (U : Nat → Value) (D : Ds) (a : Ac) (w : World) : Prop :=
  Calls Tryz.prog 35 #[.pointer (some ⟨c, 0, none⟩), AcV a] w fun e w' => ∃ x cd, e = .returned (.tuple #[AnV x, errV cd]) ∧ ((cd = 0 → x = D.ans a) ∧ (cd ≠ 0 → D.ans a = ansC cd)) ∧ ∃ vT' vS' U', DeskM 55 w' c B vT' vS' U' (D.step a) ∧ Dst (OwnD c vT vS U D.nt) w (OwnD c vT' vS' U' (D.step a).nt) w'
theorem neq_err (c : Int) (w : World) : (binOp .neq 79 (.iface 105 (.agg #[.int .i64 c])) .nilIface).run Tryz.prog w = .ok (.bool true) w := by kernel_rfl
theorem neq_nil (w : World) : (binOp .neq 79 .nilIface .nilIface).run Tryz.prog w = .ok (.bool false) w := by kernel_rfl
theorem errV_ne {c : Int} (h : c ≠ 0) : errV c = .iface 105 (.agg #[.int .i64 c]) := by unfold errV; rw [if_neg h]
attribute [local go_sem] neq_err neq_nil

set_option maxRecDepth 100000 in
set_option maxHeartbeats 8000000 in
theorem try_err (c B : Nat) (vT vS : Value) (U : Nat → Value) (D : Ds) (a : Ac) (w : World) (hD : DeskM 55 w c B vT vS U D) (hG : D.Good) (hc : chk a D.nt D.ns ≠ 0) :
    TrySays c B vT vS U D a w := by
  have HRES : Hid (D.ans a = ansC (chk a D.nt D.ns) ∧ D.step a = D) := hide (by unfold Ds.ans Ds.step; rw [if_neg hc, if_neg hc]; exact ⟨rfl, rfl⟩)
  have HC := hide hc
  clear hc
  obtain ⟨ta, tc, rfl⟩ := own_slice hD.tb
  obtain ⟨sa, sc, rfl⟩ := own_slice hD.st
  have hnt := hG.nt
  have hns := hG.ns
  obtain ⟨W, hW, hb0, hA, hR, hz⟩ := boxes w a
  have HO : Hid (∀ k, OwnD c (.slice ta D.nt tc) (.slice sa D.ns sc) U D.nt k → k < w.heap.size) := hide (fun k h => (hD.rng h).2)
  have hcl := hD.lt
  have HM := hide (hD.below hb0)
  have hcW := (unhide HM).lt
  obtain ⟨c0, c1⟩ := (unhide HM).cells
  obtain ⟨a0, a1, a2, a3, a4, a5, a6, a7, a8, a9, a10, a11, a12, a13⟩ := hA.all
  have zaW := hA.lt
  have HB := hide hb0
  have HA := hide hA
  have HQ := hide hR
  have HG := hide hG
  clear hD hb0 hA hR hG
  go_enter Tryz.func35, Tryz.ntmps35
  go_wp2_with fail
  rw [← hW]
  clear hW
  refine wp_region_quiet (C := fun w' => Below W.heap.size W w') (by kernel_rfl) (by kernel_rfl) ((Below.refl _ _).drew) ?_
  show wpQuiet _ _ _ _ [_, _, _, _, _, _, _, _, _, _, _, _, _] _
  refine wpQuiet_step (fun K hK => ?_)
  go_simp
  apply Exists.intro
  refine And.intro (fun w' hw' => ?_) (hK _ ?_)
  · obtain ⟨hc', hf'⟩ := bcell hw'
    go_simp
    first | rfl | exact ⟨rfl, rfl⟩ | exact ⟨rfl⟩
  clear hK K
  refine wpQuiet_step (fun K hK => ?_)
  go_simp
  refine ⟨_, fun w' hw' => rfl, hK _ ?_⟩
  clear hK K
  refine wpQuiet_step (fun K hK => ?_)
  go_simp
  refine ⟨_, fun w' hw' => rfl, hK _ ?_⟩
  clear hK K
  refine wpQuiet_step (fun K hK => ?_)
  go_simp
  refine ⟨_, fun w' hw' => rfl, hK _ ?_⟩
  clear hK K
  refine wpQuiet_step (fun K hK => ?_)
  go_simp
  apply Exists.intro
  refine And.intro (fun w' hw' => ?_) (hK _ ?_)
  · obtain ⟨hc', hf'⟩ := bcell hw'
    go_simp
    first | rfl | exact ⟨rfl, rfl⟩ | exact ⟨rfl⟩
  clear hK K
  refine wpQuiet_step (fun K hK => ?_)
  go_simp
  refine ⟨_, fun w' hw' => rfl, hK _ ?_⟩
  clear hK K
  refine wpQuiet_step (fun K hK => ?_)
  go_simp
  refine ⟨_, fun w' hw' => rfl, hK _ ?_⟩
  clear hK K
  refine wpQuiet_step (fun K hK => ?_)
  go_simp
  refine ⟨_, fun w' hw' => rfl, hK _ ?_⟩
  clear hK K
  refine wpQuiet_step (fun K hK => ?_)
  go_simp
  refine ⟨_, fun w' hw' => rfl, hK _ ?_⟩
  clear hK K
  refine wpQuiet_step (fun K hK => ?_)
  go_simp
  apply Exists.intro
  refine And.intro (fun w' hw' => ?_) (hK _ ?_)
  · obtain ⟨hc', hf'⟩ := bcell hw'
    go_simp
    first | rfl | exact ⟨rfl, rfl⟩ | exact ⟨rfl⟩
  clear hK K
  refine wpQuiet_step (fun K hK => ?_)
  go_simp
  refine ⟨_, fun w' hw' => rfl, hK _ ?_⟩
  clear hK K
  refine wpQuiet_step (fun K hK => ?_)
  go_simp
  apply Exists.intro
  refine And.intro (fun w' hw' => ?_) (hK _ ?_)
  · refine (check_any a D.nt D.ns _ hnt hns).mono ?_
    rintro e w'' ⟨rfl, hb⟩
    exact ⟨rfl, hw'.trans (hb.mono hw'.size)⟩
  clear hK K
  refine wpQuiet_step (fun K hK => ?_)
  go_simp
  refine ⟨_, fun w' hw' => rfl, hK _ ?_⟩
  clear hK K
  refine wpQuiet_nil ?_
  intro w1 hb1
  have HX := hide hb1
  clear hb1 a0 a1 a2 a3 a4 a5 a6 a7 a8 a9 a10 a11 a12 a13 c0 c1 hcW zaW
  rw [errV_ne (unhide HC)]
  generalize chk a D.nt D.ns = cd at *
  have zz := (unhide HX).size
  have za : w.heap.size < w1.heap.size := by omega
  have zr : w.heap.size + 1 < w1.heap.size := by omega
  obtain ⟨r0, r1, r2, r3, r4, r5, r6, r7, r8, r9, r10, r11⟩ := ((unhide HQ).below (unhide HX) (by omega)).all
  have fr := ((unhide HQ).below (unhide HX) (by omega)).frozen
  go_wp2_with fail
  refine bodyPost_ret (v := .tuple #[AnV (ansC 0), .iface 105 (.agg #[.int .i64 cd])]) (by simp [results, Tryz.results35, go_sem, zr, r0, r1, r2, r3, r4, r5, r6, r7, r8, r9, r10, r11, ansC]) rfl ?_
  rw [(unhide HRES).1, (unhide HRES).2]
  obtain ⟨m, d⟩ := fin12 rfl (ansC 0) (unhide HB) (unhide HO) (by omega) hz ((unhide HM).below (unhide HX)) (Dst.of_below (unhide HX))
  exact ⟨ansC 0, cd, by rw [errV_ne (unhide HC)], ⟨fun e => absurd e (unhide HC), fun _ => rfl⟩, _, _, _, m, d⟩
set_option maxRecDepth 100000 in
set_option maxHeartbeats 8000000 in
theorem try_full1 (c B : Nat) (vT vS : Value) (U : Nat → Value) (D : Ds) (a : Ac) (w : World) (hD : DeskM 55 w c B vT vS U D) (hG : D.Good) (hc : chk a D.nt D.ns = 0) (hop : a.op = 1) (hf : D.nt = 100) :
    TrySays c B vT vS U D a w := by
  have HRES : Hid (D.ans a = ansC 5 ∧ D.step a = D) := hide (by
    unfold Ds.ans Ds.step; rw [if_pos hc, if_pos hc]
    simp [Ds.ansOf, Ds.nextC, hop, hf])
  have HC := hide hc
  have HF := hide hf
  have d1 : (a.op == 1) = true := by simp [hop]
  have d7 : (a.op == 7) = false := by simp [hop]
  have d2 : (a.op == 2) = false := by simp [hop]
  have d9 : (a.op == 9) = false := by simp [hop]
  clear hc hop hf
  obtain ⟨ta, tc, rfl⟩ := own_slice hD.tb
  obtain ⟨sa, sc, rfl⟩ := own_slice hD.st
  have hnt := hG.nt
  have hns := hG.ns
  obtain ⟨W, hW, hb0, hA, hR, hz⟩ := boxes w a
  have HO : Hid (∀ k, OwnD c (.slice ta D.nt tc) (.slice sa D.ns sc) U D.nt k → k < w.heap.size) := hide (fun k h => (hD.rng h).2)
  have hcl := hD.lt
  have HM := hide (hD.below hb0)
  have hcW := (unhide HM).lt
  obtain ⟨c0, c1⟩ := (unhide HM).cells
  obtain ⟨a0, a1, a2, a3, a4, a5, a6, a7, a8, a9, a10, a11, a12, a13⟩ := hA.all
  have zaW := hA.lt
  have HB := hide hb0
  have HA := hide hA
  have HQ := hide hR
  have HG := hide hG
  clear hD hb0 hA hR hG
  go_enter Tryz.func35, Tryz.ntmps35
  go_wp2_with fail
  rw [← hW]
  clear hW
  refine wp_region_quiet (C := fun w' => Below W.heap.size W w') (by kernel_rfl) (by kernel_rfl) ((Below.refl _ _).drew) ?_
  show wpQuiet _ _ _ _ [_, _, _, _, _, _, _, _, _, _, _, _, _] _
  refine wpQuiet_step (fun K hK => ?_)
  go_simp
  apply Exists.intro
  refine And.intro (fun w' hw' => ?_) (hK _ ?_)
  · obtain ⟨hc', hf'⟩ := bcell hw'
    go_simp
    first | rfl | exact ⟨rfl, rfl⟩ | exact ⟨rfl⟩
  clear hK K
  refine wpQuiet_step (fun K hK => ?_)
  go_simp
  refine ⟨_, fun w' hw' => rfl, hK _ ?_⟩
  clear hK K
  refine wpQuiet_step (fun K hK => ?_)
  go_simp
  refine ⟨_, fun w' hw' => rfl, hK _ ?_⟩
  clear hK K
  refine wpQuiet_step (fun K hK => ?_)
  go_simp
  refine ⟨_, fun w' hw' => rfl, hK _ ?_⟩
  clear hK K
  refine wpQuiet_step (fun K hK => ?_)
  go_simp
  apply Exists.intro
  refine And.intro (fun w' hw' => ?_) (hK _ ?_)
  · obtain ⟨hc', hf'⟩ := bcell hw'
    go_simp
    first | rfl | exact ⟨rfl, rfl⟩ | exact ⟨rfl⟩
  clear hK K
  refine wpQuiet_step (fun K hK => ?_)
  go_simp
  refine ⟨_, fun w' hw' => rfl, hK _ ?_⟩
  clear hK K
  refine wpQuiet_step (fun K hK => ?_)
  go_simp
  refine ⟨_, fun w' hw' => rfl, hK _ ?_⟩
  clear hK K
  refine wpQuiet_step (fun K hK => ?_)
  go_simp
  refine ⟨_, fun w' hw' => rfl, hK _ ?_⟩
  clear hK K
  refine wpQuiet_step (fun K hK => ?_)
  go_simp
  refine ⟨_, fun w' hw' => rfl, hK _ ?_⟩
  clear hK K
  refine wpQuiet_step (fun K hK => ?_)
  go_simp
  apply Exists.intro
  refine And.intro (fun w' hw' => ?_) (hK _ ?_)
  · obtain ⟨hc', hf'⟩ := bcell hw'
    go_simp
    first | rfl | exact ⟨rfl, rfl⟩ | exact ⟨rfl⟩
  clear hK K
  refine wpQuiet_step (fun K hK => ?_)
  go_simp
  refine ⟨_, fun w' hw' => rfl, hK _ ?_⟩
  clear hK K
  refine wpQuiet_step (fun K hK => ?_)
  go_simp
  apply Exists.intro
  refine And.intro (fun w' hw' => ?_) (hK _ ?_)
  · refine (check_any a D.nt D.ns _ hnt hns).mono ?_
    rintro e w'' ⟨rfl, hb⟩
    exact ⟨rfl, hw'.trans (hb.mono hw'.size)⟩
  clear hK K
  refine wpQuiet_step (fun K hK => ?_)
  go_simp
  refine ⟨_, fun w' hw' => rfl, hK _ ?_⟩
  clear hK K
  refine wpQuiet_nil ?_
  intro w1 hb1
  have HX := hide hb1
  clear hb1 a0 a1 a2 a3 a4 a5 a6 a7 a8 a9 a10 a11 a12 a13 c0 c1 hcW zaW
  rw [unhide HC, show errV 0 = .nilIface from rfl]
  have zz := (unhide HX).size
  have za : w.heap.size < w1.heap.size := by omega
  have zr : w.heap.size + 1 < w1.heap.size := by omega
  obtain ⟨a0, a1, a2, a3, a4, a5, a6, a7, a8, a9, a10, a11, a12, a13⟩ := ((unhide HA).below (unhide HX) (by omega)).all
  go_wp2_with fail
  refine (addTable_full c B _ _ U D _ ((unhide HM).below (unhide HX)) (unhide HF)).mono ?_
  rintro e w2 ⟨rfl, hb2⟩
  clear zz za zr a0 a1 a2 a3 a4 a5 a6 a7 a8 a9 a10 a11 a12 a13
  have HX := hide ((unhide HX).trans (hb2.mono (unhide HX).size))
  clear hb2
  have zz := (unhide HX).size
  have za : w.heap.size < w2.heap.size := by omega
  have zr : w.heap.size + 1 < w2.heap.size := by omega
  obtain ⟨r0, r1, r2, r3, r4, r5, r6, r7, r8, r9, r10, r11⟩ := ((unhide HQ).below (unhide HX) (by omega)).all
  have fr := ((unhide HQ).below (unhide HX) (by omega)).frozen
  go_wp2_with fail
  refine bodyPost_ret (v := .tuple #[AnV (ansC 0), errV 5]) (by simp [results, Tryz.results35, go_sem, zr, r0, r1, r2, r3, r4, r5, r6, r7, r8, r9, r10, r11, ansC, ansN, ansV]) rfl ?_
  rw [(unhide HRES).1, (unhide HRES).2]
  obtain ⟨m, d⟩ := fin12 rfl (ansC 0) (unhide HB) (unhide HO) (by omega) hz ((unhide HM).below (unhide HX)) (Dst.of_below (unhide HX))
  exact ⟨ansC 0, 5, rfl, ⟨fun e => absurd e (by decide), fun _ => rfl⟩, _, _, _, m, d⟩
set_option maxRecDepth 100000 in
set_option maxHeartbeats 8000000 in
theorem try_more1 (c B : Nat) (vT vS : Value) (U : Nat → Value) (D : Ds) (a : Ac) (w : World) (hD : DeskM 55 w c B vT vS U D) (hG : D.Good) (hc : chk a D.nt D.ns = 0) (hop : a.op = 1) (hf : D.nt ≠ 100) :
    TrySays c B vT vS U D a w := by
  have HRES : Hid (D.ans a = ansN D.nt ∧ D.step a = { D with nt := D.nt + 1, T := up1 D.T D.nt ⟨0, fun _ => default, 0⟩ }) := hide (by
    unfold Ds.ans Ds.step; rw [if_pos hc, if_pos hc]
    simp [Ds.ansOf, Ds.nextC, hop, hf])
  have HC := hide hc
  have HF := hide hf
  have d1 : (a.op == 1) = true := by simp [hop]
  have d7 : (a.op == 7) = false := by simp [hop]
  have d2 : (a.op == 2) = false := by simp [hop]
  have d9 : (a.op == 9) = false := by simp [hop]
  clear hc hop hf
  obtain ⟨ta, tc, rfl⟩ := own_slice hD.tb
  obtain ⟨sa, sc, rfl⟩ := own_slice hD.st
  have hnt := hG.nt
  have hns := hG.ns
  obtain ⟨W, hW, hb0, hA, hR, hz⟩ := boxes w a
  have HO : Hid (∀ k, OwnD c (.slice ta D.nt tc) (.slice sa D.ns sc) U D.nt k → k < w.heap.size) := hide (fun k h => (hD.rng h).2)
  have hcl := hD.lt
  have HM := hide (hD.below hb0)
  have hcW := (unhide HM).lt
  obtain ⟨c0, c1⟩ := (unhide HM).cells
  obtain ⟨a0, a1, a2, a3, a4, a5, a6, a7, a8, a9, a10, a11, a12, a13⟩ := hA.all
  have zaW := hA.lt
  have HB := hide hb0
  have HA := hide hA
  have HQ := hide hR
  have HG := hide hG
  clear hD hb0 hA hR hG
  go_enter Tryz.func35, Tryz.ntmps35
  go_wp2_with fail
  rw [← hW]
  clear hW
  refine wp_region_quiet (C := fun w' => Below W.heap.size W w') (by kernel_rfl) (by kernel_rfl) ((Below.refl _ _).drew) ?_
  show wpQuiet _ _ _ _ [_, _, _, _, _, _, _, _, _, _, _, _, _] _
  refine wpQuiet_step (fun K hK => ?_)
  go_simp
  apply Exists.intro
  refine And.intro (fun w' hw' => ?_) (hK _ ?_)
  · obtain ⟨hc', hf'⟩ := bcell hw'
    go_simp
    first | rfl | exact ⟨rfl, rfl⟩ | exact ⟨rfl⟩
  clear hK K
  refine wpQuiet_step (fun K hK => ?_)
  go_simp
  refine ⟨_, fun w' hw' => rfl, hK _ ?_⟩
  clear hK K
  refine wpQuiet_step (fun K hK => ?_)
  go_simp
  refine ⟨_, fun w' hw' => rfl, hK _ ?_⟩
  clear hK K
  refine wpQuiet_step (fun K hK => ?_)
  go_simp
  refine ⟨_, fun w' hw' => rfl, hK _ ?_⟩
  clear hK K
  refine wpQuiet_step (fun K hK => ?_)
  go_simp
  apply Exists.intro
  refine And.intro (fun w' hw' => ?_) (hK _ ?_)
  · obtain ⟨hc', hf'⟩ := bcell hw'
    go_simp
    first | rfl | exact ⟨rfl, rfl⟩ | exact ⟨rfl⟩
  clear hK K
  refine wpQuiet_step (fun K hK => ?_)
  go_simp
  refine ⟨_, fun w' hw' => rfl, hK _ ?_⟩
  clear hK K
  refine wpQuiet_step (fun K hK => ?_)
  go_simp
  refine ⟨_, fun w' hw' => rfl, hK _ ?_⟩
  clear hK K
  refine wpQuiet_step (fun K hK => ?_)
  go_simp
  refine ⟨_, fun w' hw' => rfl, hK _ ?_⟩
  clear hK K
  refine wpQuiet_step (fun K hK => ?_)
  go_simp
  refine ⟨_, fun w' hw' => rfl, hK _ ?_⟩
  clear hK K
  refine wpQuiet_step (fun K hK => ?_)
  go_simp
  apply Exists.intro
  refine And.intro (fun w' hw' => ?_) (hK _ ?_)
  · obtain ⟨hc', hf'⟩ := bcell hw'
    go_simp
    first | rfl | exact ⟨rfl, rfl⟩ | exact ⟨rfl⟩
  clear hK K
  refine wpQuiet_step (fun K hK => ?_)
  go_simp
  refine ⟨_, fun w' hw' => rfl, hK _ ?_⟩
  clear hK K
  refine wpQuiet_step (fun K hK => ?_)
  go_simp
  apply Exists.intro
  refine And.intro (fun w' hw' => ?_) (hK _ ?_)
  · refine (check_any a D.nt D.ns _ hnt hns).mono ?_
    rintro e w'' ⟨rfl, hb⟩
    exact ⟨rfl, hw'.trans (hb.mono hw'.size)⟩
  clear hK K
  refine wpQuiet_step (fun K hK => ?_)
  go_simp
  refine ⟨_, fun w' hw' => rfl, hK _ ?_⟩
  clear hK K
  refine wpQuiet_nil ?_
  intro w1 hb1
  have HX := hide hb1
  clear hb1 a0 a1 a2 a3 a4 a5 a6 a7 a8 a9 a10 a11 a12 a13 c0 c1 hcW zaW
  have HNO : Hid (¬ OwnD c (.slice ta D.nt tc) (.slice sa D.ns sc) U D.nt (w.heap.size + 1)) := hide (fun h => by have := unhide HO _ h; omega)
  rw [unhide HC, show errV 0 = .nilIface from rfl]
  have zz := (unhide HX).size
  have za : w.heap.size < w1.heap.size := by omega
  have zr : w.heap.size + 1 < w1.heap.size := by omega
  obtain ⟨a0, a1, a2, a3, a4, a5, a6, a7, a8, a9, a10, a11, a12, a13⟩ := ((unhide HA).below (unhide HX) (by omega)).all
  go_wp2_with fail
  refine (addTable_more c B _ _ U D _ ((unhide HM).below (unhide HX)) (unhide HG) (unhide HF)).mono ?_
  rintro e w2 ⟨rfl, vT', vS', U', hM2, hD2⟩
  clear zz za zr a0 a1 a2 a3 a4 a5 a6 a7 a8 a9 a10 a11 a12 a13
  have hq := ((unhide HQ).below (unhide HX) (by omega)).dst hD2 (unhide HNO)
  obtain ⟨r0, r1, r2, r3, r4, r5, r6, r7, r8, r9, r10, r11⟩ := hq.all
  have fr := hq.frozen
  have zr := hq.lt
  have HM2 := hide hM2
  have HD2 := hide ((Dst.of_below (unhide HX)).trans hD2)
  clear hq hM2 hD2
  go_wp2_with fail
  refine bodyPost_ret (v := .tuple #[AnV (ansN D.nt), errV 0]) (by simp [results, Tryz.results35, go_sem, zr, r0, r1, r2, r3, r4, r5, r6, r7, r8, r9, r10, r11, ansC, ansN, ansV]) rfl ?_
  rw [(unhide HRES).1, (unhide HRES).2]
  obtain ⟨m, d⟩ := fin12 rfl (ansN D.nt) (unhide HB) (unhide HO) (by omega) hz (unhide HM2) (unhide HD2)
  exact ⟨ansN D.nt, 0, rfl, ⟨fun _ => rfl, fun e => absurd rfl e⟩, _, _, _, m, d⟩
set_option maxRecDepth 100000 in
set_option maxHeartbeats 8000000 in
theorem try_full7 (c B : Nat) (vT vS : Value) (U : Nat → Value) (D : Ds) (a : Ac) (w : World) (hD : DeskM 55 w c B vT vS U D) (hG : D.Good) (hc : chk a D.nt D.ns = 0) (hop : a.op = 7) (hf : D.ns = 50) :
    TrySays c B vT vS U D a w := by
  have HRES : Hid (D.ans a = ansC 5 ∧ D.step a = D) := hide (by
    unfold Ds.ans Ds.step; rw [if_pos hc, if_pos hc]
    simp [Ds.ansOf, Ds.nextC, hop, hf])
  have HC := hide hc
  have HF := hide hf
  have d1 : (a.op == 1) = false := by simp [hop]
  have d7 : (a.op == 7) = true := by simp [hop]
  have d2 : (a.op == 2) = false := by simp [hop]
  have d9 : (a.op == 9) = false := by simp [hop]
  clear hc hop hf
  obtain ⟨ta, tc, rfl⟩ := own_slice hD.tb
  obtain ⟨sa, sc, rfl⟩ := own_slice hD.st
  have hnt := hG.nt
  have hns := hG.ns
  obtain ⟨W, hW, hb0, hA, hR, hz⟩ := boxes w a
  have HO : Hid (∀ k, OwnD c (.slice ta D.nt tc) (.slice sa D.ns sc) U D.nt k → k < w.heap.size) := hide (fun k h => (hD.rng h).2)
  have hcl := hD.lt
  have HM := hide (hD.below hb0)
  have hcW := (unhide HM).lt
  obtain ⟨c0, c1⟩ := (unhide HM).cells
  obtain ⟨a0, a1, a2, a3, a4, a5, a6, a7, a8, a9, a10, a11, a12, a13⟩ := hA.all
  have zaW := hA.lt
  have HB := hide hb0
  have HA := hide hA
  have HQ := hide hR
  have HG := hide hG
  clear hD hb0 hA hR hG
  go_enter Tryz.func35, Tryz.ntmps35
  go_wp2_with fail
  rw [← hW]
  clear hW
  refine wp_region_quiet (C := fun w' => Below W.heap.size W w') (by kernel_rfl) (by kernel_rfl) ((Below.refl _ _).drew) ?_
  show wpQuiet _ _ _ _ [_, _, _, _, _, _, _, _, _, _, _, _, _] _
  refine wpQuiet_step (fun K hK => ?_)
  go_simp
  apply Exists.intro
  refine And.intro (fun w' hw' => ?_) (hK _ ?_)
  · obtain ⟨hc', hf'⟩ := bcell hw'
    go_simp
    first | rfl | exact ⟨rfl, rfl⟩ | exact ⟨rfl⟩
  clear hK K
  refine wpQuiet_step (fun K hK => ?_)
  go_simp
  refine ⟨_, fun w' hw' => rfl, hK _ ?_⟩
  clear hK K
  refine wpQuiet_step (fun K hK => ?_)
  go_simp
  refine ⟨_, fun w' hw' => rfl, hK _ ?_⟩
  clear hK K
  refine wpQuiet_step (fun K hK => ?_)
  go_simp
  refine ⟨_, fun w' hw' => rfl, hK _ ?_⟩
  clear hK K
  refine wpQuiet_step (fun K hK => ?_)
  go_simp
  apply Exists.intro
  refine And.intro (fun w' hw' => ?_) (hK _ ?_)
  · obtain ⟨hc', hf'⟩ := bcell hw'
    go_simp
    first | rfl | exact ⟨rfl, rfl⟩ | exact ⟨rfl⟩
  clear hK K
  refine wpQuiet_step (fun K hK => ?_)
  go_simp
  refine ⟨_, fun w' hw' => rfl, hK _ ?_⟩
  clear hK K
  refine wpQuiet_step (fun K hK => ?_)
  go_simp
  refine ⟨_, fun w' hw' => rfl, hK _ ?_⟩
  clear hK K
  refine wpQuiet_step (fun K hK => ?_)
  go_simp
  refine ⟨_, fun w' hw' => rfl, hK _ ?_⟩
  clear hK K
  refine wpQuiet_step (fun K hK => ?_)
  go_simp
  refine ⟨_, fun w' hw' => rfl, hK _ ?_⟩
  clear hK K
  refine wpQuiet_step (fun K hK => ?_)
  go_simp
  apply Exists.intro
  refine And.intro (fun w' hw' => ?_) (hK _ ?_)
  · obtain ⟨hc', hf'⟩ := bcell hw'
    go_simp
    first | rfl | exact ⟨rfl, rfl⟩ | exact ⟨rfl⟩
  clear hK K
  refine wpQuiet_step (fun K hK => ?_)
  go_simp
  refine ⟨_, fun w' hw' => rfl, hK _ ?_⟩
  clear hK K
  refine wpQuiet_step (fun K hK => ?_)
  go_simp
  apply Exists.intro
  refine And.intro (fun w' hw' => ?_) (hK _ ?_)
  · refine (check_any a D.nt D.ns _ hnt hns).mono ?_
    rintro e w'' ⟨rfl, hb⟩
    exact ⟨rfl, hw'.trans (hb.mono hw'.size)⟩
  clear hK K
  refine wpQuiet_step (fun K hK => ?_)
  go_simp
  refine ⟨_, fun w' hw' => rfl, hK _ ?_⟩
  clear hK K
  refine wpQuiet_nil ?_
  intro w1 hb1
  have HX := hide hb1
  clear hb1 a0 a1 a2 a3 a4 a5 a6 a7 a8 a9 a10 a11 a12 a13 c0 c1 hcW zaW
  rw [unhide HC, show errV 0 = .nilIface from rfl]
  have zz := (unhide HX).size
  have za : w.heap.size < w1.heap.size := by omega
  have zr : w.heap.size + 1 < w1.heap.size := by omega
  obtain ⟨a0, a1, a2, a3, a4, a5, a6, a7, a8, a9, a10, a11, a12, a13⟩ := ((unhide HA).below (unhide HX) (by omega)).all
  go_wp2_with fail
  refine (addSite_full c B _ _ U D a.k.str _ ((unhide HM).below (unhide HX)) (unhide HF)).mono ?_
  rintro e w2 ⟨rfl, hb2⟩
  clear zz za zr a0 a1 a2 a3 a4 a5 a6 a7 a8 a9 a10 a11 a12 a13
  have HX := hide ((unhide HX).trans (hb2.mono (unhide HX).size))
  clear hb2
  have zz := (unhide HX).size
  have za : w.heap.size < w2.heap.size := by omega
  have zr : w.heap.size + 1 < w2.heap.size := by omega
  obtain ⟨r0, r1, r2, r3, r4, r5, r6, r7, r8, r9, r10, r11⟩ := ((unhide HQ).below (unhide HX) (by omega)).all
  have fr := ((unhide HQ).below (unhide HX) (by omega)).frozen
  go_wp2_with fail
  refine bodyPost_ret (v := .tuple #[AnV (ansC 0), errV 5]) (by simp [results, Tryz.results35, go_sem, zr, r0, r1, r2, r3, r4, r5, r6, r7, r8, r9, r10, r11, ansC, ansN, ansV]) rfl ?_
  rw [(unhide HRES).1, (unhide HRES).2]
  obtain ⟨m, d⟩ := fin12 rfl (ansC 0) (unhide HB) (unhide HO) (by omega) hz ((unhide HM).below (unhide HX)) (Dst.of_below (unhide HX))
  exact ⟨ansC 0, 5, rfl, ⟨fun e => absurd e (by decide), fun _ => rfl⟩, _, _, _, m, d⟩
set_option maxRecDepth 100000 in
set_option maxHeartbeats 8000000 in
theorem try_more7 (c B : Nat) (vT vS : Value) (U : Nat → Value) (D : Ds) (a : Ac) (w : World) (hD : DeskM 55 w c B vT vS U D) (hG : D.Good) (hc : chk a D.nt D.ns = 0) (hop : a.op = 7) (hf : D.ns ≠ 50) :
    TrySays c B vT vS U D a w := by
  have HRES : Hid (D.ans a = ansN D.ns ∧ D.step a = { D with ns := D.ns + 1, S := up1 D.S D.ns a.k.str }) := hide (by
    unfold Ds.ans Ds.step; rw [if_pos hc, if_pos hc]
    simp [Ds.ansOf, Ds.nextC, hop, hf])
  have HC := hide hc
  have HF := hide hf
  have d1 : (a.op == 1) = false := by simp [hop]
  have d7 : (a.op == 7) = true := by simp [hop]
  have d2 : (a.op == 2) = false := by simp [hop]
  have d9 : (a.op == 9) = false := by simp [hop]
  clear hc hop hf
  obtain ⟨ta, tc, rfl⟩ := own_slice hD.tb
  obtain ⟨sa, sc, rfl⟩ := own_slice hD.st
  have hnt := hG.nt
  have hns := hG.ns
  obtain ⟨W, hW, hb0, hA, hR, hz⟩ := boxes w a
  have HO : Hid (∀ k, OwnD c (.slice ta D.nt tc) (.slice sa D.ns sc) U D.nt k → k < w.heap.size) := hide (fun k h => (hD.rng h).2)
  have hcl := hD.lt
  have HM := hide (hD.below hb0)
  have hcW := (unhide HM).lt
  obtain ⟨c0, c1⟩ := (unhide HM).cells
  obtain ⟨a0, a1, a2, a3, a4, a5, a6, a7, a8, a9, a10, a11, a12, a13⟩ := hA.all
  have zaW := hA.lt
  have HB := hide hb0
  have HA := hide hA
  have HQ := hide hR
  have HG := hide hG
  clear hD hb0 hA hR hG
  go_enter Tryz.func35, Tryz.ntmps35
  go_wp2_with fail
  rw [← hW]
  clear hW
  refine wp_region_quiet (C := fun w' => Below W.heap.size W w') (by kernel_rfl) (by kernel_rfl) ((Below.refl _ _).drew) ?_
  show wpQuiet _ _ _ _ [_, _, _, _, _, _, _, _, _, _, _, _, _] _
  refine wpQuiet_step (fun K hK => ?_)
  go_simp
  apply Exists.intro
  refine And.intro (fun w' hw' => ?_) (hK _ ?_)
  · obtain ⟨hc', hf'⟩ := bcell hw'
    go_simp
    first | rfl | exact ⟨rfl, rfl⟩ | exact ⟨rfl⟩
  clear hK K
  refine wpQuiet_step (fun K hK => ?_)
  go_simp
  refine ⟨_, fun w' hw' => rfl, hK _ ?_⟩
  clear hK K
  refine wpQuiet_step (fun K hK => ?_)
  go_simp
  refine ⟨_, fun w' hw' => rfl, hK _ ?_⟩
  clear hK K
  refine wpQuiet_step (fun K hK => ?_)
  go_simp
  refine ⟨_, fun w' hw' => rfl, hK _ ?_⟩
  clear hK K
  refine wpQuiet_step (fun K hK => ?_)
  go_simp
  apply Exists.intro
  refine And.intro (fun w' hw' => ?_) (hK _ ?_)
  · obtain ⟨hc', hf'⟩ := bcell hw'
    go_simp
    first | rfl | exact ⟨rfl, rfl⟩ | exact ⟨rfl⟩
  clear hK K
  refine wpQuiet_step (fun K hK => ?_)
  go_simp
  refine ⟨_, fun w' hw' => rfl, hK _ ?_⟩
  clear hK K
  refine wpQuiet_step (fun K hK => ?_)
  go_simp
  refine ⟨_, fun w' hw' => rfl, hK _ ?_⟩
  clear hK K
  refine wpQuiet_step (fun K hK => ?_)
  go_simp
  refine ⟨_, fun w' hw' => rfl, hK _ ?_⟩
  clear hK K
  refine wpQuiet_step (fun K hK => ?_)
  go_simp
  refine ⟨_, fun w' hw' => rfl, hK _ ?_⟩
  clear hK K
  refine wpQuiet_step (fun K hK => ?_)
  go_simp
  apply Exists.intro
  refine And.intro (fun w' hw' => ?_) (hK _ ?_)
  · obtain ⟨hc', hf'⟩ := bcell hw'
    go_simp
    first | rfl | exact ⟨rfl, rfl⟩ | exact ⟨rfl⟩
  clear hK K
  refine wpQuiet_step (fun K hK => ?_)
  go_simp
  refine ⟨_, fun w' hw' => rfl, hK _ ?_⟩
  clear hK K
  refine wpQuiet_step (fun K hK => ?_)
  go_simp
  apply Exists.intro
  refine And.intro (fun w' hw' => ?_) (hK _ ?_)
  · refine (check_any a D.nt D.ns _ hnt hns).mono ?_
    rintro e w'' ⟨rfl, hb⟩
    exact ⟨rfl, hw'.trans (hb.mono hw'.size)⟩
  clear hK K
  refine wpQuiet_step (fun K hK => ?_)
  go_simp
  refine ⟨_, fun w' hw' => rfl, hK _ ?_⟩
  clear hK K
  refine wpQuiet_nil ?_
  intro w1 hb1
  have HX := hide hb1
  clear hb1 a0 a1 a2 a3 a4 a5 a6 a7 a8 a9 a10 a11 a12 a13 c0 c1 hcW zaW
  have HNO : Hid (¬ OwnD c (.slice ta D.nt tc) (.slice sa D.ns sc) U D.nt (w.heap.size + 1)) := hide (fun h => by have := unhide HO _ h; omega)
  rw [unhide HC, show errV 0 = .nilIface from rfl]
  have zz := (unhide HX).size
  have za : w.heap.size < w1.heap.size := by omega
  have zr : w.heap.size + 1 < w1.heap.size := by omega
  obtain ⟨a0, a1, a2, a3, a4, a5, a6, a7, a8, a9, a10, a11, a12, a13⟩ := ((unhide HA).below (unhide HX) (by omega)).all
  go_wp2_with fail
  refine (addSite_more c B _ _ U D a.k.str _ ((unhide HM).below (unhide HX)) (unhide HG) (unhide HF)).mono ?_
  rintro e w2 ⟨rfl, vT', vS', U', hM2, hD2⟩
  clear zz za zr a0 a1 a2 a3 a4 a5 a6 a7 a8 a9 a10 a11 a12 a13
  have hq := ((unhide HQ).below (unhide HX) (by omega)).dst hD2 (unhide HNO)
  obtain ⟨r0, r1, r2, r3, r4, r5, r6, r7, r8, r9, r10, r11⟩ := hq.all
  have fr := hq.frozen
  have zr := hq.lt
  have HM2 := hide hM2
  have HD2 := hide ((Dst.of_below (unhide HX)).trans hD2)
  clear hq hM2 hD2
  go_wp2_with fail
  refine bodyPost_ret (v := .tuple #[AnV (ansN D.ns), errV 0]) (by simp [results, Tryz.results35, go_sem, zr, r0, r1, r2, r3, r4, r5, r6, r7, r8, r9, r10, r11, ansC, ansN, ansV]) rfl ?_
  rw [(unhide HRES).1, (unhide HRES).2]
  obtain ⟨m, d⟩ := fin12 rfl (ansN D.ns) (unhide HB) (unhide HO) (by omega) hz (unhide HM2) (unhide HD2)
  exact ⟨ansN D.ns, 0, rfl, ⟨fun _ => rfl, fun e => absurd rfl e⟩, _, _, _, m, d⟩
end Go.Proofs.YtnjgebncghdajaaGreatDoor
