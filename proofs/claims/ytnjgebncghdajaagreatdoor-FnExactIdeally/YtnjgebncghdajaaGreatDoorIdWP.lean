/-
  IdW.
-/
import Derived.Test.YtnjgebncghdajaaGreatDoorIdRP
import Derived.Test.YtnjgebncghdajaaGreatDoorIdKP
import Derived.Test.YtnjgebncghdajaaGreatDoorBi3
import Derived.Test.YtnjgebncghdajaaGreatDoorAcBP
import Derived.Deep.QuietTactic
import Derived.BigQuiet
import Derived.Test.YtnjgebncghdajaaGreatDoorIdSP
import Derived.Test.YtnjgebncghdajaaGreatDoorBi7
namespace Go.Proofs.YtnjgebncghdajaaGreatDoor
open Go.RowKit
set_option linter.unusedVariables false
set_option linter.unusedSimpArgs false
attribute [local go_sem] run_store_float run_equalIn_float

set_option maxRecDepth 100000 in
set_option maxHeartbeats 8000000 in
theorem do_new (c B : Nat) (vT vS : Value) (U : Nat → Value) (D : Ds) (a : Ac) (w : World) (hD : DeskM 45 w c B vT vS U D) (hG : D.Good) (hact : actB a = true) (hop : a.op = 1) (hf : D.nt ≠ 100) : DoSays c B vT vS U D a w := by
  have hT : tabB a.op = false := by rw [hop]; decide
  have hS : sitB a.op = false := by rw [hop]; decide
  have HRES : Hid (D.ans a = ansN D.nt ∧ D.step a = { D with nt := D.nt + 1, T := up1 D.T D.nt ⟨0, fun _ => default, 0⟩ }) := hide (by
    have h0 : chk a D.nt D.ns = 0 := by simp [chk, hact, tabB, sitB, hop]
    simp [Ds.ans, Ds.step, h0, Ds.ansOf, Ds.nextC, hop, hf])
  have e5 : ((D.nt : Int) == 100) = false := by simp; omega
  have d1 : (a.op == 1) = true := by simp [hop]
  have d2 : (a.op == 2) = false := by simp [hop]
  have d3 : (a.op == 3) = false := by simp [hop]
  have d7 : (a.op == 7) = false := by simp [hop]
  have d8 : (a.op == 8) = false := by simp [hop]
  have d9 : (a.op == 9) = false := by simp [hop]
  have HOP := hide hop
  clear hop
  obtain ⟨kc, ekc⟩ : ∃ kc, kcode a.k = kc := ⟨_, rfl⟩
  obtain ⟨kv, ekv⟩ : ∃ kv, kval a.k = kv := ⟨_, rfl⟩
  have EKC := hide ekc
  have EKV := hide ekv
  clear ekc ekv
  clear hf
  obtain ⟨ta, tc, rfl⟩ := own_slice hD.tb
  obtain ⟨sa, sc, rfl⟩ := own_slice hD.st
  have hnt := hG.nt
  have hns := hG.ns
  obtain ⟨W, hW, hb0, hA, hR, hz⟩ := boxes w a
  have HO : Hid (∀ k, OwnD c (.slice ta D.nt tc) (.slice sa D.ns sc) U D.nt k → k < w.heap.size) := hide (fun k h => (hD.rng h).2)
  have hcl := hD.lt
  have HM := hide (hD.below hb0)
  have HB := hide hb0
  have HA := hide hA
  have HQ := hide hR
  have HG := hide hG
  clear hD hb0 hA hR hG
  go_enter Tryz.func14, Tryz.ntmps14
  go_wp2_with fail
  rw [← hW]
  clear hW
  refine (specActOk a _).mono ?_
  rw [hact]
  rintro e w1 ⟨rfl, hb1⟩
  have HX := hide hb1
  clear hb1
  have HNO : Hid (¬ OwnD c (.slice ta D.nt tc) (.slice sa D.ns sc) U D.nt (w.heap.size + 1)) := hide (fun h => by have := unhide HO _ h; omega)
  have zz := (unhide HX).size
  have za : w.heap.size < w1.heap.size := by omega
  have zr : w.heap.size + 1 < w1.heap.size := by omega
  have zc : c < w1.heap.size := by omega
  obtain ⟨a0, a1, a2, a3, a4, a5, a6, a7, a8, a9, a10, a11, a12, a13⟩ := ((unhide HA).below (unhide HX) (by omega)).all
  obtain ⟨c0, c1⟩ := ((unhide HM).below (unhide HX)).cells
  go_wp2_with fail
  refine (l4wants_any a.op _).mono ?_
  rw [hT, hS]
  rintro e w2 ⟨rfl, ew⟩
  rw [ew]
  clear ew w2
  go_wp2_with fail
  refine wp_region_quiet (C := fun w' => Below w1.heap.size w1 w') (by kernel_rfl) (by kernel_rfl) ((Below.refl _ _).drew) ?_
  show wpQuiet _ _ _ _ [_, _, _, _, _, _, _, _, _, _, _] _
  refine wpQuiet_step (fun K hK => ?_)
  go_simp
  refine ⟨_, fun w' hw' => rfl, hK _ ?_⟩
  clear hK K
  refine wpQuiet_step (fun K hK => ?_)
  go_simp
  refine ⟨_, fun w' hw' => rfl, hK _ ?_⟩
  clear hK K
  go_big_quiet_step (fail)
  go_big_quiet_step (fail)
  go_big_quiet_step (fail)
  go_big_quiet_step (fail)
  go_big_quiet_step (fail)
  go_big_quiet_step (fail)
  go_big_quiet_step (fail)
  go_big_quiet_step (fail)
  refine wpQuiet_step (fun K hK => ?_)
  go_simp
  refine ⟨_, fun w' hw' => rfl, hK _ ?_⟩
  clear hK K
  refine wpQuiet_nil ?_
  intro w2 hbn
  clear zz za zr zc a0 a1 a2 a3 a4 a5 a6 a7 a8 a9 a10 a11 a12 a13 c0 c1
  have HX := hide ((unhide HX).trans (hbn.mono (unhide HX).size))
  clear hbn
  have zz := (unhide HX).size
  have za : w.heap.size < w2.heap.size := by omega
  have zr : w.heap.size + 1 < w2.heap.size := by omega
  have zc : c < w2.heap.size := by omega
  obtain ⟨a0, a1, a2, a3, a4, a5, a6, a7, a8, a9, a10, a11, a12, a13⟩ := ((unhide HA).below (unhide HX) (by omega)).all
  obtain ⟨c0, c1⟩ := ((unhide HM).below (unhide HX)).cells
  go_wp2_with fail
  refine wp_region_quiet (C := fun w' => Below w2.heap.size w2 w') (by kernel_rfl) (by kernel_rfl) ((Below.refl _ _).drew) ?_
  show wpQuiet _ _ _ _ [_, _, _, _, _, _, _, _, _, _, _] _
  refine wpQuiet_step (fun K hK => ?_)
  go_simp
  refine ⟨_, fun w' hw' => rfl, hK _ ?_⟩
  clear hK K
  refine wpQuiet_step (fun K hK => ?_)
  go_simp
  refine ⟨_, fun w' hw' => rfl, hK _ ?_⟩
  clear hK K
  go_big_quiet_step (fail)
  go_big_quiet_step (fail)
  go_big_quiet_step (fail)
  go_big_quiet_step (fail)
  go_big_quiet_step (fail)
  go_big_quiet_step (fail)
  go_big_quiet_step (fail)
  go_big_quiet_step (fail)
  refine wpQuiet_step (fun K hK => ?_)
  go_simp
  refine ⟨_, fun w' hw' => rfl, hK _ ?_⟩
  clear hK K
  refine wpQuiet_nil ?_
  intro w3 hbn
  clear zz za zr zc a0 a1 a2 a3 a4 a5 a6 a7 a8 a9 a10 a11 a12 a13 c0 c1
  have HX := hide ((unhide HX).trans (hbn.mono (unhide HX).size))
  clear hbn
  have zz := (unhide HX).size
  have za : w.heap.size < w3.heap.size := by omega
  have zr : w.heap.size + 1 < w3.heap.size := by omega
  have zc : c < w3.heap.size := by omega
  obtain ⟨a0, a1, a2, a3, a4, a5, a6, a7, a8, a9, a10, a11, a12, a13⟩ := ((unhide HA).below (unhide HX) (by omega)).all
  obtain ⟨c0, c1⟩ := ((unhide HM).below (unhide HX)).cells
  go_wp2_with fail
  refine (skey_any a.k.kind a.k.num a.k.flt a.k.str a.k.ref _).mono ?_
  rw [keyV_parts, unhide EKC, unhide EKV]
  rintro e w4 ⟨rfl, hb4⟩
  clear zz za zr zc a0 a1 a2 a3 a4 a5 a6 a7 a8 a9 a10 a11 a12 a13 c0 c1
  have HX := hide ((unhide HX).trans (hb4.mono (unhide HX).size))
  clear hb4
  have zz := (unhide HX).size
  have za : w.heap.size < w4.heap.size := by omega
  have zr : w.heap.size + 1 < w4.heap.size := by omega
  have zc : c < w4.heap.size := by omega
  obtain ⟨a0, a1, a2, a3, a4, a5, a6, a7, a8, a9, a10, a11, a12, a13⟩ := ((unhide HA).below (unhide HX) (by omega)).all
  obtain ⟨c0, c1⟩ := ((unhide HM).below (unhide HX)).cells
  obtain ⟨i0, hi0, hz0, hz1, hz2⟩ := info_parts infoPlain
  have hbX : Below W.heap.size W ((w4.alloc (.cells #[.int .i64 kc, .int .i64 kv.kind, .int .i64 kv.num, .float .f64 kv.flt, .string kv.str, .int .i64 kv.ref] 68)).alloc (.cells #[.slice none 0 0, .int .i64 0] 72)) := ((unhide HX).alloc (unhide HX).size _).alloc (by have := (unhide HX).size; simp; omega) _
  have HOW := hide (World.ownsRow.alloc (World.ownsRow.alloc ((unhide HM).below (unhide HX)).tb (.cells #[.int .i64 kc, .int .i64 kv.kind, .int .i64 kv.num, .float .f64 kv.flt, .string kv.str, .int .i64 kv.ref] 68)) (.cells #[.slice none 0 0, .int .i64 0] 72))
  have HBW := hide ((unhide HM).base)
  have hBc : B ≤ w4.heap.size + 1 + 1 := by have := unhide HBW; omega
  have HF : Hid (∀ g3 cp3 w3, w3.ownsRow B 72 2 (.slice (some ⟨g3, 0, none⟩) (D.nt + 1) cp3) (D.nt + 1) (tL U D.T D.nt ++ [.slice none 0 0, .int .i64 0]) → ((w4.alloc (.cells #[.int .i64 kc, .int .i64 kv.kind, .int .i64 kv.num, .float .f64 kv.flt, .string kv.str, .int .i64 kv.ref] 68)).alloc (.cells #[.slice none 0 0, .int .i64 0] 72)).grownBy w3 (Value.slice ta D.nt tc).ownBlock → ((Value.slice ta D.nt tc).ownBlock = some g3 ∨ g3 = w4.heap.size + 1 + 1) →
      w3.cell? ⟨c, 0, none⟩ = some (.slice ta D.nt tc) ∧ w3.frozen? ⟨c, 0, none⟩ = false ∧ c < w3.heap.size ∧ RBx w3 (w.heap.size + 1) ∧ DeskM 45 (w3.setCell ⟨c, 0, none⟩ (.slice (some ⟨g3, 0, none⟩) (D.nt + 1) cp3)) c B (.slice (some ⟨g3, 0, none⟩) (D.nt + 1) cp3) (.slice sa D.ns sc) (up1 U D.nt (.slice none 0 0)) { D with nt := D.nt + 1, T := up1 D.T D.nt ⟨0, fun _ => default, 0⟩ } ∧ Dst (OwnD c (.slice ta D.nt tc) (.slice sa D.ns sc) U D.nt) W (OwnD c (.slice (some ⟨g3, 0, none⟩) (D.nt + 1) cp3) (.slice sa D.ns sc) (up1 U D.nt (.slice none 0 0)) (D.nt + 1)) (w3.setCell ⟨c, 0, none⟩ (.slice (some ⟨g3, 0, none⟩) (D.nt + 1) cp3))) := hide (fun g3 cp3 w3 h1 h2 h3 => by
    obtain ⟨k1, k2, k3⟩ := (unhide HM).moreT hbX h2 h1 (h3.imp id (fun e => by omega))
    refine ⟨by rw [cell_of_row w3 c 0 _ _ _ k1]; rfl, by simp [World.frozen?, k1], blk_lt k1, ?_, k2, k3⟩
    have hq := (unhide HQ).below hbX (by omega)
    exact (h2.block _ hq.lt (fun e => unhide HNO (.inr (.inl e.symm)))).trans hq)
  have hne : w.heap.size + 1 ≠ c := by omega
  have hne' : c ≠ w.heap.size + 1 := by omega
  clear hbX
  go_wp2_with (first | (at_builtin; refine wpList_append_lies _ rfl _ _ 25 rfl B 72 i0 PlZ 2 32 Tryz.underlying25 hi0 hz0 hz1 hz2 rfl (by decide) (.slice ta D.nt tc) D.nt (tL U D.T D.nt) rfl (unhide HOW) ⟨w4.heap.size + 1, 0, none⟩ 1 1 [.slice none 0 0, .int .i64 0] rfl rfl (news_after1 w4 _ [.slice none 0 0, .int .i64 0] _) (by simp [Value.oneCell']) (by decide) (by unfold maxLen; omega) (by omega) (by simp; omega) (w4.heap.size + 1 + 1) (by simp) ?_; intro g3 cp3 w3 hown3 hgr3 hloc3 hlt3; obtain ⟨x0, x1, x2, x3, hM3, hD3⟩ := unhide HF g3 cp3 w3 hown3 hgr3 hloc3; have HM3 := hide hM3; have HD3 := hide hD3; obtain ⟨r0, r1, r2, r3, r4, r5, r6, r7, r8, r9, r10, r11⟩ := x3.all; have fr := x3.frozen; have zr3 := x3.lt; clear hown3 hgr3 hM3 hD3 x3 c0 c1) | go_in)
  refine bodyPost_ret (v := AnV (ansN D.nt)) (by simp [results, Tryz.results14, go_sem, zr3, hne, hne', r0, r1, r2, r3, r4, r5, r6, r7, r8, r9, r10, r11, ansC, ansN, ansV]) rfl ?_
  rw [(unhide HRES).1, (unhide HRES).2]
  obtain ⟨m, d⟩ := fin12 rfl (ansN D.nt) (unhide HB) (unhide HO) (by omega) hz (unhide HM3) (unhide HD3)
  exact ⟨rfl, _, _, _, m, d⟩

set_option maxRecDepth 100000 in
set_option maxHeartbeats 8000000 in
theorem do_site (c B : Nat) (vT vS : Value) (U : Nat → Value) (D : Ds) (a : Ac) (w : World) (hD : DeskM 45 w c B vT vS U D) (hG : D.Good) (hact : actB a = true) (hop : a.op = 7) (hf : D.ns ≠ 50) : DoSays c B vT vS U D a w := by
  have hT : tabB a.op = false := by rw [hop]; decide
  have hS : sitB a.op = false := by rw [hop]; decide
  have HRES : Hid (D.ans a = ansN D.ns ∧ D.step a = { D with ns := D.ns + 1, S := up1 D.S D.ns a.k.str }) := hide (by
    have h0 : chk a D.nt D.ns = 0 := by simp [chk, hact, tabB, sitB, hop]
    simp [Ds.ans, Ds.step, h0, Ds.ansOf, Ds.nextC, hop, hf])
  have e5 : ((D.ns : Int) == 50) = false := by simp; omega
  have d1 : (a.op == 1) = false := by simp [hop]
  have d2 : (a.op == 2) = false := by simp [hop]
  have d3 : (a.op == 3) = false := by simp [hop]
  have d7 : (a.op == 7) = true := by simp [hop]
  have d8 : (a.op == 8) = false := by simp [hop]
  have d9 : (a.op == 9) = false := by simp [hop]
  have HOP := hide hop
  clear hop
  obtain ⟨kc, ekc⟩ : ∃ kc, kcode a.k = kc := ⟨_, rfl⟩
  obtain ⟨kv, ekv⟩ : ∃ kv, kval a.k = kv := ⟨_, rfl⟩
  have EKC := hide ekc
  have EKV := hide ekv
  clear ekc ekv
  clear hf
  obtain ⟨ta, tc, rfl⟩ := own_slice hD.tb
  obtain ⟨sa, sc, rfl⟩ := own_slice hD.st
  have hnt := hG.nt
  have hns := hG.ns
  obtain ⟨W, hW, hb0, hA, hR, hz⟩ := boxes w a
  have HO : Hid (∀ k, OwnD c (.slice ta D.nt tc) (.slice sa D.ns sc) U D.nt k → k < w.heap.size) := hide (fun k h => (hD.rng h).2)
  have hcl := hD.lt
  have HM := hide (hD.below hb0)
  have HB := hide hb0
  have HA := hide hA
  have HQ := hide hR
  have HG := hide hG
  clear hD hb0 hA hR hG
  go_enter Tryz.func14, Tryz.ntmps14
  go_wp2_with fail
  rw [← hW]
  clear hW
  refine (specActOk a _).mono ?_
  rw [hact]
  rintro e w1 ⟨rfl, hb1⟩
  have HX := hide hb1
  clear hb1
  have HNO : Hid (¬ OwnD c (.slice ta D.nt tc) (.slice sa D.ns sc) U D.nt (w.heap.size + 1)) := hide (fun h => by have := unhide HO _ h; omega)
  have zz := (unhide HX).size
  have za : w.heap.size < w1.heap.size := by omega
  have zr : w.heap.size + 1 < w1.heap.size := by omega
  have zc : c < w1.heap.size := by omega
  obtain ⟨a0, a1, a2, a3, a4, a5, a6, a7, a8, a9, a10, a11, a12, a13⟩ := ((unhide HA).below (unhide HX) (by omega)).all
  obtain ⟨c0, c1⟩ := ((unhide HM).below (unhide HX)).cells
  go_wp2_with fail
  refine (l4wants_any a.op _).mono ?_
  rw [hT, hS]
  rintro e w2 ⟨rfl, ew⟩
  rw [ew]
  clear ew w2
  go_wp2_with fail
  refine wp_region_quiet (C := fun w' => Below w1.heap.size w1 w') (by kernel_rfl) (by kernel_rfl) ((Below.refl _ _).drew) ?_
  show wpQuiet _ _ _ _ [_, _, _, _, _, _, _, _, _, _, _] _
  refine wpQuiet_step (fun K hK => ?_)
  go_simp
  refine ⟨_, fun w' hw' => rfl, hK _ ?_⟩
  clear hK K
  refine wpQuiet_step (fun K hK => ?_)
  go_simp
  refine ⟨_, fun w' hw' => rfl, hK _ ?_⟩
  clear hK K
  go_big_quiet_step (fail)
  go_big_quiet_step (fail)
  go_big_quiet_step (fail)
  go_big_quiet_step (fail)
  go_big_quiet_step (fail)
  go_big_quiet_step (fail)
  go_big_quiet_step (fail)
  go_big_quiet_step (fail)
  refine wpQuiet_step (fun K hK => ?_)
  go_simp
  refine ⟨_, fun w' hw' => rfl, hK _ ?_⟩
  clear hK K
  refine wpQuiet_nil ?_
  intro w2 hbn
  clear zz za zr zc a0 a1 a2 a3 a4 a5 a6 a7 a8 a9 a10 a11 a12 a13 c0 c1
  have HX := hide ((unhide HX).trans (hbn.mono (unhide HX).size))
  clear hbn
  have zz := (unhide HX).size
  have za : w.heap.size < w2.heap.size := by omega
  have zr : w.heap.size + 1 < w2.heap.size := by omega
  have zc : c < w2.heap.size := by omega
  obtain ⟨a0, a1, a2, a3, a4, a5, a6, a7, a8, a9, a10, a11, a12, a13⟩ := ((unhide HA).below (unhide HX) (by omega)).all
  obtain ⟨c0, c1⟩ := ((unhide HM).below (unhide HX)).cells
  go_wp2_with fail
  refine wp_region_quiet (C := fun w' => Below w2.heap.size w2 w') (by kernel_rfl) (by kernel_rfl) ((Below.refl _ _).drew) ?_
  show wpQuiet _ _ _ _ [_, _, _, _, _, _, _, _, _, _, _] _
  refine wpQuiet_step (fun K hK => ?_)
  go_simp
  refine ⟨_, fun w' hw' => rfl, hK _ ?_⟩
  clear hK K
  refine wpQuiet_step (fun K hK => ?_)
  go_simp
  refine ⟨_, fun w' hw' => rfl, hK _ ?_⟩
  clear hK K
  go_big_quiet_step (fail)
  go_big_quiet_step (fail)
  go_big_quiet_step (fail)
  go_big_quiet_step (fail)
  go_big_quiet_step (fail)
  go_big_quiet_step (fail)
  go_big_quiet_step (fail)
  go_big_quiet_step (fail)
  refine wpQuiet_step (fun K hK => ?_)
  go_simp
  refine ⟨_, fun w' hw' => rfl, hK _ ?_⟩
  clear hK K
  refine wpQuiet_nil ?_
  intro w3 hbn
  clear zz za zr zc a0 a1 a2 a3 a4 a5 a6 a7 a8 a9 a10 a11 a12 a13 c0 c1
  have HX := hide ((unhide HX).trans (hbn.mono (unhide HX).size))
  clear hbn
  have zz := (unhide HX).size
  have za : w.heap.size < w3.heap.size := by omega
  have zr : w.heap.size + 1 < w3.heap.size := by omega
  have zc : c < w3.heap.size := by omega
  obtain ⟨a0, a1, a2, a3, a4, a5, a6, a7, a8, a9, a10, a11, a12, a13⟩ := ((unhide HA).below (unhide HX) (by omega)).all
  obtain ⟨c0, c1⟩ := ((unhide HM).below (unhide HX)).cells
  go_wp2_with fail
  refine (skey_any a.k.kind a.k.num a.k.flt a.k.str a.k.ref _).mono ?_
  rw [keyV_parts, unhide EKC, unhide EKV]
  rintro e w4 ⟨rfl, hb4⟩
  clear zz za zr zc a0 a1 a2 a3 a4 a5 a6 a7 a8 a9 a10 a11 a12 a13 c0 c1
  have HX := hide ((unhide HX).trans (hb4.mono (unhide HX).size))
  clear hb4
  have zz := (unhide HX).size
  have za : w.heap.size < w4.heap.size := by omega
  have zr : w.heap.size + 1 < w4.heap.size := by omega
  have zc : c < w4.heap.size := by omega
  obtain ⟨a0, a1, a2, a3, a4, a5, a6, a7, a8, a9, a10, a11, a12, a13⟩ := ((unhide HA).below (unhide HX) (by omega)).all
  obtain ⟨c0, c1⟩ := ((unhide HM).below (unhide HX)).cells
  obtain ⟨i0, hi0, hz0, hz1, hz2⟩ := info_parts infoStr1
  obtain ⟨X, hX⟩ : ∃ X, X = w4.alloc (.cells #[.int .i64 kc, .int .i64 kv.kind, .int .i64 kv.num, .float .f64 kv.flt, .string kv.str, .int .i64 kv.ref] 68) := ⟨_, rfl⟩
  have hb4 : Below w4.heap.size w4 X := by rw [hX]; exact (Below.refl _ _).alloc (Nat.le_refl _) _
  have HXX : Hid (Below W.heap.size W X) := hide ((unhide HX).trans (hb4.mono (unhide HX).size))
  have hbX : Below W.heap.size W (X.alloc (.cells #[.string a.k.str] 9)).drew := ((unhide HXX).alloc (unhide HXX).size _).drew
  have HOW : Hid ((X.alloc (.cells #[.string a.k.str] 9)).drew.ownsRow B 9 1 (.slice sa D.ns sc) D.ns (sL D.S D.ns)) := hide (World.ownsRow.drew (World.ownsRow.alloc ((unhide HM).below (unhide HXX)).st (.cells #[.string a.k.str] 9)))
  have zX := (unhide HXX).size
  have hBc : B ≤ X.heap.size + 1 := by have := (unhide HM).base; omega
  have xk : X.cell? ⟨w.heap.size, 7, none⟩ = some (.string a.k.str) := (hb4.cell (p := ⟨w.heap.size, 7, none⟩) za).trans a7
  have xc : X.cell? ⟨c, 1, none⟩ = some (.slice sa D.ns sc) := (hb4.cell (p := ⟨c, 1, none⟩) zc).trans c1
  have HF : Hid (∀ g3 cp3 w3, w3.ownsRow B 9 1 (.slice (some ⟨g3, 0, none⟩) (D.ns + 1) cp3) (D.ns + 1) (sL D.S D.ns ++ [.string a.k.str]) → ((X.alloc (.cells #[.string a.k.str] 9)).drew).grownBy w3 (Value.slice sa D.ns sc).ownBlock → ((Value.slice sa D.ns sc).ownBlock = some g3 ∨ g3 = X.heap.size + 1) →
      w3.cell? ⟨c, 1, none⟩ = some (.slice sa D.ns sc) ∧ w3.frozen? ⟨c, 1, none⟩ = false ∧ c < w3.heap.size ∧ RBx w3 (w.heap.size + 1) ∧ w3.cell? ⟨w.heap.size, 7, none⟩ = some (.string a.k.str) ∧ DeskM 45 (w3.setCell ⟨c, 1, none⟩ (.slice (some ⟨g3, 0, none⟩) (D.ns + 1) cp3)) c B (.slice ta D.nt tc) (.slice (some ⟨g3, 0, none⟩) (D.ns + 1) cp3) U { D with ns := D.ns + 1, S := up1 D.S D.ns a.k.str } ∧ Dst (OwnD c (.slice ta D.nt tc) (.slice sa D.ns sc) U D.nt) W (OwnD c (.slice ta D.nt tc) (.slice (some ⟨g3, 0, none⟩) (D.ns + 1) cp3) U D.nt) (w3.setCell ⟨c, 1, none⟩ (.slice (some ⟨g3, 0, none⟩) (D.ns + 1) cp3))) := hide (fun g3 cp3 w3 h1 h2 h3 => by
    obtain ⟨k1, k2, k3⟩ := (unhide HM).moreS a.k.str hbX h2 h1 (h3.imp id (fun e => by omega))
    have hq := (unhide HQ).below hbX (by omega)
    have hA := (unhide HA).below hbX (by omega)
    refine ⟨by rw [cell_of_row w3 c 1 _ _ _ k1]; rfl, by simp [World.frozen?, k1], blk_lt k1, ?_, ?_, k2, k3⟩
    · exact (h2.block _ hq.lt (fun e => unhide HNO (.inr (.inr (.inl e.symm))))).trans hq
    · have hA3 : ABx w3 w.heap.size a := (h2.block _ hA.lt (fun e => by have := unhide HO w.heap.size (.inr (.inr (.inl e.symm))); omega)).trans hA
      exact hA3.all.2.2.2.2.2.2.2.1)
  have hne : w.heap.size + 1 ≠ c := by omega
  have hne' : c ≠ w.heap.size + 1 := by omega
  have hneA : c ≠ w.heap.size := by omega
  have zcX : c < X.heap.size := by omega
  have zaX : w.heap.size < X.heap.size := by omega
  go_wp2_with fail
  rw [← hX]
  clear zz za zr zc a0 a1 a2 a3 a4 a5 a6 a7 a8 a9 a10 a11 a12 a13 c0 c1
  clear hX hbX hb4
  refine wpN_held (fun W' => W'.cell? ⟨w.heap.size, 7, none⟩ = some (.string a.k.str)) (by kernel_rfl) ?_
  change wpAnyH _ _ _ _ _ _ _ _ (World.drew _)
  have hS0 : X.drew.cell? ⟨w.heap.size, 7, none⟩ = some (.string a.k.str) := xk
  refine tk 0 (v := ?_) rfl (by kernel_rfl) (by rfl) ?_ (by assumption) ?_
  rotate_left
  · intro w' s0; go_simp; first | done | with_reducible rfl
  (try simp only [Act.put]); (try simp only [List.setIfInBounds_toArray]); (try simp only [List.set_cons_succ]); try simp only [List.set_cons_zero]
  refine tk 1 (v := ?_) rfl (by kernel_rfl) (by rfl) ?_ (by assumption) ?_
  rotate_left
  · intro w' s0; go_simp; first | done | with_reducible rfl
  (try simp only [Act.put]); (try simp only [List.setIfInBounds_toArray]); (try simp only [List.set_cons_succ]); try simp only [List.set_cons_zero]
  refine tk 2 (v := ?_) rfl (by kernel_rfl) (by rfl) ?_ (by assumption) ?_
  rotate_left
  · intro w' s0; go_simp; first | done | with_reducible rfl
  (try simp only [Act.put]); (try simp only [List.setIfInBounds_toArray]); (try simp only [List.set_cons_succ]); try simp only [List.set_cons_zero]
  refine tk 3 (v := ?_) rfl (by kernel_rfl) (by rfl) ?_ (by assumption) ?_
  rotate_left
  · intro w' s0; go_simp; first | done | with_reducible rfl
  (try simp only [Act.put]); (try simp only [List.setIfInBounds_toArray]); (try simp only [List.set_cons_succ]); try simp only [List.set_cons_zero]
  refine tk 5 (v := ?_) rfl (by kernel_rfl) (by rfl) ?_ (by assumption) ?_
  rotate_left
  · intro w' s0; go_simp; first | done | with_reducible rfl
  (try simp only [Act.put]); (try simp only [List.setIfInBounds_toArray]); (try simp only [List.set_cons_succ]); try simp only [List.set_cons_zero]
  refine tk 6 (v := ?_) rfl (by kernel_rfl) (by rfl) ?_ (by assumption) ?_
  rotate_left
  · intro w' s0; go_simp; first | done | with_reducible rfl
  (try simp only [Act.put]); (try simp only [List.setIfInBounds_toArray]); (try simp only [List.set_cons_succ]); try simp only [List.set_cons_zero]
  refine tk 7 (v := ?_) rfl (by kernel_rfl) (by rfl) ?_ (by assumption) ?_
  rotate_left
  · intro w' s0; go_simp; first | done | with_reducible rfl
  (try simp only [Act.put]); (try simp only [List.setIfInBounds_toArray]); (try simp only [List.set_cons_succ]); try simp only [List.set_cons_zero]
  refine wpAnyH_ready (rs := [4, 8]) (by kernel_rfl) (by simp) ?_
  refine AllReadyH.cons rfl (fun K hK => ?_) (AllReadyH.cons rfl (fun K hK => ?_) AllReadyH.nil)
  · go_simp
    refine hK.out _ _ hS0 (fun _ => ?_)
    clear hK K
    refine wpAnyH_ready (rs := [8]) (by kernel_rfl) (by simp) ?_
    refine AllReadyH.cons rfl (fun K hK => ?_) AllReadyH.nil
    go_simp
    refine hK.out _ _ (by simp [go_sem, zaX, xk]) (fun _ => ?_)
    clear hK K
    refine wpAnyH_ready (rs := [9]) (by kernel_rfl) (by simp) ?_
    refine AllReadyH.cons rfl (fun K hK => ?_) AllReadyH.nil
    refine step_append_lies _ rfl (.tmp 100) (.tmp 104) 43 rfl B 9 i0 (.string ⟨#[]⟩) 1 16 Tryz.underlying43 hi0 hz0 hz1 hz2 rfl (by decide) (.slice sa D.ns sc) D.ns (sL D.S D.ns) (by simp [Act.eval]) (unhide HOW) ⟨X.heap.size, 0, none⟩ 1 1 [.string a.k.str] (by simp [Act.eval]) rfl (World.news_of_block (w := (X.alloc (.cells #[.string a.k.str] 9)).drew) (Deep.blk_alloc_new X _)) (by simp [Value.oneCell']) (by decide) (by unfold maxLen; omega) (by omega) (by simp; omega) (X.heap.size + 1) (by simp) ?_
    intro g3 cp3 w3 hown3 hgr3 hloc3 hlt3
    obtain ⟨x0, x1, x2, x3, x4, hM3, hD3⟩ := unhide HF g3 cp3 w3 hown3 hgr3 hloc3
    have HM3 := hide hM3
    have HD3 := hide hD3
    clear hown3 hgr3 hM3 hD3
    refine hK.out _ _ x4 (fun _ => ?_)
    clear hK K
    refine tk 10 (v := ?_) rfl (by kernel_rfl) (by rfl) ?_ (by assumption) ?_
    rotate_left
    · intro w' s0; go_simp; first | done | with_reducible rfl
    (try simp only [Act.put]); (try simp only [List.setIfInBounds_toArray]); (try simp only [List.set_cons_succ]); try simp only [List.set_cons_zero]
    refine tk 11 (v := ?_) rfl (by kernel_rfl) (by rfl) ?_ (by assumption) ?_
    rotate_left
    · intro w' s0; go_simp; first | done | with_reducible rfl
    (try simp only [Act.put]); (try simp only [List.setIfInBounds_toArray]); (try simp only [List.set_cons_succ]); try simp only [List.set_cons_zero]
    refine wpAnyH_ready (rs := [12]) (by kernel_rfl) (by simp) ?_
    refine AllReadyH.cons rfl (fun K hK => ?_) AllReadyH.nil
    go_simp
    refine hK.out _ _ ?_ (fun _ => ?_)
    · exact (World.cell?_setCell_far _ _ _ _ (by exact hneA)).trans x4
    clear hK K
    refine wpAnyH_done (by kernel_rfl) ?_ _
    refine QN.normal ?_
    obtain ⟨r0, r1, r2, r3, r4, r5, r6, r7, r8, r9, r10, r11⟩ := x3.all
    have fr := x3.frozen
    have zr3 := x3.lt
    clear x3 x4
    go_wp2_with fail
    refine bodyPost_ret (v := AnV (ansN D.ns)) (by simp [results, Tryz.results14, go_sem, zr3, hne, hne', r0, r1, r2, r3, r4, r5, r6, r7, r8, r9, r10, r11, ansC, ansN, ansV]) rfl ?_
    rw [(unhide HRES).1, (unhide HRES).2]
    obtain ⟨m, d⟩ := fin12 rfl (ansN D.ns) (unhide HB) (unhide HO) (by omega) hz (unhide HM3) (unhide HD3)
    exact ⟨rfl, _, _, _, m, d⟩
  · go_simp
    refine hK.out _ _ (by simp [go_sem, zaX, xk]) (fun hS1 => ?_)
    clear hK K
    have xY : (X.alloc (.cells #[.string a.k.str] 9)).cell? ⟨c, 1, none⟩ = some (.slice sa D.ns sc) := by simp [go_sem, zcX, xc]
    refine wpAnyH_ready (rs := [4]) (by kernel_rfl) (by simp) ?_
    refine AllReadyH.cons rfl (fun K hK => ?_) AllReadyH.nil
    go_simp
    refine hK.out _ _ hS1 (fun _ => ?_)
    clear hK K
    refine wpAnyH_ready (rs := [9]) (by kernel_rfl) (by simp) ?_
    refine AllReadyH.cons rfl (fun K hK => ?_) AllReadyH.nil
    refine step_append_lies _ rfl (.tmp 100) (.tmp 104) 43 rfl B 9 i0 (.string ⟨#[]⟩) 1 16 Tryz.underlying43 hi0 hz0 hz1 hz2 rfl (by decide) (.slice sa D.ns sc) D.ns (sL D.S D.ns) (by simp [Act.eval]) (unhide HOW) ⟨X.heap.size, 0, none⟩ 1 1 [.string a.k.str] (by simp [Act.eval]) rfl (World.news_of_block (w := (X.alloc (.cells #[.string a.k.str] 9)).drew) (Deep.blk_alloc_new X _)) (by simp [Value.oneCell']) (by decide) (by unfold maxLen; omega) (by omega) (by simp; omega) (X.heap.size + 1) (by simp) ?_
    intro g3 cp3 w3 hown3 hgr3 hloc3 hlt3
    obtain ⟨x0, x1, x2, x3, x4, hM3, hD3⟩ := unhide HF g3 cp3 w3 hown3 hgr3 hloc3
    have HM3 := hide hM3
    have HD3 := hide hD3
    clear hown3 hgr3 hM3 hD3
    refine hK.out _ _ x4 (fun _ => ?_)
    clear hK K
    refine tk 10 (v := ?_) rfl (by kernel_rfl) (by rfl) ?_ (by assumption) ?_
    rotate_left
    · intro w' s0; go_simp; first | done | with_reducible rfl
    (try simp only [Act.put]); (try simp only [List.setIfInBounds_toArray]); (try simp only [List.set_cons_succ]); try simp only [List.set_cons_zero]
    refine tk 11 (v := ?_) rfl (by kernel_rfl) (by rfl) ?_ (by assumption) ?_
    rotate_left
    · intro w' s0; go_simp; first | done | with_reducible rfl
    (try simp only [Act.put]); (try simp only [List.setIfInBounds_toArray]); (try simp only [List.set_cons_succ]); try simp only [List.set_cons_zero]
    refine wpAnyH_ready (rs := [12]) (by kernel_rfl) (by simp) ?_
    refine AllReadyH.cons rfl (fun K hK => ?_) AllReadyH.nil
    go_simp
    refine hK.out _ _ ?_ (fun _ => ?_)
    · exact (World.cell?_setCell_far _ _ _ _ (by exact hneA)).trans x4
    clear hK K
    refine wpAnyH_done (by kernel_rfl) ?_ _
    refine QN.normal ?_
    obtain ⟨r0, r1, r2, r3, r4, r5, r6, r7, r8, r9, r10, r11⟩ := x3.all
    have fr := x3.frozen
    have zr3 := x3.lt
    clear x3 x4
    go_wp2_with fail
    refine bodyPost_ret (v := AnV (ansN D.ns)) (by simp [results, Tryz.results14, go_sem, zr3, hne, hne', r0, r1, r2, r3, r4, r5, r6, r7, r8, r9, r10, r11, ansC, ansN, ansV]) rfl ?_
    rw [(unhide HRES).1, (unhide HRES).2]
    obtain ⟨m, d⟩ := fin12 rfl (ansN D.ns) (unhide HB) (unhide HO) (by omega) hz (unhide HM3) (unhide HD3)
    exact ⟨rfl, _, _, _, m, d⟩

end Go.Proofs.YtnjgebncghdajaaGreatDoor
