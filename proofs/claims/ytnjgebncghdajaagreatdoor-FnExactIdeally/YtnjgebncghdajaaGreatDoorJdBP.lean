/-
  JdB.
-/
import Derived.Test.YtnjgebncghdajaaGreatDoorJdAP
import Derived.Test.YtnjgebncghdajaaGreatDoorIdZP
import Derived.Test.YtnjgebncghdajaaGreatDoorBi3
import Derived.Test.YtnjgebncghdajaaGreatDoorBi11
import Derived.Deep.QuietTactic
import Derived.BigQuiet
namespace Go.Proofs.YtnjgebncghdajaaGreatDoor
open Go.RowKit
set_option linter.unusedVariables false
set_option linter.unusedSimpArgs false
attribute [local go_sem] run_store_float run_equalIn_float

set_option maxRecDepth 100000 in
set_option maxHeartbeats 8000000 in
theorem read_get3 (c B : Nat) (vT vS : Value) (U : Nat → Value) (D : Ds) (a : Ac) (w : World) (hD : DeskM 55 w c B vT vS U D) (hG : D.Good) (t : Nat) (et : a.t = t) (ht : t < D.nt) (hop : a.op = 3) (hs : sitB a.op = true → 0 ≤ a.site ∧ a.site < D.ns) :
    Calls Tryz.prog 54 #[.pointer (some ⟨c, 0, none⟩), AcV a] w fun e w' => e = .returned (AnV (ansV ((D.T t).get (D.keyAt a)))) ∧ Below w.heap.size w w' := by
  obtain ⟨W, hW, hb0, hA, hR, hz⟩ := boxes w a
  have hcl := hD.lt
  have HM := hide (hD.below hb0)
  have hnt := hG.nt
  obtain ⟨g, cp, ua, uc, rfl, hg, eU, g0, g1x, hPx⟩ := (unhide HM).look ht
  have hcW := (unhide HM).lt
  obtain ⟨c0, c1⟩ := (unhide HM).cells
  obtain ⟨a0, a1, a2, a3, a4, a5, a6, a7, a8, a9, a10, a11, a12, a13⟩ := hA.all
  rw [et] at a1
  have zaW := hA.lt
  have HA := hide hA
  have HQ := hide hR
  have HB := hide hb0
  have HG := hide hG
  obtain ⟨ua', uc', eUx, hT⟩ := (unhide HM).tpt ht
  have HT := hide hT
  have ET := hide et
  have d3 : (a.op == 3) = true := by simp [hop]
  have d4 : (a.op == 4) = false := by simp [hop]
  have d5 : (a.op == 5) = false := by simp [hop]
  have d6 : (a.op == 6) = false := by simp [hop]
  have d8 : (a.op == 8) = false := by simp [hop]
  clear hb0 hA hR hG hD hT et eU hop g1x hPx eUx
  go_enter Tryz.func54, Tryz.ntmps54
  go_wp2_with fail
  rw [← hW]
  clear hW
  refine wp_region_quiet (C := fun w' => Below W.heap.size W w') (by kernel_rfl) (by kernel_rfl) ((Below.refl _ _).drew) ?_
  show wpQuiet _ _ _ _ [_, _, _, _, _, _, _, _] _
  refine wpQuiet_step (fun K hK => ?_)
  go_simp
  refine ⟨_, fun w' hw' => rfl, hK _ ?_⟩
  clear hK K
  refine wpQuiet_step (fun K hK => ?_)
  go_simp
  refine ⟨_, fun w' hw' => rfl, hK _ ?_⟩
  clear hK K
  refine wpQuiet_step (fun K hK => ?_)
  go_simp
  refine ⟨_, fun w' hw' => rfl, hK _ ?_⟩
  clear hK K
  refine wpQuiet_step (fun K hK => ?_)
  go_simp
  apply Exists.intro
  refine And.intro (fun w' hw' => ?_) (hK _ ?_)
  · obtain ⟨hc', hf'⟩ := bcell hw'
    go_simp
    first | rfl | exact ⟨rfl, rfl⟩ | exact ⟨rfl⟩
  clear hK K
  refine wpQuiet_step (fun K hK => ?_)
  go_simp
  refine ⟨_, fun w' hw' => rfl, hK _ ?_⟩
  clear hK K
  refine wpQuiet_step (fun K hK => ?_)
  go_simp
  apply Exists.intro
  refine And.intro (fun w' hw' => ?_) (hK _ ?_)
  · obtain ⟨hc', hf'⟩ := bcell hw'
    go_simp
    first | rfl | exact ⟨rfl, rfl⟩ | exact ⟨rfl⟩
  clear hK K
  refine wpQuiet_step (fun K hK => ?_)
  go_simp
  refine ⟨_, fun w' hw' => rfl, hK _ ?_⟩
  clear hK K
  refine wpQuiet_step (fun K hK => ?_)
  go_simp
  refine ⟨_, fun w' hw' => rfl, hK _ ?_⟩
  clear hK K
  refine wpQuiet_nil ?_
  intro w1 hb1
  have HX := hide hb1
  clear hb1 a0 a1 a2 a3 a4 a5 a6 a7 a8 a9 a10 a11 a12 a13 c0 c1 g0 hg hcW zaW
  have zz := (unhide HX).size
  have za : w.heap.size < w1.heap.size := by omega
  have zr : w.heap.size + 1 < w1.heap.size := by omega
  obtain ⟨a0, a1, a2, a3, a4, a5, a6, a7, a8, a9, a10, a11, a12, a13⟩ := ((unhide HA).below (unhide HX) (by omega)).all
  go_wp2_with fail
  rw [← unhide ET]
  refine (keyAt_any c B _ vS U D a _ ((unhide HM).below (unhide HX)) hs).mono ?_
  rintro e w2 ⟨rfl, hb2⟩
  clear zz za zr a0 a1 a2 a3 a4 a5 a6 a7 a8 a9 a10 a11 a12 a13
  have HX := hide ((unhide HX).trans (hb2.mono (unhide HX).size))
  clear hb2
  obtain ⟨kv, hkv⟩ : ∃ kv, D.keyAt a = kv := ⟨_, rfl⟩
  rw [hkv]
  have HKV := hide hkv
  clear hkv
  go_wp2_with fail
  refine (plGet_any g (t * 2) ua' uc' (D.T t) kv _ ((unhide HT).below (unhide HX)) ((unhide HG).t t ht).n).mono ?_
  rintro e w3 ⟨rfl, hb3⟩
  have HX := hide ((unhide HX).trans (hb3.mono (unhide HX).size))
  clear hb3
  obtain ⟨x, hx⟩ : ∃ x, (D.T t).get kv = x := ⟨_, rfl⟩
  rw [hx]
  have HXX := hide hx
  clear hx
  have zz := (unhide HX).size
  have za : w.heap.size < w3.heap.size := by omega
  have zr : w.heap.size + 1 < w3.heap.size := by omega
  obtain ⟨r0, r1, r2, r3, r4, r5, r6, r7, r8, r9, r10, r11⟩ := ((unhide HQ).below (unhide HX) (by omega)).all
  have fr := ((unhide HQ).below (unhide HX) (by omega)).frozen
  go_wp2_with fail
  refine bodyPost_ret (v := AnV (ansV x)) (by simp [results, Tryz.results54, go_sem, zr, r0, r1, r2, r3, r4, r5, r6, r7, r8, r9, r10, r11, ansC, ansN, ansV]) rfl ⟨by rw [unhide HKV, unhide HXX], ?_⟩
  exact below_set12 ((unhide HB).trans ((unhide HX).mono (unhide HB).size)) _ (by omega) _ _ _ _ _ _ _ _ _ _ _ _
set_option maxRecDepth 100000 in
set_option maxHeartbeats 8000000 in
theorem read_get8 (c B : Nat) (vT vS : Value) (U : Nat → Value) (D : Ds) (a : Ac) (w : World) (hD : DeskM 55 w c B vT vS U D) (hG : D.Good) (t : Nat) (et : a.t = t) (ht : t < D.nt) (hop : a.op = 8) (hs : sitB a.op = true → 0 ≤ a.site ∧ a.site < D.ns) :
    Calls Tryz.prog 54 #[.pointer (some ⟨c, 0, none⟩), AcV a] w fun e w' => e = .returned (AnV (ansV ((D.T t).get (D.keyAt a)))) ∧ Below w.heap.size w w' := by
  obtain ⟨W, hW, hb0, hA, hR, hz⟩ := boxes w a
  have hcl := hD.lt
  have HM := hide (hD.below hb0)
  have hnt := hG.nt
  obtain ⟨g, cp, ua, uc, rfl, hg, eU, g0, g1x, hPx⟩ := (unhide HM).look ht
  have hcW := (unhide HM).lt
  obtain ⟨c0, c1⟩ := (unhide HM).cells
  obtain ⟨a0, a1, a2, a3, a4, a5, a6, a7, a8, a9, a10, a11, a12, a13⟩ := hA.all
  rw [et] at a1
  have zaW := hA.lt
  have HA := hide hA
  have HQ := hide hR
  have HB := hide hb0
  have HG := hide hG
  obtain ⟨ua', uc', eUx, hT⟩ := (unhide HM).tpt ht
  have HT := hide hT
  have ET := hide et
  have d3 : (a.op == 3) = false := by simp [hop]
  have d4 : (a.op == 4) = false := by simp [hop]
  have d5 : (a.op == 5) = false := by simp [hop]
  have d6 : (a.op == 6) = false := by simp [hop]
  have d8 : (a.op == 8) = true := by simp [hop]
  clear hb0 hA hR hG hD hT et eU hop g1x hPx eUx
  go_enter Tryz.func54, Tryz.ntmps54
  go_wp2_with fail
  rw [← hW]
  clear hW
  refine wp_region_quiet (C := fun w' => Below W.heap.size W w') (by kernel_rfl) (by kernel_rfl) ((Below.refl _ _).drew) ?_
  show wpQuiet _ _ _ _ [_, _, _, _, _, _, _, _] _
  refine wpQuiet_step (fun K hK => ?_)
  go_simp
  refine ⟨_, fun w' hw' => rfl, hK _ ?_⟩
  clear hK K
  refine wpQuiet_step (fun K hK => ?_)
  go_simp
  refine ⟨_, fun w' hw' => rfl, hK _ ?_⟩
  clear hK K
  refine wpQuiet_step (fun K hK => ?_)
  go_simp
  refine ⟨_, fun w' hw' => rfl, hK _ ?_⟩
  clear hK K
  refine wpQuiet_step (fun K hK => ?_)
  go_simp
  apply Exists.intro
  refine And.intro (fun w' hw' => ?_) (hK _ ?_)
  · obtain ⟨hc', hf'⟩ := bcell hw'
    go_simp
    first | rfl | exact ⟨rfl, rfl⟩ | exact ⟨rfl⟩
  clear hK K
  refine wpQuiet_step (fun K hK => ?_)
  go_simp
  refine ⟨_, fun w' hw' => rfl, hK _ ?_⟩
  clear hK K
  refine wpQuiet_step (fun K hK => ?_)
  go_simp
  apply Exists.intro
  refine And.intro (fun w' hw' => ?_) (hK _ ?_)
  · obtain ⟨hc', hf'⟩ := bcell hw'
    go_simp
    first | rfl | exact ⟨rfl, rfl⟩ | exact ⟨rfl⟩
  clear hK K
  refine wpQuiet_step (fun K hK => ?_)
  go_simp
  refine ⟨_, fun w' hw' => rfl, hK _ ?_⟩
  clear hK K
  refine wpQuiet_step (fun K hK => ?_)
  go_simp
  refine ⟨_, fun w' hw' => rfl, hK _ ?_⟩
  clear hK K
  refine wpQuiet_nil ?_
  intro w1 hb1
  have HX := hide hb1
  clear hb1 a0 a1 a2 a3 a4 a5 a6 a7 a8 a9 a10 a11 a12 a13 c0 c1 g0 hg hcW zaW
  have zz := (unhide HX).size
  have za : w.heap.size < w1.heap.size := by omega
  have zr : w.heap.size + 1 < w1.heap.size := by omega
  obtain ⟨a0, a1, a2, a3, a4, a5, a6, a7, a8, a9, a10, a11, a12, a13⟩ := ((unhide HA).below (unhide HX) (by omega)).all
  go_wp2_with fail
  rw [← unhide ET]
  refine (keyAt_any c B _ vS U D a _ ((unhide HM).below (unhide HX)) hs).mono ?_
  rintro e w2 ⟨rfl, hb2⟩
  clear zz za zr a0 a1 a2 a3 a4 a5 a6 a7 a8 a9 a10 a11 a12 a13
  have HX := hide ((unhide HX).trans (hb2.mono (unhide HX).size))
  clear hb2
  obtain ⟨kv, hkv⟩ : ∃ kv, D.keyAt a = kv := ⟨_, rfl⟩
  rw [hkv]
  have HKV := hide hkv
  clear hkv
  go_wp2_with fail
  refine (plGet_any g (t * 2) ua' uc' (D.T t) kv _ ((unhide HT).below (unhide HX)) ((unhide HG).t t ht).n).mono ?_
  rintro e w3 ⟨rfl, hb3⟩
  have HX := hide ((unhide HX).trans (hb3.mono (unhide HX).size))
  clear hb3
  obtain ⟨x, hx⟩ : ∃ x, (D.T t).get kv = x := ⟨_, rfl⟩
  rw [hx]
  have HXX := hide hx
  clear hx
  have zz := (unhide HX).size
  have za : w.heap.size < w3.heap.size := by omega
  have zr : w.heap.size + 1 < w3.heap.size := by omega
  obtain ⟨r0, r1, r2, r3, r4, r5, r6, r7, r8, r9, r10, r11⟩ := ((unhide HQ).below (unhide HX) (by omega)).all
  have fr := ((unhide HQ).below (unhide HX) (by omega)).frozen
  go_wp2_with fail
  refine bodyPost_ret (v := AnV (ansV x)) (by simp [results, Tryz.results54, go_sem, zr, r0, r1, r2, r3, r4, r5, r6, r7, r8, r9, r10, r11, ansC, ansN, ansV]) rfl ⟨by rw [unhide HKV, unhide HXX], ?_⟩
  exact below_set12 ((unhide HB).trans ((unhide HX).mono (unhide HB).size)) _ (by omega) _ _ _ _ _ _ _ _ _ _ _ _
def pvO (x : Pr) : Value := PV x
theorem sz_pair (w : World) : (sizeOf 95).run Tryz.prog w = .ok 11 w := by kernel_rfl
set_option maxRecDepth 100000 in
theorem st_pair (w : World) (x : Pr) : (Instr.storeAt 95 (.pointer (some ⟨w.heap.size, 0, none⟩)) (pvO x)).run Tryz.prog (w.alloc (.cells #[.int .i64 0, .int .i64 0, .float .f64 0, .string ⟨#[]⟩, .int .i64 0, .int .i64 0, .int .i64 0, .float .f64 0, .string ⟨#[]⟩, .int .i64 0, .int .i64 0] 95)) = .ok () (w.alloc (.cells #[.int .i64 x.key.kind, .int .i64 x.key.num, .float .f64 x.key.flt, .string x.key.str, .int .i64 x.key.ref, .int .i64 x.val.kind, .int .i64 x.val.num, .float .f64 x.val.flt, .string x.val.str, .int .i64 x.val.ref, .int .i64 x.turn] 95)) := by
  have h := storeCells_new (P := Tryz.prog) w 95 (prL x) [] PZL rfl (prL_one x)
  have hs := sz_pair
  unfold Instr.storeAt storeVar
  simp only [List.nil_append, List.length_nil] at h
  have hc : (pvO x).cells.toList = prL x := rfl
  have hn : (pvO x).cells.size = 11 := rfl
  simp only [Sem.run_bind]
  have hsa : ∀ w', (Instr.sureAddr (.pointer (some ⟨w.heap.size, 0, none⟩))).run Tryz.prog w' = .ok ⟨w.heap.size, 0, none⟩ w' := fun w' => by simp [go_sem]
  simp [hsa, hs, hc, hn]
  exact h

set_option maxRecDepth 100000 in
set_option maxHeartbeats 8000000 in
theorem read_after (c B : Nat) (vT vS : Value) (U : Nat → Value) (D : Ds) (a : Ac) (w : World) (hD : DeskM 55 w c B vT vS U D) (hG : D.Good) (t : Nat) (et : a.t = t) (ht : t < D.nt) (hop : a.op = 4) :
    Calls Tryz.prog 54 #[.pointer (some ⟨c, 0, none⟩), AcV a] w fun e w' => e = .returned (AnV (⟨0, ((D.T t).next a.n).turn, ((D.T t).next a.n).key, ((D.T t).next a.n).val⟩)) ∧ Below w.heap.size w w' := by
  obtain ⟨W, hW, hb0, hA, hR, hz⟩ := boxes w a
  have hcl := hD.lt
  have HM := hide (hD.below hb0)
  have hnt := hG.nt
  obtain ⟨g, cp, ua, uc, rfl, hg, eU, g0, g1x, hPx⟩ := (unhide HM).look ht
  have hcW := (unhide HM).lt
  obtain ⟨c0, c1⟩ := (unhide HM).cells
  obtain ⟨a0, a1, a2, a3, a4, a5, a6, a7, a8, a9, a10, a11, a12, a13⟩ := hA.all
  rw [et] at a1
  have zaW := hA.lt
  have HA := hide hA
  have HQ := hide hR
  have HB := hide hb0
  have HG := hide hG
  obtain ⟨ua', uc', eUx, hT⟩ := (unhide HM).tpt ht
  have HT := hide hT
  have ET := hide et
  have d3 : (a.op == 3) = false := by simp [hop]
  have d4 : (a.op == 4) = true := by simp [hop]
  have d5 : (a.op == 5) = false := by simp [hop]
  have d6 : (a.op == 6) = false := by simp [hop]
  have d8 : (a.op == 8) = false := by simp [hop]
  clear hb0 hA hR hG hD hT et eU hop g1x hPx eUx
  go_enter Tryz.func54, Tryz.ntmps54
  go_wp2_with fail
  rw [← hW]
  clear hW
  refine wp_region_quiet (C := fun w' => Below W.heap.size W w') (by kernel_rfl) (by kernel_rfl) ((Below.refl _ _).drew) ?_
  show wpQuiet _ _ _ _ [_, _, _, _, _, _, _, _] _
  refine wpQuiet_step (fun K hK => ?_)
  go_simp
  refine ⟨_, fun w' hw' => rfl, hK _ ?_⟩
  clear hK K
  refine wpQuiet_step (fun K hK => ?_)
  go_simp
  refine ⟨_, fun w' hw' => rfl, hK _ ?_⟩
  clear hK K
  refine wpQuiet_step (fun K hK => ?_)
  go_simp
  refine ⟨_, fun w' hw' => rfl, hK _ ?_⟩
  clear hK K
  refine wpQuiet_step (fun K hK => ?_)
  go_simp
  apply Exists.intro
  refine And.intro (fun w' hw' => ?_) (hK _ ?_)
  · obtain ⟨hc', hf'⟩ := bcell hw'
    go_simp
    first | rfl | exact ⟨rfl, rfl⟩ | exact ⟨rfl⟩
  clear hK K
  refine wpQuiet_step (fun K hK => ?_)
  go_simp
  refine ⟨_, fun w' hw' => rfl, hK _ ?_⟩
  clear hK K
  refine wpQuiet_step (fun K hK => ?_)
  go_simp
  apply Exists.intro
  refine And.intro (fun w' hw' => ?_) (hK _ ?_)
  · obtain ⟨hc', hf'⟩ := bcell hw'
    go_simp
    first | rfl | exact ⟨rfl, rfl⟩ | exact ⟨rfl⟩
  clear hK K
  refine wpQuiet_step (fun K hK => ?_)
  go_simp
  refine ⟨_, fun w' hw' => rfl, hK _ ?_⟩
  clear hK K
  refine wpQuiet_step (fun K hK => ?_)
  go_simp
  refine ⟨_, fun w' hw' => rfl, hK _ ?_⟩
  clear hK K
  refine wpQuiet_nil ?_
  intro w1 hb1
  have HX := hide hb1
  clear hb1 a0 a1 a2 a3 a4 a5 a6 a7 a8 a9 a10 a11 a12 a13 c0 c1 g0 hg hcW zaW
  have zz := (unhide HX).size
  have za : w.heap.size < w1.heap.size := by omega
  have zr : w.heap.size + 1 < w1.heap.size := by omega
  obtain ⟨a0, a1, a2, a3, a4, a5, a6, a7, a8, a9, a10, a11, a12, a13⟩ := ((unhide HA).below (unhide HX) (by omega)).all
  go_wp2_with fail
  refine (plAfter_any g (t * 2) ua' uc' (D.T t) a.n _ ((unhide HT).below (unhide HX)) ((unhide HG).t t ht).n).mono ?_
  rintro e w3 ⟨rfl, hb3⟩
  clear zz za zr a0 a1 a2 a3 a4 a5 a6 a7 a8 a9 a10 a11 a12 a13
  have HX := hide ((unhide HX).trans (hb3.mono (unhide HX).size))
  clear hb3
  obtain ⟨x, hx⟩ : ∃ x, (D.T t).next a.n = x := ⟨_, rfl⟩
  rw [hx, show PV x = pvO x from rfl]
  have HXX := hide hx
  clear hx
  have HF : Hid (∀ w4, w4 = w3.alloc (.cells #[.int .i64 x.key.kind, .int .i64 x.key.num, .float .f64 x.key.flt, .string x.key.str, .int .i64 x.key.ref, .int .i64 x.val.kind, .int .i64 x.val.num, .float .f64 x.val.flt, .string x.val.str, .int .i64 x.val.ref, .int .i64 x.turn] 95) → Below W.heap.size W w4 ∧ w3.heap.size < w4.heap.size ∧ w4.cell? ⟨w3.heap.size, 0, none⟩ = some (.int .i64 x.key.kind) ∧ w4.cell? ⟨w3.heap.size, 1, none⟩ = some (.int .i64 x.key.num) ∧ w4.cell? ⟨w3.heap.size, 2, none⟩ = some (.float .f64 x.key.flt) ∧ w4.cell? ⟨w3.heap.size, 3, none⟩ = some (.string x.key.str) ∧ w4.cell? ⟨w3.heap.size, 4, none⟩ = some (.int .i64 x.key.ref) ∧ w4.cell? ⟨w3.heap.size, 5, none⟩ = some (.int .i64 x.val.kind) ∧ w4.cell? ⟨w3.heap.size, 6, none⟩ = some (.int .i64 x.val.num) ∧ w4.cell? ⟨w3.heap.size, 7, none⟩ = some (.float .f64 x.val.flt) ∧ w4.cell? ⟨w3.heap.size, 8, none⟩ = some (.string x.val.str) ∧ w4.cell? ⟨w3.heap.size, 9, none⟩ = some (.int .i64 x.val.ref) ∧ w4.cell? ⟨w3.heap.size, 10, none⟩ = some (.int .i64 x.turn)) := hide (fun w4 h => by
    have hp : w4.heap[w3.heap.size]? = some (.cells #[.int .i64 x.key.kind, .int .i64 x.key.num, .float .f64 x.key.flt, .string x.key.str, .int .i64 x.key.ref, .int .i64 x.val.kind, .int .i64 x.val.num, .float .f64 x.val.flt, .string x.val.str, .int .i64 x.val.ref, .int .i64 x.turn] 95) := by rw [h]; exact Deep.blk_alloc_new _ _
    refine ⟨by rw [h]; exact (unhide HX).alloc (unhide HX).size _, blk_lt hp, ?_, ?_, ?_, ?_, ?_, ?_, ?_, ?_, ?_, ?_, ?_⟩
    all_goals (rw [cell_of_row w4 _ _ _ _ _ hp]; rfl))
  have zw : W.heap.size ≤ w3.heap.size := (unhide HX).size
  go_simp
  rename_i hKs
  refine hKs _ _ ?_
  refine wpList_plain rfl fun K hK => ?_
  go_simp
  refine hK _ _ ?_
  clear hK K
  refine wpList_store rfl rfl _ (st_pair w3 x) ?_
  generalize hw4 : w3.alloc (.cells #[.int .i64 x.key.kind, .int .i64 x.key.num, .float .f64 x.key.flt, .string x.key.str, .int .i64 x.key.ref, .int .i64 x.val.kind, .int .i64 x.val.num, .float .f64 x.val.flt, .string x.val.str, .int .i64 x.val.ref, .int .i64 x.turn] 95) = w4
  obtain ⟨hbw4, z4, p0, p1, p2, p3, p4, p5, p6, p7, p8, p9, p10⟩ := unhide HF _ hw4.symm
  have HX := hide hbw4
  obtain ⟨r0, r1, r2, r3, r4, r5, r6, r7, r8, r9, r10, r11⟩ := ((unhide HQ).below hbw4 (by omega)).all
  have fr := ((unhide HQ).below hbw4 (by omega)).frozen
  have zr : w.heap.size + 1 < w4.heap.size := by omega
  clear hw4 hbw4
  go_wp2_with fail
  refine bodyPost_ret (v := AnV (⟨0, x.turn, x.key, x.val⟩ : An)) (by simp [results, Tryz.results54, go_sem, zr, r0, r1, r2, r3, r4, r5, r6, r7, r8, r9, r10, r11]) rfl ⟨by rw [unhide HXX], ?_⟩
  exact below_set12 ((unhide HB).trans ((unhide HX).mono (unhide HB).size)) _ (by omega) _ _ _ _ _ _ _ _ _ _ _ _
set_option maxRecDepth 100000 in
set_option maxHeartbeats 8000000 in
theorem read_len (c B : Nat) (vT vS : Value) (U : Nat → Value) (D : Ds) (a : Ac) (w : World) (hD : DeskM 55 w c B vT vS U D) (hG : D.Good) (t : Nat) (et : a.t = t) (ht : t < D.nt) (hop : a.op = 5) :
    Calls Tryz.prog 54 #[.pointer (some ⟨c, 0, none⟩), AcV a] w fun e w' => e = .returned (AnV (ansN (D.T t).len)) ∧ Below w.heap.size w w' := by
  obtain ⟨W, hW, hb0, hA, hR, hz⟩ := boxes w a
  have hcl := hD.lt
  have HM := hide (hD.below hb0)
  have hnt := hG.nt
  obtain ⟨g, cp, ua, uc, rfl, hg, eU, g0, g1x, hPx⟩ := (unhide HM).look ht
  have hcW := (unhide HM).lt
  obtain ⟨c0, c1⟩ := (unhide HM).cells
  obtain ⟨a0, a1, a2, a3, a4, a5, a6, a7, a8, a9, a10, a11, a12, a13⟩ := hA.all
  rw [et] at a1
  have zaW := hA.lt
  have HA := hide hA
  have HQ := hide hR
  have HB := hide hb0
  have HG := hide hG
  obtain ⟨ua', uc', eUx, hT⟩ := (unhide HM).tpt ht
  have HT := hide hT
  have ET := hide et
  have d3 : (a.op == 3) = false := by simp [hop]
  have d4 : (a.op == 4) = false := by simp [hop]
  have d5 : (a.op == 5) = true := by simp [hop]
  have d6 : (a.op == 6) = false := by simp [hop]
  have d8 : (a.op == 8) = false := by simp [hop]
  clear hb0 hA hR hG hD hT et eU hop g1x hPx eUx
  go_enter Tryz.func54, Tryz.ntmps54
  go_wp2_with fail
  rw [← hW]
  clear hW
  refine wp_region_quiet (C := fun w' => Below W.heap.size W w') (by kernel_rfl) (by kernel_rfl) ((Below.refl _ _).drew) ?_
  show wpQuiet _ _ _ _ [_, _, _, _, _, _, _, _] _
  refine wpQuiet_step (fun K hK => ?_)
  go_simp
  refine ⟨_, fun w' hw' => rfl, hK _ ?_⟩
  clear hK K
  refine wpQuiet_step (fun K hK => ?_)
  go_simp
  refine ⟨_, fun w' hw' => rfl, hK _ ?_⟩
  clear hK K
  refine wpQuiet_step (fun K hK => ?_)
  go_simp
  refine ⟨_, fun w' hw' => rfl, hK _ ?_⟩
  clear hK K
  refine wpQuiet_step (fun K hK => ?_)
  go_simp
  apply Exists.intro
  refine And.intro (fun w' hw' => ?_) (hK _ ?_)
  · obtain ⟨hc', hf'⟩ := bcell hw'
    go_simp
    first | rfl | exact ⟨rfl, rfl⟩ | exact ⟨rfl⟩
  clear hK K
  refine wpQuiet_step (fun K hK => ?_)
  go_simp
  refine ⟨_, fun w' hw' => rfl, hK _ ?_⟩
  clear hK K
  refine wpQuiet_step (fun K hK => ?_)
  go_simp
  apply Exists.intro
  refine And.intro (fun w' hw' => ?_) (hK _ ?_)
  · obtain ⟨hc', hf'⟩ := bcell hw'
    go_simp
    first | rfl | exact ⟨rfl, rfl⟩ | exact ⟨rfl⟩
  clear hK K
  refine wpQuiet_step (fun K hK => ?_)
  go_simp
  refine ⟨_, fun w' hw' => rfl, hK _ ?_⟩
  clear hK K
  refine wpQuiet_step (fun K hK => ?_)
  go_simp
  refine ⟨_, fun w' hw' => rfl, hK _ ?_⟩
  clear hK K
  refine wpQuiet_nil ?_
  intro w1 hb1
  have HX := hide hb1
  clear hb1 a0 a1 a2 a3 a4 a5 a6 a7 a8 a9 a10 a11 a12 a13 c0 c1 g0 hg hcW zaW
  have zz := (unhide HX).size
  have za : w.heap.size < w1.heap.size := by omega
  have zr : w.heap.size + 1 < w1.heap.size := by omega
  obtain ⟨a0, a1, a2, a3, a4, a5, a6, a7, a8, a9, a10, a11, a12, a13⟩ := ((unhide HA).below (unhide HX) (by omega)).all
  go_wp2_with fail
  refine (plLen_any g (t * 2) ua' uc' (D.T t) _ ((unhide HT).below (unhide HX)) ((unhide HG).t t ht)).mono ?_
  rintro e w3 ⟨rfl, hb3⟩
  clear zz za zr a0 a1 a2 a3 a4 a5 a6 a7 a8 a9 a10 a11 a12 a13
  have HX := hide ((unhide HX).trans (hb3.mono (unhide HX).size))
  clear hb3
  obtain ⟨x, hx⟩ : ∃ x, (D.T t).len = x := ⟨_, rfl⟩
  rw [hx]
  have HXX := hide hx
  clear hx
  have zz := (unhide HX).size
  have za : w.heap.size < w3.heap.size := by omega
  have zr : w.heap.size + 1 < w3.heap.size := by omega
  obtain ⟨r0, r1, r2, r3, r4, r5, r6, r7, r8, r9, r10, r11⟩ := ((unhide HQ).below (unhide HX) (by omega)).all
  have fr := ((unhide HQ).below (unhide HX) (by omega)).frozen
  go_wp2_with fail
  refine bodyPost_ret (v := AnV (ansN x)) (by simp [results, Tryz.results54, go_sem, zr, r0, r1, r2, r3, r4, r5, r6, r7, r8, r9, r10, r11, ansC, ansN, ansV]) rfl ⟨by rw [unhide HXX], ?_⟩
  exact below_set12 ((unhide HB).trans ((unhide HX).mono (unhide HB).size)) _ (by omega) _ _ _ _ _ _ _ _ _ _ _ _
set_option maxRecDepth 100000 in
set_option maxHeartbeats 8000000 in
theorem read_count (c B : Nat) (vT vS : Value) (U : Nat → Value) (D : Ds) (a : Ac) (w : World) (hD : DeskM 55 w c B vT vS U D) (hG : D.Good) (t : Nat) (et : a.t = t) (ht : t < D.nt) (hop : a.op = 6) :
    Calls Tryz.prog 54 #[.pointer (some ⟨c, 0, none⟩), AcV a] w fun e w' => e = .returned (AnV (ansN (D.T t).n)) ∧ Below w.heap.size w w' := by
  obtain ⟨W, hW, hb0, hA, hR, hz⟩ := boxes w a
  have hcl := hD.lt
  have HM := hide (hD.below hb0)
  have hnt := hG.nt
  obtain ⟨g, cp, ua, uc, rfl, hg, eU, g0, g1x, hPx⟩ := (unhide HM).look ht
  have hcW := (unhide HM).lt
  obtain ⟨c0, c1⟩ := (unhide HM).cells
  obtain ⟨a0, a1, a2, a3, a4, a5, a6, a7, a8, a9, a10, a11, a12, a13⟩ := hA.all
  rw [et] at a1
  have zaW := hA.lt
  have HA := hide hA
  have HQ := hide hR
  have HB := hide hb0
  have HG := hide hG
  obtain ⟨ua', uc', eUx, hT⟩ := (unhide HM).tpt ht
  have HT := hide hT
  have ET := hide et
  have d3 : (a.op == 3) = false := by simp [hop]
  have d4 : (a.op == 4) = false := by simp [hop]
  have d5 : (a.op == 5) = false := by simp [hop]
  have d6 : (a.op == 6) = true := by simp [hop]
  have d8 : (a.op == 8) = false := by simp [hop]
  clear hb0 hA hR hG hD hT et eU hop g1x hPx eUx
  go_enter Tryz.func54, Tryz.ntmps54
  go_wp2_with fail
  rw [← hW]
  clear hW
  refine wp_region_quiet (C := fun w' => Below W.heap.size W w') (by kernel_rfl) (by kernel_rfl) ((Below.refl _ _).drew) ?_
  show wpQuiet _ _ _ _ [_, _, _, _, _, _, _, _] _
  refine wpQuiet_step (fun K hK => ?_)
  go_simp
  refine ⟨_, fun w' hw' => rfl, hK _ ?_⟩
  clear hK K
  refine wpQuiet_step (fun K hK => ?_)
  go_simp
  refine ⟨_, fun w' hw' => rfl, hK _ ?_⟩
  clear hK K
  refine wpQuiet_step (fun K hK => ?_)
  go_simp
  refine ⟨_, fun w' hw' => rfl, hK _ ?_⟩
  clear hK K
  refine wpQuiet_step (fun K hK => ?_)
  go_simp
  apply Exists.intro
  refine And.intro (fun w' hw' => ?_) (hK _ ?_)
  · obtain ⟨hc', hf'⟩ := bcell hw'
    go_simp
    first | rfl | exact ⟨rfl, rfl⟩ | exact ⟨rfl⟩
  clear hK K
  refine wpQuiet_step (fun K hK => ?_)
  go_simp
  refine ⟨_, fun w' hw' => rfl, hK _ ?_⟩
  clear hK K
  refine wpQuiet_step (fun K hK => ?_)
  go_simp
  apply Exists.intro
  refine And.intro (fun w' hw' => ?_) (hK _ ?_)
  · obtain ⟨hc', hf'⟩ := bcell hw'
    go_simp
    first | rfl | exact ⟨rfl, rfl⟩ | exact ⟨rfl⟩
  clear hK K
  refine wpQuiet_step (fun K hK => ?_)
  go_simp
  refine ⟨_, fun w' hw' => rfl, hK _ ?_⟩
  clear hK K
  refine wpQuiet_step (fun K hK => ?_)
  go_simp
  refine ⟨_, fun w' hw' => rfl, hK _ ?_⟩
  clear hK K
  refine wpQuiet_nil ?_
  intro w1 hb1
  have HX := hide hb1
  clear hb1 a0 a1 a2 a3 a4 a5 a6 a7 a8 a9 a10 a11 a12 a13 c0 c1 g0 hg hcW zaW
  have zz := (unhide HX).size
  have za : w.heap.size < w1.heap.size := by omega
  have zr : w.heap.size + 1 < w1.heap.size := by omega
  obtain ⟨a0, a1, a2, a3, a4, a5, a6, a7, a8, a9, a10, a11, a12, a13⟩ := ((unhide HA).below (unhide HX) (by omega)).all
  obtain ⟨r0, r1, r2, r3, r4, r5, r6, r7, r8, r9, r10, r11⟩ := ((unhide HQ).below (unhide HX) (by omega)).all
  have fr := ((unhide HQ).below (unhide HX) (by omega)).frozen
  obtain ⟨zg, g0, _, _⟩ := (unhide HT).below (unhide HX)
  go_wp2_with fail
  refine bodyPost_ret (v := AnV (ansN (D.T t).n)) (by simp [results, Tryz.results54, go_sem, zr, r0, r1, r2, r3, r4, r5, r6, r7, r8, r9, r10, r11, ansC, ansN, ansV]) rfl ⟨rfl, ?_⟩
  exact below_set12 ((unhide HB).trans ((unhide HX).mono (unhide HB).size)) _ (by omega) _ _ _ _ _ _ _ _ _ _ _ _
theorem read_any (c B : Nat) (vT vS : Value) (U : Nat → Value) (D : Ds) (a : Ac) (w : World) (hD : DeskM 55 w c B vT vS U D) (hG : D.Good) (t : Nat) (et : a.t = t) (ht : t < D.nt) (hop : a.op = 3 ∨ a.op = 8 ∨ a.op = 4 ∨ a.op = 5 ∨ a.op = 6) (hs : sitB a.op = true → 0 ≤ a.site ∧ a.site < D.ns) :
    Calls Tryz.prog 54 #[.pointer (some ⟨c, 0, none⟩), AcV a] w fun e w' => e = .returned (AnV (D.ansOf a)) ∧ Below w.heap.size w w' := by
  have e : D.ansOf a = if a.op = 3 ∨ a.op = 8 then ansV ((D.T t).get (D.keyAt a)) else if a.op = 4 then ⟨0, ((D.T t).next a.n).turn, ((D.T t).next a.n).key, ((D.T t).next a.n).val⟩ else if a.op = 6 then ansN (D.T t).n else ansN (D.T t).len := by
    rcases hop with h | h | h | h | h <;> simp [Ds.ansOf, Ds.keyAt, h, et]
  rw [e]
  rcases hop with h | h | h | h | h
  · rw [if_pos (.inl h)]; exact read_get3 c B vT vS U D a w hD hG t et ht h hs
  · rw [if_pos (.inr h)]; exact read_get8 c B vT vS U D a w hD hG t et ht h hs
  · rw [if_neg (by omega), if_pos h]; exact read_after c B vT vS U D a w hD hG t et ht h
  · rw [if_neg (by omega), if_neg (by omega), if_neg (by omega)]; exact read_len c B vT vS U D a w hD hG t et ht h
  · rw [if_neg (by omega), if_neg (by omega), if_pos h]; exact read_count c B vT vS U D a w hD hG t et ht h
end Go.Proofs.YtnjgebncghdajaaGreatDoor
