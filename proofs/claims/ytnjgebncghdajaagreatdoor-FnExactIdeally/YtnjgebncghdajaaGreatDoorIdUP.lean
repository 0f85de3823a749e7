/-
  IdU.
-/
import Derived.Test.YtnjgebncghdajaaGreatDoorIdRP
import Derived.Test.YtnjgebncghdajaaGreatDoorIdKP
import Derived.Test.YtnjgebncghdajaaGreatDoorBi3
import Derived.Test.YtnjgebncghdajaaGreatDoorAcBP
import Derived.Deep.QuietTactic
import Derived.BigQuiet
import Derived.Test.YtnjgebncghdajaaGreatDoorIdSP
import Derived.Test.YtnjgebncghdajaaGreatDoorBi7
namespace Go.Proofs.YtnjgebncghdajaaGreatDoor
open Go.RowKit
set_option linter.unusedVariables false
set_option linter.unusedSimpArgs false
attribute [local go_sem] run_store_float run_equalIn_float

/-- What an act at a site reads. -/
def HeldD (ab c g : Nat) (t s : Nat) (vS : Value) (str : ByteArray) (v : Vl) (W : World) : Prop :=
  W.cell? ⟨ab, 1, none⟩ = some (.int .i64 t) ∧ W.cell? ⟨ab, 2, none⟩ = some (.int .i64 s) ∧ W.cell? ⟨c, 1, none⟩ = some vS ∧ W.cell? ⟨g, s, none⟩ = some (.string str) ∧
  W.cell? ⟨ab, 9, none⟩ = some (.int .i64 v.kind) ∧ W.cell? ⟨ab, 10, none⟩ = some (.int .i64 v.num) ∧ W.cell? ⟨ab, 11, none⟩ = some (.float .f64 v.flt) ∧ W.cell? ⟨ab, 12, none⟩ = some (.string v.str) ∧ W.cell? ⟨ab, 13, none⟩ = some (.int .i64 v.ref)
theorem HeldD.keep {ab c g t s : Nat} {vS : Value} {str : ByteArray} {v : Vl} {w w' : World} (h : HeldD ab c g t s vS str v w) (ha : w'.heap[ab]? = w.heap[ab]?) (hc : w'.heap[c]? = w.heap[c]?) (hg : w'.heap[g]? = w.heap[g]?) : HeldD ab c g t s vS str v w' := by
  obtain ⟨h0, h1, h2, h3, h4, h5, h6, h7, h8⟩ := h
  exact ⟨(World.cell?_of_block (a := ⟨ab, 1, none⟩) ha).trans h0, (World.cell?_of_block (a := ⟨ab, 2, none⟩) ha).trans h1, (World.cell?_of_block (a := ⟨c, 1, none⟩) hc).trans h2, (World.cell?_of_block (a := ⟨g, s, none⟩) hg).trans h3, (World.cell?_of_block (a := ⟨ab, 9, none⟩) ha).trans h4, (World.cell?_of_block (a := ⟨ab, 10, none⟩) ha).trans h5, (World.cell?_of_block (a := ⟨ab, 11, none⟩) ha).trans h6, (World.cell?_of_block (a := ⟨ab, 12, none⟩) ha).trans h7, (World.cell?_of_block (a := ⟨ab, 13, none⟩) ha).trans h8⟩

set_option maxRecDepth 100000 in
set_option maxHeartbeats 8000000 in
theorem do_field (c B : Nat) (vT vS : Value) (U : Nat → Value) (D : Ds) (a : Ac) (w : World) (hD : DeskM 45 w c B vT vS U D) (hG : D.Good) (hact : actB a = true) (hop : a.op = 8) (t : Nat) (et : a.t = t) (h2 : t < D.nt) (s : Nat) (es : a.site = s) (h3 : s < D.ns) : DoSays c B vT vS U D a w := by
  have hT : tabB a.op = true := by rw [hop]; decide
  have hS : sitB a.op = true := by rw [hop]; decide
  obtain ⟨kc, ekc⟩ : ∃ kc, kcode a.k = kc := ⟨_, rfl⟩
  obtain ⟨kv, ekv⟩ : ∃ kv, kval a.k = kv := ⟨_, rfl⟩
  have HRES : Hid (D.ans a = ansV ((D.T t).get (strV (D.S s))) ∧ D.step a = D) := hide (by
    have h0 : chk a D.nt D.ns = 0 := by
      have x1 : ¬ (D.nt : Int) ≤ a.t := by omega
      have x2 : ¬ (D.ns : Int) ≤ a.site := by omega
      simp [chk, hact, tabB, sitB, hop, x1, x2]
    simp [Ds.ans, Ds.step, h0, Ds.ansOf, Ds.nextC, hop, et, ekv, es])
  have e2 : decide ((D.nt : Int) ≤ a.t) = false := by simp; omega
  have e3 : decide ((D.ns : Int) ≤ a.site) = false := by simp; omega
  have ES := hide es
  clear es
  have EKC := hide ekc
  have EKV := hide ekv
  clear ekc ekv
  have d1 : (a.op == 1) = false := by simp [hop]
  have d2 : (a.op == 2) = false := by simp [hop]
  have d3 : (a.op == 3) = false := by simp [hop]
  have d7 : (a.op == 7) = false := by simp [hop]
  have d8 : (a.op == 8) = true := by simp [hop]
  have d9 : (a.op == 9) = false := by simp [hop]
  have HOP := hide hop
  clear hop
  have ET := hide et
  clear et
  obtain ⟨ta, tc, rfl⟩ := own_slice hD.tb
  obtain ⟨sa, sc, rfl⟩ := own_slice hD.st
  have hnt := hG.nt
  have hns := hG.ns
  obtain ⟨W, hW, hb0, hA, hR, hz⟩ := boxes w a
  have HO : Hid (∀ k, OwnD c (.slice ta D.nt tc) (.slice sa D.ns sc) U D.nt k → k < w.heap.size) := hide (fun k h => (hD.rng h).2)
  have hcl := hD.lt
  have HM := hide (hD.below hb0)
  have HB := hide hb0
  have HA := hide hA
  have HQ := hide hR
  have HG := hide hG
  clear hD hb0 hA hR hG
  go_enter Tryz.func14, Tryz.ntmps14
  go_wp2_with fail
  rw [← hW]
  clear hW
  refine (specActOk a _).mono ?_
  rw [hact]
  rintro e w1 ⟨rfl, hb1⟩
  have HX := hide hb1
  clear hb1
  have HNO : Hid (¬ OwnD c (.slice ta D.nt tc) (.slice sa D.ns sc) U D.nt (w.heap.size + 1)) := hide (fun h => by have := unhide HO _ h; omega)
  have zz := (unhide HX).size
  have za : w.heap.size < w1.heap.size := by omega
  have zr : w.heap.size + 1 < w1.heap.size := by omega
  have zc : c < w1.heap.size := by omega
  obtain ⟨a0, a1, a2, a3, a4, a5, a6, a7, a8, a9, a10, a11, a12, a13⟩ := ((unhide HA).below (unhide HX) (by omega)).all
  obtain ⟨c0, c1⟩ := ((unhide HM).below (unhide HX)).cells
  go_wp2_with fail
  refine (l4wants_any a.op _).mono ?_
  rw [hT, hS]
  rintro e w2 ⟨rfl, ew⟩
  rw [ew]
  clear ew w2
  go_wp2_with fail
  refine wp_region_quiet (C := fun w' => Below w1.heap.size w1 w') (by kernel_rfl) (by kernel_rfl) ((Below.refl _ _).drew) ?_
  show wpQuiet _ _ _ _ [_, _, _, _, _, _, _, _, _, _, _] _
  refine wpQuiet_step (fun K hK => ?_)
  go_simp
  refine ⟨_, fun w' hw' => rfl, hK _ ?_⟩
  clear hK K
  refine wpQuiet_step (fun K hK => ?_)
  go_simp
  refine ⟨_, fun w' hw' => rfl, hK _ ?_⟩
  clear hK K
  refine wpQuiet_step (fun K hK => ?_)
  go_simp
  refine ⟨_, fun w' hw' => rfl, hK _ ?_⟩
  clear hK K
  refine wpQuiet_step (fun K hK => ?_)
  go_simp
  apply Exists.intro
  refine And.intro (fun w' hw' => ?_) (hK _ ?_)
  · obtain ⟨hc', hf'⟩ := bcell hw'
    go_simp
    first | rfl | exact ⟨rfl, rfl⟩ | exact ⟨rfl⟩
  clear hK K
  refine wpQuiet_step (fun K hK => ?_)
  go_simp
  refine ⟨_, fun w' hw' => rfl, hK _ ?_⟩
  clear hK K
  refine wpQuiet_step (fun K hK => ?_)
  go_simp
  refine ⟨_, fun w' hw' => rfl, hK _ ?_⟩
  clear hK K
  refine wpQuiet_step (fun K hK => ?_)
  go_simp
  refine ⟨_, fun w' hw' => rfl, hK _ ?_⟩
  clear hK K
  refine wpQuiet_step (fun K hK => ?_)
  go_simp
  apply Exists.intro
  refine And.intro (fun w' hw' => ?_) (hK _ ?_)
  · obtain ⟨hc', hf'⟩ := bcell hw'
    go_simp
    first | rfl | exact ⟨rfl, rfl⟩ | exact ⟨rfl⟩
  clear hK K
  refine wpQuiet_step (fun K hK => ?_)
  go_simp
  refine ⟨_, fun w' hw' => rfl, hK _ ?_⟩
  clear hK K
  refine wpQuiet_step (fun K hK => ?_)
  go_simp
  refine ⟨_, fun w' hw' => rfl, hK _ ?_⟩
  clear hK K
  refine wpQuiet_step (fun K hK => ?_)
  go_simp
  refine ⟨_, fun w' hw' => rfl, hK _ ?_⟩
  clear hK K
  refine wpQuiet_nil ?_
  intro w2 hbn
  clear zz za zr zc a0 a1 a2 a3 a4 a5 a6 a7 a8 a9 a10 a11 a12 a13 c0 c1
  have HX := hide ((unhide HX).trans (hbn.mono (unhide HX).size))
  clear hbn
  have zz := (unhide HX).size
  have za : w.heap.size < w2.heap.size := by omega
  have zr : w.heap.size + 1 < w2.heap.size := by omega
  have zc : c < w2.heap.size := by omega
  obtain ⟨a0, a1, a2, a3, a4, a5, a6, a7, a8, a9, a10, a11, a12, a13⟩ := ((unhide HA).below (unhide HX) (by omega)).all
  obtain ⟨c0, c1⟩ := ((unhide HM).below (unhide HX)).cells
  go_wp2_with fail
  refine wp_region_quiet (C := fun w' => Below w2.heap.size w2 w') (by kernel_rfl) (by kernel_rfl) ((Below.refl _ _).drew) ?_
  show wpQuiet _ _ _ _ [_, _, _, _, _, _, _, _, _, _, _] _
  refine wpQuiet_step (fun K hK => ?_)
  go_simp
  refine ⟨_, fun w' hw' => rfl, hK _ ?_⟩
  clear hK K
  refine wpQuiet_step (fun K hK => ?_)
  go_simp
  refine ⟨_, fun w' hw' => rfl, hK _ ?_⟩
  clear hK K
  refine wpQuiet_step (fun K hK => ?_)
  go_simp
  refine ⟨_, fun w' hw' => rfl, hK _ ?_⟩
  clear hK K
  refine wpQuiet_step (fun K hK => ?_)
  go_simp
  apply Exists.intro
  refine And.intro (fun w' hw' => ?_) (hK _ ?_)
  · obtain ⟨hc', hf'⟩ := bcell hw'
    go_simp
    first | rfl | exact ⟨rfl, rfl⟩ | exact ⟨rfl⟩
  clear hK K
  refine wpQuiet_step (fun K hK => ?_)
  go_simp
  refine ⟨_, fun w' hw' => rfl, hK _ ?_⟩
  clear hK K
  refine wpQuiet_step (fun K hK => ?_)
  go_simp
  refine ⟨_, fun w' hw' => rfl, hK _ ?_⟩
  clear hK K
  refine wpQuiet_step (fun K hK => ?_)
  go_simp
  refine ⟨_, fun w' hw' => rfl, hK _ ?_⟩
  clear hK K
  refine wpQuiet_step (fun K hK => ?_)
  go_simp
  apply Exists.intro
  refine And.intro (fun w' hw' => ?_) (hK _ ?_)
  · obtain ⟨hc', hf'⟩ := bcell hw'
    go_simp
    first | rfl | exact ⟨rfl, rfl⟩ | exact ⟨rfl⟩
  clear hK K
  refine wpQuiet_step (fun K hK => ?_)
  go_simp
  refine ⟨_, fun w' hw' => rfl, hK _ ?_⟩
  clear hK K
  refine wpQuiet_step (fun K hK => ?_)
  go_simp
  refine ⟨_, fun w' hw' => rfl, hK _ ?_⟩
  clear hK K
  refine wpQuiet_step (fun K hK => ?_)
  go_simp
  refine ⟨_, fun w' hw' => rfl, hK _ ?_⟩
  clear hK K
  refine wpQuiet_nil ?_
  intro w3 hbn
  clear zz za zr zc a0 a1 a2 a3 a4 a5 a6 a7 a8 a9 a10 a11 a12 a13 c0 c1
  have HX := hide ((unhide HX).trans (hbn.mono (unhide HX).size))
  clear hbn
  have zz := (unhide HX).size
  have za : w.heap.size < w3.heap.size := by omega
  have zr : w.heap.size + 1 < w3.heap.size := by omega
  have zc : c < w3.heap.size := by omega
  obtain ⟨a0, a1, a2, a3, a4, a5, a6, a7, a8, a9, a10, a11, a12, a13⟩ := ((unhide HA).below (unhide HX) (by omega)).all
  obtain ⟨c0, c1⟩ := ((unhide HM).below (unhide HX)).cells
  go_wp2_with fail
  refine (skey_any a.k.kind a.k.num a.k.flt a.k.str a.k.ref _).mono ?_
  rw [keyV_parts, unhide EKC, unhide EKV]
  rintro e w4 ⟨rfl, hb4⟩
  clear zz za zr zc a0 a1 a2 a3 a4 a5 a6 a7 a8 a9 a10 a11 a12 a13 c0 c1
  have HX := hide ((unhide HX).trans (hb4.mono (unhide HX).size))
  clear hb4
  have zz := (unhide HX).size
  have za : w.heap.size < w4.heap.size := by omega
  have zr : w.heap.size + 1 < w4.heap.size := by omega
  have zc : c < w4.heap.size := by omega
  obtain ⟨a0, a1, a2, a3, a4, a5, a6, a7, a8, a9, a10, a11, a12, a13⟩ := ((unhide HA).below (unhide HX) (by omega)).all
  obtain ⟨c0, c1⟩ := ((unhide HM).below (unhide HX)).cells
  rw [unhide ET] at a1
  rw [unhide ES] at a2
  have HXK : Hid (Below W.heap.size W (w4.alloc (.cells #[.int .i64 kc, .int .i64 kv.kind, .int .i64 kv.num, .float .f64 kv.flt, .string kv.str, .int .i64 kv.ref] 68))) := hide ((unhide HX).alloc (unhide HX).size _)
  obtain ⟨g, cq, eg, hg, hgs⟩ := ((unhide HM).below (unhide HX)).site h3
  cases eg
  obtain ⟨X, hX⟩ : ∃ X, X = w4.alloc (.cells #[.int .i64 kc, .int .i64 kv.kind, .int .i64 kv.num, .float .f64 kv.flt, .string kv.str, .int .i64 kv.ref] 68) := ⟨_, rfl⟩
  have hbX : Below w4.heap.size w4 X := by rw [hX]; exact (Below.refl _ _).alloc (Nat.le_refl _) _
  have hS0 : HeldD w.heap.size c g t s (.slice (some ⟨g, 0, none⟩) D.ns sc) (D.S s) a.v X := HeldD.keep (w := w4) ⟨a1, a2, c1, hgs, a9, a10, a11, a12, a13⟩ (hbX.block _ za) (hbX.block _ zc) (hbX.block _ hg)
  have hgW : g < w.heap.size := unhide HO g (.inr (.inr (.inl rfl)))
  go_wp2_with fail
  rw [← hX]
  rw [← hX] at HXK
  have hS0' : HeldD w.heap.size c g t s (.slice (some ⟨g, 0, none⟩) D.ns sc) (D.S s) a.v X.drew := hS0
  clear zz za zr zc a0 a1 a2 a3 a4 a5 a6 a7 a8 a9 a10 a11 a12 a13 c0 c1
  clear hX hgs hbX hg
  refine wpN_held (HeldD w.heap.size c g t s (.slice (some ⟨g, 0, none⟩) D.ns sc) (D.S s) a.v) (by kernel_rfl) ?_
  change wpAnyH _ _ _ _ _ _ _ _ (World.drew _)
  refine tk 0 (v := ?_) rfl (by kernel_rfl) (by rfl) ?_ (by assumption) ?_
  rotate_left
  · intro w' ⟨s0, s1, s2, s3, s4, s5, s6, s7, s8⟩; go_simp; first | done | with_reducible rfl
  simp only [Act.put, List.setIfInBounds_toArray, List.set_cons_succ, List.set_cons_zero]
  refine tk 1 (v := ?_) rfl (by kernel_rfl) (by rfl) ?_ (by assumption) ?_
  rotate_left
  · intro w' ⟨s0, s1, s2, s3, s4, s5, s6, s7, s8⟩; go_simp; first | done | with_reducible rfl
  simp only [Act.put, List.setIfInBounds_toArray, List.set_cons_succ, List.set_cons_zero]
  refine tk 2 (v := ?_) rfl (by kernel_rfl) (by rfl) ?_ (by assumption) ?_
  rotate_left
  · intro w' ⟨s0, s1, s2, s3, s4, s5, s6, s7, s8⟩; go_simp; first | done | with_reducible rfl
  simp only [Act.put, List.setIfInBounds_toArray, List.set_cons_succ, List.set_cons_zero]
  refine tk 3 (v := ?_) rfl (by kernel_rfl) (by rfl) ?_ (by assumption) ?_
  rotate_left
  · intro w' ⟨s0, s1, s2, s3, s4, s5, s6, s7, s8⟩; go_simp; first | done | with_reducible rfl
  simp only [Act.put, List.setIfInBounds_toArray, List.set_cons_succ, List.set_cons_zero]
  refine tk 4 (v := ?_) rfl (by kernel_rfl) (by rfl) ?_ (by assumption) ?_
  rotate_left
  · intro w' ⟨s0, s1, s2, s3, s4, s5, s6, s7, s8⟩; go_simp; first | done | with_reducible rfl
  simp only [Act.put, List.setIfInBounds_toArray, List.set_cons_succ, List.set_cons_zero]
  refine tk 5 (v := ?_) rfl (by kernel_rfl) (by rfl) ?_ (by assumption) ?_
  rotate_left
  · intro w' ⟨s0, s1, s2, s3, s4, s5, s6, s7, s8⟩; go_simp; first | done | with_reducible rfl
  simp only [Act.put, List.setIfInBounds_toArray, List.set_cons_succ, List.set_cons_zero]
  refine tk 6 (v := ?_) rfl (by kernel_rfl) (by rfl) ?_ (by assumption) ?_
  rotate_left
  · intro w' ⟨s0, s1, s2, s3, s4, s5, s6, s7, s8⟩; go_simp; first | done | with_reducible rfl
  simp only [Act.put, List.setIfInBounds_toArray, List.set_cons_succ, List.set_cons_zero]
  refine tk 7 (v := ?_) rfl (by kernel_rfl) (by rfl) ?_ (by assumption) ?_
  rotate_left
  · intro w' ⟨s0, s1, s2, s3, s4, s5, s6, s7, s8⟩; go_simp; first | done | with_reducible rfl
  simp only [Act.put, List.setIfInBounds_toArray, List.set_cons_succ, List.set_cons_zero]
  refine tk 8 (v := ?_) rfl (by kernel_rfl) (by rfl) ?_ (by assumption) ?_
  rotate_left
  · intro w' ⟨s0, s1, s2, s3, s4, s5, s6, s7, s8⟩; go_simp; first | done | with_reducible rfl
  simp only [Act.put, List.setIfInBounds_toArray, List.set_cons_succ, List.set_cons_zero]
  refine tk 9 (v := ?_) rfl (by kernel_rfl) (by rfl) ?_ (by assumption) ?_
  rotate_left
  · intro w' ⟨s0, s1, s2, s3, s4, s5, s6, s7, s8⟩; go_simp; first | done | with_reducible rfl
  simp only [Act.put, List.setIfInBounds_toArray, List.set_cons_succ, List.set_cons_zero]
  refine tk 10 (v := ?_) rfl (by kernel_rfl) (by rfl) ?_ (by assumption) ?_
  rotate_left
  · intro w' ⟨s0, s1, s2, s3, s4, s5, s6, s7, s8⟩; go_simp; first | done | with_reducible rfl
  simp only [Act.put, List.setIfInBounds_toArray, List.set_cons_succ, List.set_cons_zero]
  refine wpAnyH_ready (rs := [11]) (by kernel_rfl) (by simp) ?_
  refine AllReadyH.cons rfl (fun K hK => ?_) AllReadyH.nil
  go_simp
  refine (l1str_any (D.S s) _).mono ?_
  rintro e w5 ⟨rfl, hb5⟩
  have hzX := (unhide HXK).size
  have hS5 := hS0'.keep (hb5.block w.heap.size (by show _ < X.heap.size; omega)) (hb5.block c (by show _ < X.heap.size; omega)) (hb5.block g (by show _ < X.heap.size; omega))
  have HX5 : Hid (Below W.heap.size W w5) := hide (((unhide HXK).drew).trans (hb5.mono (by show _ ≤ X.heap.size; omega)))
  refine hK.out _ _ hS5 (fun _ => ?_)
  clear hK K hb5 hS0 hS0'
  refine wpAnyH_ready (rs := [12]) (by kernel_rfl) (by simp) ?_
  refine AllReadyH.cons rfl (fun K hK => ?_) AllReadyH.nil
  go_simp
  refine (l5get_any c B t _ _ U D (strV (D.S s)) _ ((unhide HM).below (unhide HX5)) h2 (unhide HG)).mono ?_
  rintro e w6 ⟨rfl, hb6⟩
  generalize hx : (D.T t).get (strV (D.S s)) = x
  rw [hx] at HRES
  have z5 := (unhide HX5).size
  have hS6 := hS5.keep (hb6.block w.heap.size (by omega)) (hb6.block c (by omega)) (hb6.block g (by omega))
  have HX := hide ((unhide HX5).trans (hb6.mono (unhide HX5).size))
  refine hK.out _ _ hS6 (fun _ => ?_)
  clear hK K hb6 hS5 hx z5
  refine tk 13 (v := ?_) rfl (by kernel_rfl) (by rfl) ?_ (by assumption) ?_
  rotate_left
  · intro w' ⟨s0, s1, s2, s3, s4, s5, s6, s7, s8⟩; go_simp; first | done | with_reducible rfl
  (try simp only [Act.put]); (try simp only [List.setIfInBounds_toArray]); (try simp only [List.set_cons_succ]); try simp only [List.set_cons_zero]
  have zz := (unhide HX).size
  have za : w.heap.size < w6.heap.size := by omega
  have zr : w.heap.size + 1 < w6.heap.size := by omega
  have zc : c < w6.heap.size := by omega
  obtain ⟨r0, r1, r2, r3, r4, r5, r6, r7, r8, r9, r10, r11⟩ := ((unhide HQ).below (unhide HX) (by omega)).all
  have fr := ((unhide HQ).below (unhide HX) (by omega)).frozen
  refine wpAnyH_ready (rs := [14]) (by kernel_rfl) (by simp) ?_
  refine AllReadyH.cons rfl (fun K hK => ?_) AllReadyH.nil
  go_simp
  refine hK.out _ _ (hS6.keep (set12_blk w6 (w.heap.size + 1) (ansV x) (by omega)) (set12_blk w6 (w.heap.size + 1) (ansV x) (by omega)) (set12_blk w6 (w.heap.size + 1) (ansV x) (by omega))) (fun _ => ?_)
  clear hK K
  refine wpAnyH_done (by kernel_rfl) ?_ _
  refine QN.normal ?_
  go_wp2_with fail
  refine bodyPost_ret (v := AnV (ansV x)) (by simp [results, Tryz.results14, go_sem, zr, r0, r1, r2, r3, r4, r5, r6, r7, r8, r9, r10, r11, ansC, ansN, ansV]) rfl ?_
  rw [(unhide HRES).1, (unhide HRES).2]
  obtain ⟨m, d⟩ := fin12 rfl (ansV x) (unhide HB) (unhide HO) (by omega) hz ((unhide HM).below (unhide HX)) (Dst.of_below (unhide HX))
  exact ⟨rfl, _, _, _, m, d⟩

set_option maxRecDepth 100000 in
set_option maxHeartbeats 8000000 in
theorem do_setField (c B : Nat) (vT vS : Value) (U : Nat → Value) (D : Ds) (a : Ac) (w : World) (hD : DeskM 45 w c B vT vS U D) (hG : D.Good) (hact : actB a = true) (hop : a.op = 9) (t : Nat) (et : a.t = t) (h2 : t < D.nt) (s : Nat) (es : a.site = s) (h3 : s < D.ns) : DoSays c B vT vS U D a w := by
  have hT : tabB a.op = true := by rw [hop]; decide
  have hS : sitB a.op = true := by rw [hop]; decide
  obtain ⟨kc, ekc⟩ : ∃ kc, kcode a.k = kc := ⟨_, rfl⟩
  obtain ⟨kv, ekv⟩ : ∃ kv, kval a.k = kv := ⟨_, rfl⟩
  have HRES : Hid (D.ans a = ansC ((D.T t).code (strV (D.S s)) a.v) ∧ D.step a = D.putT t (strV (D.S s)) a.v) := hide (by
    have h0 : chk a D.nt D.ns = 0 := by
      have x1 : ¬ (D.nt : Int) ≤ a.t := by omega
      have x2 : ¬ (D.ns : Int) ≤ a.site := by omega
      simp [chk, hact, tabB, sitB, hop, x1, x2]
    simp [Ds.ans, Ds.step, h0, Ds.ansOf, Ds.nextC, hop, et, ekv, es])
  have e2 : decide ((D.nt : Int) ≤ a.t) = false := by simp; omega
  have e3 : decide ((D.ns : Int) ≤ a.site) = false := by simp; omega
  have ES := hide es
  clear es
  have EKC := hide ekc
  have EKV := hide ekv
  clear ekc ekv
  have d1 : (a.op == 1) = false := by simp [hop]
  have d2 : (a.op == 2) = false := by simp [hop]
  have d3 : (a.op == 3) = false := by simp [hop]
  have d7 : (a.op == 7) = false := by simp [hop]
  have d8 : (a.op == 8) = false := by simp [hop]
  have d9 : (a.op == 9) = true := by simp [hop]
  have HOP := hide hop
  clear hop
  have ET := hide et
  clear et
  obtain ⟨ta, tc, rfl⟩ := own_slice hD.tb
  obtain ⟨sa, sc, rfl⟩ := own_slice hD.st
  have hnt := hG.nt
  have hns := hG.ns
  obtain ⟨W, hW, hb0, hA, hR, hz⟩ := boxes w a
  have HO : Hid (∀ k, OwnD c (.slice ta D.nt tc) (.slice sa D.ns sc) U D.nt k → k < w.heap.size) := hide (fun k h => (hD.rng h).2)
  have hcl := hD.lt
  have HM := hide (hD.below hb0)
  have HB := hide hb0
  have HA := hide hA
  have HQ := hide hR
  have HG := hide hG
  clear hD hb0 hA hR hG
  go_enter Tryz.func14, Tryz.ntmps14
  go_wp2_with fail
  rw [← hW]
  clear hW
  refine (specActOk a _).mono ?_
  rw [hact]
  rintro e w1 ⟨rfl, hb1⟩
  have HX := hide hb1
  clear hb1
  have HNO : Hid (¬ OwnD c (.slice ta D.nt tc) (.slice sa D.ns sc) U D.nt (w.heap.size + 1)) := hide (fun h => by have := unhide HO _ h; omega)
  have zz := (unhide HX).size
  have za : w.heap.size < w1.heap.size := by omega
  have zr : w.heap.size + 1 < w1.heap.size := by omega
  have zc : c < w1.heap.size := by omega
  obtain ⟨a0, a1, a2, a3, a4, a5, a6, a7, a8, a9, a10, a11, a12, a13⟩ := ((unhide HA).below (unhide HX) (by omega)).all
  obtain ⟨c0, c1⟩ := ((unhide HM).below (unhide HX)).cells
  go_wp2_with fail
  refine (l4wants_any a.op _).mono ?_
  rw [hT, hS]
  rintro e w2 ⟨rfl, ew⟩
  rw [ew]
  clear ew w2
  go_wp2_with fail
  refine wp_region_quiet (C := fun w' => Below w1.heap.size w1 w') (by kernel_rfl) (by kernel_rfl) ((Below.refl _ _).drew) ?_
  show wpQuiet _ _ _ _ [_, _, _, _, _, _, _, _, _, _, _] _
  refine wpQuiet_step (fun K hK => ?_)
  go_simp
  refine ⟨_, fun w' hw' => rfl, hK _ ?_⟩
  clear hK K
  refine wpQuiet_step (fun K hK => ?_)
  go_simp
  refine ⟨_, fun w' hw' => rfl, hK _ ?_⟩
  clear hK K
  refine wpQuiet_step (fun K hK => ?_)
  go_simp
  refine ⟨_, fun w' hw' => rfl, hK _ ?_⟩
  clear hK K
  refine wpQuiet_step (fun K hK => ?_)
  go_simp
  apply Exists.intro
  refine And.intro (fun w' hw' => ?_) (hK _ ?_)
  · obtain ⟨hc', hf'⟩ := bcell hw'
    go_simp
    first | rfl | exact ⟨rfl, rfl⟩ | exact ⟨rfl⟩
  clear hK K
  refine wpQuiet_step (fun K hK => ?_)
  go_simp
  refine ⟨_, fun w' hw' => rfl, hK _ ?_⟩
  clear hK K
  refine wpQuiet_step (fun K hK => ?_)
  go_simp
  refine ⟨_, fun w' hw' => rfl, hK _ ?_⟩
  clear hK K
  refine wpQuiet_step (fun K hK => ?_)
  go_simp
  refine ⟨_, fun w' hw' => rfl, hK _ ?_⟩
  clear hK K
  refine wpQuiet_step (fun K hK => ?_)
  go_simp
  apply Exists.intro
  refine And.intro (fun w' hw' => ?_) (hK _ ?_)
  · obtain ⟨hc', hf'⟩ := bcell hw'
    go_simp
    first | rfl | exact ⟨rfl, rfl⟩ | exact ⟨rfl⟩
  clear hK K
  refine wpQuiet_step (fun K hK => ?_)
  go_simp
  refine ⟨_, fun w' hw' => rfl, hK _ ?_⟩
  clear hK K
  refine wpQuiet_step (fun K hK => ?_)
  go_simp
  refine ⟨_, fun w' hw' => rfl, hK _ ?_⟩
  clear hK K
  refine wpQuiet_step (fun K hK => ?_)
  go_simp
  refine ⟨_, fun w' hw' => rfl, hK _ ?_⟩
  clear hK K
  refine wpQuiet_nil ?_
  intro w2 hbn
  clear zz za zr zc a0 a1 a2 a3 a4 a5 a6 a7 a8 a9 a10 a11 a12 a13 c0 c1
  have HX := hide ((unhide HX).trans (hbn.mono (unhide HX).size))
  clear hbn
  have zz := (unhide HX).size
  have za : w.heap.size < w2.heap.size := by omega
  have zr : w.heap.size + 1 < w2.heap.size := by omega
  have zc : c < w2.heap.size := by omega
  obtain ⟨a0, a1, a2, a3, a4, a5, a6, a7, a8, a9, a10, a11, a12, a13⟩ := ((unhide HA).below (unhide HX) (by omega)).all
  obtain ⟨c0, c1⟩ := ((unhide HM).below (unhide HX)).cells
  go_wp2_with fail
  refine wp_region_quiet (C := fun w' => Below w2.heap.size w2 w') (by kernel_rfl) (by kernel_rfl) ((Below.refl _ _).drew) ?_
  show wpQuiet _ _ _ _ [_, _, _, _, _, _, _, _, _, _, _] _
  refine wpQuiet_step (fun K hK => ?_)
  go_simp
  refine ⟨_, fun w' hw' => rfl, hK _ ?_⟩
  clear hK K
  refine wpQuiet_step (fun K hK => ?_)
  go_simp
  refine ⟨_, fun w' hw' => rfl, hK _ ?_⟩
  clear hK K
  refine wpQuiet_step (fun K hK => ?_)
  go_simp
  refine ⟨_, fun w' hw' => rfl, hK _ ?_⟩
  clear hK K
  refine wpQuiet_step (fun K hK => ?_)
  go_simp
  apply Exists.intro
  refine And.intro (fun w' hw' => ?_) (hK _ ?_)
  · obtain ⟨hc', hf'⟩ := bcell hw'
    go_simp
    first | rfl | exact ⟨rfl, rfl⟩ | exact ⟨rfl⟩
  clear hK K
  refine wpQuiet_step (fun K hK => ?_)
  go_simp
  refine ⟨_, fun w' hw' => rfl, hK _ ?_⟩
  clear hK K
  refine wpQuiet_step (fun K hK => ?_)
  go_simp
  refine ⟨_, fun w' hw' => rfl, hK _ ?_⟩
  clear hK K
  refine wpQuiet_step (fun K hK => ?_)
  go_simp
  refine ⟨_, fun w' hw' => rfl, hK _ ?_⟩
  clear hK K
  refine wpQuiet_step (fun K hK => ?_)
  go_simp
  apply Exists.intro
  refine And.intro (fun w' hw' => ?_) (hK _ ?_)
  · obtain ⟨hc', hf'⟩ := bcell hw'
    go_simp
    first | rfl | exact ⟨rfl, rfl⟩ | exact ⟨rfl⟩
  clear hK K
  refine wpQuiet_step (fun K hK => ?_)
  go_simp
  refine ⟨_, fun w' hw' => rfl, hK _ ?_⟩
  clear hK K
  refine wpQuiet_step (fun K hK => ?_)
  go_simp
  refine ⟨_, fun w' hw' => rfl, hK _ ?_⟩
  clear hK K
  refine wpQuiet_step (fun K hK => ?_)
  go_simp
  refine ⟨_, fun w' hw' => rfl, hK _ ?_⟩
  clear hK K
  refine wpQuiet_nil ?_
  intro w3 hbn
  clear zz za zr zc a0 a1 a2 a3 a4 a5 a6 a7 a8 a9 a10 a11 a12 a13 c0 c1
  have HX := hide ((unhide HX).trans (hbn.mono (unhide HX).size))
  clear hbn
  have zz := (unhide HX).size
  have za : w.heap.size < w3.heap.size := by omega
  have zr : w.heap.size + 1 < w3.heap.size := by omega
  have zc : c < w3.heap.size := by omega
  obtain ⟨a0, a1, a2, a3, a4, a5, a6, a7, a8, a9, a10, a11, a12, a13⟩ := ((unhide HA).below (unhide HX) (by omega)).all
  obtain ⟨c0, c1⟩ := ((unhide HM).below (unhide HX)).cells
  go_wp2_with fail
  refine (skey_any a.k.kind a.k.num a.k.flt a.k.str a.k.ref _).mono ?_
  rw [keyV_parts, unhide EKC, unhide EKV]
  rintro e w4 ⟨rfl, hb4⟩
  clear zz za zr zc a0 a1 a2 a3 a4 a5 a6 a7 a8 a9 a10 a11 a12 a13 c0 c1
  have HX := hide ((unhide HX).trans (hb4.mono (unhide HX).size))
  clear hb4
  have HNA : Hid (∀ k, w.heap.size ≤ k → ¬ OwnD c (.slice ta D.nt tc) (.slice sa D.ns sc) U D.nt k) := hide (fun k hk h => by have := unhide HO _ h; omega)
  have zz := (unhide HX).size
  have za : w.heap.size < w4.heap.size := by omega
  have zr : w.heap.size + 1 < w4.heap.size := by omega
  have zc : c < w4.heap.size := by omega
  obtain ⟨a0, a1, a2, a3, a4, a5, a6, a7, a8, a9, a10, a11, a12, a13⟩ := ((unhide HA).below (unhide HX) (by omega)).all
  obtain ⟨c0, c1⟩ := ((unhide HM).below (unhide HX)).cells
  rw [unhide ET] at a1
  rw [unhide ES] at a2
  have HXK : Hid (Below W.heap.size W (w4.alloc (.cells #[.int .i64 kc, .int .i64 kv.kind, .int .i64 kv.num, .float .f64 kv.flt, .string kv.str, .int .i64 kv.ref] 68))) := hide ((unhide HX).alloc (unhide HX).size _)
  obtain ⟨g, cq, eg, hg, hgs⟩ := ((unhide HM).below (unhide HX)).site h3
  cases eg
  obtain ⟨X, hX⟩ : ∃ X, X = w4.alloc (.cells #[.int .i64 kc, .int .i64 kv.kind, .int .i64 kv.num, .float .f64 kv.flt, .string kv.str, .int .i64 kv.ref] 68) := ⟨_, rfl⟩
  have hbX : Below w4.heap.size w4 X := by rw [hX]; exact (Below.refl _ _).alloc (Nat.le_refl _) _
  have hS0 : HeldD w.heap.size c g t s (.slice (some ⟨g, 0, none⟩) D.ns sc) (D.S s) a.v X := HeldD.keep (w := w4) ⟨a1, a2, c1, hgs, a9, a10, a11, a12, a13⟩ (hbX.block _ za) (hbX.block _ zc) (hbX.block _ hg)
  have hgW : g < w.heap.size := unhide HO g (.inr (.inr (.inl rfl)))
  go_wp2_with fail
  rw [← hX]
  rw [← hX] at HXK
  have hS0' : HeldD w.heap.size c g t s (.slice (some ⟨g, 0, none⟩) D.ns sc) (D.S s) a.v X.drew := hS0
  clear zz za zr zc a0 a1 a2 a3 a4 a5 a6 a7 a8 a9 a10 a11 a12 a13 c0 c1
  clear hX hgs hbX hg
  refine wpN_held (HeldD w.heap.size c g t s (.slice (some ⟨g, 0, none⟩) D.ns sc) (D.S s) a.v) (by kernel_rfl) ?_
  change wpAnyH _ _ _ _ _ _ _ _ (World.drew _)
  refine tk 0 (v := ?_) rfl (by kernel_rfl) (by rfl) ?_ (by assumption) ?_
  rotate_left
  · intro w' ⟨s0, s1, s2, s3, s4, s5, s6, s7, s8⟩; go_simp; first | done | with_reducible rfl
  simp only [Act.put, List.setIfInBounds_toArray, List.set_cons_succ, List.set_cons_zero]
  refine tk 1 (v := ?_) rfl (by kernel_rfl) (by rfl) ?_ (by assumption) ?_
  rotate_left
  · intro w' ⟨s0, s1, s2, s3, s4, s5, s6, s7, s8⟩; go_simp; first | done | with_reducible rfl
  simp only [Act.put, List.setIfInBounds_toArray, List.set_cons_succ, List.set_cons_zero]
  refine tk 2 (v := ?_) rfl (by kernel_rfl) (by rfl) ?_ (by assumption) ?_
  rotate_left
  · intro w' ⟨s0, s1, s2, s3, s4, s5, s6, s7, s8⟩; go_simp; first | done | with_reducible rfl
  simp only [Act.put, List.setIfInBounds_toArray, List.set_cons_succ, List.set_cons_zero]
  refine tk 3 (v := ?_) rfl (by kernel_rfl) (by rfl) ?_ (by assumption) ?_
  rotate_left
  · intro w' ⟨s0, s1, s2, s3, s4, s5, s6, s7, s8⟩; go_simp; first | done | with_reducible rfl
  simp only [Act.put, List.setIfInBounds_toArray, List.set_cons_succ, List.set_cons_zero]
  refine tk 4 (v := ?_) rfl (by kernel_rfl) (by rfl) ?_ (by assumption) ?_
  rotate_left
  · intro w' ⟨s0, s1, s2, s3, s4, s5, s6, s7, s8⟩; go_simp; first | done | with_reducible rfl
  simp only [Act.put, List.setIfInBounds_toArray, List.set_cons_succ, List.set_cons_zero]
  refine tk 5 (v := ?_) rfl (by kernel_rfl) (by rfl) ?_ (by assumption) ?_
  rotate_left
  · intro w' ⟨s0, s1, s2, s3, s4, s5, s6, s7, s8⟩; go_simp; first | done | with_reducible rfl
  simp only [Act.put, List.setIfInBounds_toArray, List.set_cons_succ, List.set_cons_zero]
  refine tk 6 (v := ?_) rfl (by kernel_rfl) (by rfl) ?_ (by assumption) ?_
  rotate_left
  · intro w' ⟨s0, s1, s2, s3, s4, s5, s6, s7, s8⟩; go_simp; first | done | with_reducible rfl
  simp only [Act.put, List.setIfInBounds_toArray, List.set_cons_succ, List.set_cons_zero]
  refine tk 7 (v := ?_) rfl (by kernel_rfl) (by rfl) ?_ (by assumption) ?_
  rotate_left
  · intro w' ⟨s0, s1, s2, s3, s4, s5, s6, s7, s8⟩; go_simp; first | done | with_reducible rfl
  simp only [Act.put, List.setIfInBounds_toArray, List.set_cons_succ, List.set_cons_zero]
  refine tk 8 (v := ?_) rfl (by kernel_rfl) (by rfl) ?_ (by assumption) ?_
  rotate_left
  · intro w' ⟨s0, s1, s2, s3, s4, s5, s6, s7, s8⟩; go_simp; first | done | with_reducible rfl
  simp only [Act.put, List.setIfInBounds_toArray, List.set_cons_succ, List.set_cons_zero]
  refine tk 9 (v := ?_) rfl (by kernel_rfl) (by rfl) ?_ (by assumption) ?_
  rotate_left
  · intro w' ⟨s0, s1, s2, s3, s4, s5, s6, s7, s8⟩; go_simp; first | done | with_reducible rfl
  simp only [Act.put, List.setIfInBounds_toArray, List.set_cons_succ, List.set_cons_zero]
  refine tk 10 (v := ?_) rfl (by kernel_rfl) (by rfl) ?_ (by assumption) ?_
  rotate_left
  · intro w' ⟨s0, s1, s2, s3, s4, s5, s6, s7, s8⟩; go_simp; first | done | with_reducible rfl
  simp only [Act.put, List.setIfInBounds_toArray, List.set_cons_succ, List.set_cons_zero]
  refine tk 12 (v := ?_) rfl (by kernel_rfl) (by rfl) ?_ (by assumption) ?_
  rotate_left
  · intro w' ⟨s0, s1, s2, s3, s4, s5, s6, s7, s8⟩; go_simp; first | done | with_reducible rfl
  simp only [Act.put, List.setIfInBounds_toArray, List.set_cons_succ, List.set_cons_zero]
  refine tk 13 (v := ?_) rfl (by kernel_rfl) (by rfl) ?_ (by assumption) ?_
  rotate_left
  · intro w' ⟨s0, s1, s2, s3, s4, s5, s6, s7, s8⟩; go_simp; first | done | with_reducible rfl
  simp only [Act.put, List.setIfInBounds_toArray, List.set_cons_succ, List.set_cons_zero]
  refine wpAnyH_ready (rs := [11]) (by kernel_rfl) (by simp) ?_
  refine AllReadyH.cons rfl (fun K hK => ?_) AllReadyH.nil
  go_simp
  refine (l1str_any (D.S s) _).mono ?_
  rintro e w5 ⟨rfl, hb5⟩
  have hzX := (unhide HXK).size
  have hS5 := hS0'.keep (hb5.block w.heap.size (by show _ < X.heap.size; omega)) (hb5.block c (by show _ < X.heap.size; omega)) (hb5.block g (by show _ < X.heap.size; omega))
  have HX5 : Hid (Below W.heap.size W w5) := hide (((unhide HXK).drew).trans (hb5.mono (by show _ ≤ X.heap.size; omega)))
  refine hK.out _ _ hS5 (fun _ => ?_)
  clear hK K hb5 hS0 hS0'
  refine wpAnyH_ready (rs := [14]) (by kernel_rfl) (by simp) ?_
  refine AllReadyH.cons rfl (fun K hK => ?_) AllReadyH.nil
  go_simp
  refine (l5put_any c B t _ _ U D (strV (D.S s)) a.v _ ((unhide HM).below (unhide HX5)) h2 (unhide HG)).mono ?_
  rintro e w6 ⟨rfl, U', hM6, hD6⟩
  generalize hx : (D.T t).code (strV (D.S s)) a.v = x
  rw [hx] at HRES
  have z5 := (unhide HX5).size
  have hS6 : HeldD w.heap.size c g t s (.slice (some ⟨g, 0, none⟩) D.ns sc) (D.S s) a.v w6 := by
    obtain ⟨h0, h1, _, _, h4, h5, h6, h7, h8⟩ := hS5
    have ha := hD6.block w.heap.size (by omega) (unhide HNA _ (Nat.le_refl _))
    obtain ⟨g', cq', eg', _, hs6⟩ := hM6.site (i := s) h3
    cases eg'
    exact ⟨(World.cell?_of_block (a := ⟨w.heap.size, 1, none⟩) ha).trans h0, (World.cell?_of_block (a := ⟨w.heap.size, 2, none⟩) ha).trans h1, hM6.cells.2, hs6, (World.cell?_of_block (a := ⟨w.heap.size, 9, none⟩) ha).trans h4, (World.cell?_of_block (a := ⟨w.heap.size, 10, none⟩) ha).trans h5, (World.cell?_of_block (a := ⟨w.heap.size, 11, none⟩) ha).trans h6, (World.cell?_of_block (a := ⟨w.heap.size, 12, none⟩) ha).trans h7, (World.cell?_of_block (a := ⟨w.heap.size, 13, none⟩) ha).trans h8⟩
  have hq := ((unhide HQ).below (unhide HX5) (by omega)).dst hD6 (unhide HNO)
  obtain ⟨r0, r1, r2, r3, r4, r5, r6, r7, r8, r9, r10, r11⟩ := hq.all
  have fr := hq.frozen
  have zr := hq.lt
  have HM6 := hide hM6
  have HD6 := hide ((Dst.of_below (unhide HX5)).trans hD6)
  refine hK.out _ _ hS6 (fun _ => ?_)
  clear hK K hM6 hD6 hS5 hx z5 hq
  refine tk 15 (v := ?_) rfl (by kernel_rfl) (by rfl) ?_ (by assumption) ?_
  rotate_left
  · intro w' ⟨s0, s1, s2, s3, s4, s5, s6, s7, s8⟩; go_simp; first | done | with_reducible rfl
  (try simp only [Act.put]); (try simp only [List.setIfInBounds_toArray]); (try simp only [List.set_cons_succ]); try simp only [List.set_cons_zero]
  refine wpAnyH_ready (rs := [16]) (by kernel_rfl) (by simp) ?_
  refine AllReadyH.cons rfl (fun K hK => ?_) AllReadyH.nil
  go_simp
  refine hK.out _ _ (hS6.keep (set12_blk w6 (w.heap.size + 1) (ansC x) (by omega)) (set12_blk w6 (w.heap.size + 1) (ansC x) (by omega)) (set12_blk w6 (w.heap.size + 1) (ansC x) (by omega))) (fun _ => ?_)
  clear hK K
  refine wpAnyH_done (by kernel_rfl) ?_ _
  refine QN.normal ?_
  go_wp2_with fail
  refine bodyPost_ret (v := AnV (ansC x)) (by simp [results, Tryz.results14, go_sem, zr, r0, r1, r2, r3, r4, r5, r6, r7, r8, r9, r10, r11, ansC, ansN, ansV]) rfl ?_
  rw [(unhide HRES).1, (unhide HRES).2]
  obtain ⟨m, d⟩ := fin12 rfl (ansC x) (unhide HB) (unhide HO) (by omega) hz (unhide HM6) (unhide HD6)
  exact ⟨rfl, _, _, _, m, d⟩

end Go.Proofs.YtnjgebncghdajaaGreatDoor
