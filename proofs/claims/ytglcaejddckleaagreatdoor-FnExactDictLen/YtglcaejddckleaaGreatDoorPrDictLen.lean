/-
  The law of DictLen: the walk, the row and the card.
-/
import Derived.Test.YtglcaejddckleaaGreatDoorRows
import Derived.Test.YtglcaejddckleaaGreatDoorDlA
import Derived.Test.YtglcaejddckleaaGreatDoorDkM
import Derived.Deep.RegionHeld3
import Derived.Test.YtglcaejddckleaaGreatDoorCards
import Derived.Test.YtglcaejddckleaaGreatDoorTie
namespace Go.Proofs.YtglcaejddckleaaGreatDoor
open Go.RowKit
set_option linter.unusedVariables false

theorem cells6 {w w' : World} {b : Nat} {v0 v1 v2 v3 v4 v5 : Value} (hb : Below w.heap.size w w') (hl : b < w.heap.size) (h : w.cell? ⟨b, 0, none⟩ = some v0 ∧ w.cell? ⟨b, 1, none⟩ = some v1 ∧ w.cell? ⟨b, 2, none⟩ = some v2 ∧ w.cell? ⟨b, 3, none⟩ = some v3 ∧ w.cell? ⟨b, 4, none⟩ = some v4 ∧ w.cell? ⟨b, 5, none⟩ = some v5) :
    w'.cell? ⟨b, 0, none⟩ = some v0 ∧ w'.cell? ⟨b, 1, none⟩ = some v1 ∧ w'.cell? ⟨b, 2, none⟩ = some v2 ∧ w'.cell? ⟨b, 3, none⟩ = some v3 ∧ w'.cell? ⟨b, 4, none⟩ = some v4 ∧ w'.cell? ⟨b, 5, none⟩ = some v5 :=
  ⟨(hb.cell (p := ⟨b, 0, none⟩) hl).trans h.1, (hb.cell (p := ⟨b, 1, none⟩) hl).trans h.2.1, (hb.cell (p := ⟨b, 2, none⟩) hl).trans h.2.2.1, (hb.cell (p := ⟨b, 3, none⟩) hl).trans h.2.2.2.1, (hb.cell (p := ⟨b, 4, none⟩) hl).trans h.2.2.2.2.1, (hb.cell (p := ⟨b, 5, none⟩) hl).trans h.2.2.2.2.2⟩

set_option maxRecDepth 100000 in
set_option maxHeartbeats 4000000 in
theorem law_dictLen (la : Option Addr) (lc : Nat) (ia : Option Addr) (ic : Nat) (xa : Option Addr) (xc : Nat) (d : Dc) (w : World) (hA : DAt w la ia xa d) (hL : Lens d) (hW : WfD d) (hT : Tabs w) :
    Calls Tryz.prog 9 #[Dv la lc ia ic xa xc d] w fun e w' => e = .returned (.bool true) ∧ Below w.heap.size w w' := by
  have HA := hide hA
  have HL := hide hL
  have HW := hide hW
  have HT := hide hT
  clear hA hL hW hT
  have hb0 : Below w.heap.size w (w.alloc (.cells #[.slice la d.n lc, .slice ia d.m ic, .slice xa d.x xc, .int .i64 d.used, .int .i64 d.live, .int .i64 d.turns] 53)) := (Below.refl _ _).alloc (Nat.le_refl _) _
  have HB0 := hide hb0
  clear hb0
  go_enter Tryz.func9, Tryz.ntmps9
  go_wp2_with fail
  refine (szDict_any la lc ia ic xa xc d 1048576 _ ((unhide HA).below (unhide HB0)) (unhide HL) (by omega) (by omega)).mono ?_
  rintro e w1 ⟨⟨r, rfl, hr⟩, hb1⟩
  obtain ⟨hc1, hf1⟩ := bcell hb1
  have hz1 := hb1.size
  simp at hz1
  have y1 : w.heap.size < w1.heap.size := by omega
  have a1 : w1.cell? ⟨w.heap.size, 0, none⟩ = some (.slice la d.n lc) ∧ w1.cell? ⟨w.heap.size, 1, none⟩ = some (.slice ia d.m ic) ∧ w1.cell? ⟨w.heap.size, 2, none⟩ = some (.slice xa d.x xc) ∧ w1.cell? ⟨w.heap.size, 3, none⟩ = some (.int .i64 d.used) ∧ w1.cell? ⟨w.heap.size, 4, none⟩ = some (.int .i64 d.live) ∧ w1.cell? ⟨w.heap.size, 5, none⟩ = some (.int .i64 d.turns) := by
    refine ⟨?_, ?_, ?_, ?_, ?_, ?_⟩ <;> (rw [hc1 _ _ (by simp)]; simp [go_sem])
  have HB1 := hide ((unhide HB0).trans (hb1.mono (unhide HB0).size))
  clear hb1 hc1 hf1 hz1
  rcases hr with rfl | ⟨hr0, hr1, hS⟩
  · clear a1
    go_wp2_with fail
    go_ret
    exact ⟨rfl, unhide HB1⟩
  have HS := hide hS
  clear hS
  obtain ⟨p0, p1, p2, p3, p4, p5⟩ := a1
  go_wp2_with fail
  refine (toDict_any la lc ia ic xa xc d _ ((unhide HA).below (unhide HB1)) (unhide HS)).mono ?_
  rintro e w2 ⟨⟨s0, s1, s2, rfl, hrow⟩, hb2⟩
  have a2 := cells6 hb2 y1 ⟨p0, p1, p2, p3, p4, p5⟩
  have y2 : w.heap.size < w2.heap.size := Nat.lt_of_lt_of_le y1 hb2.size
  have HB2 := hide ((unhide HB1).trans (hb2.mono (unhide HB1).size))
  have HR := hide hrow
  clear hb2 hrow p0 p1 p2 p3 p4 p5
  go_wp2_with fail
  refine (specLen (some ⟨s0, 0, none⟩) d.n (some ⟨s1, 0, none⟩) d.m (some ⟨s2, 0, none⟩) d.x d _ (unhide HR) (unhide HS) (unhide HW)).mono ?_
  rintro e w3 ⟨rfl, hb3⟩
  have a3 := cells6 hb3 y2 a2
  have y3 : w.heap.size < w3.heap.size := Nat.lt_of_lt_of_le y2 hb3.size
  have HB3 := hide ((unhide HB2).trans (hb3.mono (unhide HB2).size))
  clear hb3 HR a2
  obtain ⟨p0, p1, p2, p3, p4, p5⟩ := a3
  go_wp2_with fail
  refine (toDict_any la lc ia ic xa xc d _ ((unhide HA).below (unhide HB3)) (unhide HS)).mono ?_
  rintro e w4 ⟨⟨t0, t1, t2, rfl, hrow⟩, hb4⟩
  have a4 := cells6 hb4 y3 ⟨p0, p1, p2, p3, p4, p5⟩
  have y4 : w.heap.size < w4.heap.size := Nat.lt_of_lt_of_le y3 hb4.size
  have HB4 := hide ((unhide HB3).trans (hb4.mono (unhide HB3).size))
  have HR := hide hrow
  have HBs : Hid (∀ o, Below w.heap.size w (w4.alloc o)) := hide (fun o => (unhide HB4).alloc (by omega) _)
  clear hb4 hrow p0 p1 p2 p3 p4 p5
  go_wp2_with fail
  refine (implLen (some ⟨t0, 0, none⟩) d.n (some ⟨t1, 0, none⟩) d.m (some ⟨t2, 0, none⟩) d.x d _ (lastsT _ _ (unhide HT) (unhide HBs _)) ((unhide HR).below ((Below.refl _ _).alloc (Nat.le_refl _) _)) (unhide HS) (unhide HW)).mono ?_
  rintro e w5 ⟨rfl, hb5⟩
  obtain ⟨hc5, hf5⟩ := bcell hb5
  have hz5 := hb5.size
  simp at hz5
  have y5 : w.heap.size < w5.heap.size := by omega
  have z5 : w4.heap.size < w5.heap.size := by omega
  obtain ⟨p0, p1, p2, p3, p4, p5⟩ := a4
  have a5 : w5.cell? ⟨w.heap.size, 0, none⟩ = some (.slice la d.n lc) ∧ w5.cell? ⟨w.heap.size, 1, none⟩ = some (.slice ia d.m ic) ∧ w5.cell? ⟨w.heap.size, 2, none⟩ = some (.slice xa d.x xc) ∧ w5.cell? ⟨w.heap.size, 3, none⟩ = some (.int .i64 d.used) ∧ w5.cell? ⟨w.heap.size, 4, none⟩ = some (.int .i64 d.live) ∧ w5.cell? ⟨w.heap.size, 5, none⟩ = some (.int .i64 d.turns) := by
    refine ⟨?_, ?_, ?_, ?_, ?_, ?_⟩ <;> (rw [hc5 _ _ (by simp; omega), World.cell?_alloc_lt _ _ _ (by exact y4)]; assumption)
  have x5 : w5.cell? ⟨w4.heap.size, 0, none⟩ = some (.slice (some ⟨t0, 0, none⟩) d.n d.n) ∧ w5.cell? ⟨w4.heap.size, 1, none⟩ = some (.slice (some ⟨t1, 0, none⟩) d.m d.m) ∧ w5.cell? ⟨w4.heap.size, 2, none⟩ = some (.slice (some ⟨t2, 0, none⟩) d.x d.x) ∧ w5.cell? ⟨w4.heap.size, 3, none⟩ = some (.int .i64 d.used) ∧ w5.cell? ⟨w4.heap.size, 4, none⟩ = some (.int .i64 d.live) ∧ w5.cell? ⟨w4.heap.size, 5, none⟩ = some (.int .i64 d.turns) := by
    refine ⟨?_, ?_, ?_, ?_, ?_, ?_⟩ <;> (rw [hc5 _ _ (by simp)]; simp [go_sem])
  have HR5 := hide (((unhide HR).below ((Below.refl _ _).alloc (Nat.le_refl _) _)).below hb5)
  have HB5 := hide ((unhide HBs _).trans (hb5.mono (by simp; omega)))
  clear hb5 hc5 hf5 HR hz5 p0 p1 p2 p3 p4 p5 HBs
  go_wp2
  have HBd : Hid (Below w.heap.size w w5.drew) := hide (unhide HB5).drew
  have HRd : Hid (DAt w5.drew (some ⟨t0, 0, none⟩) (some ⟨t1, 0, none⟩) (some ⟨t2, 0, none⟩) d) := hide ((unhide HR5).below (Below.refl _ _).drew)
  obtain ⟨p0, p1, p2, p3, p4, p5⟩ := a5
  obtain ⟨q0, q1, q2, q3, q4, q5⟩ := x5
  have pd : w5.drew.cell? ⟨w.heap.size, 0, none⟩ = some (.slice la d.n lc) ∧ w5.drew.cell? ⟨w.heap.size, 1, none⟩ = some (.slice ia d.m ic) ∧ w5.drew.cell? ⟨w.heap.size, 2, none⟩ = some (.slice xa d.x xc) ∧ w5.drew.cell? ⟨w.heap.size, 3, none⟩ = some (.int .i64 d.used) ∧ w5.drew.cell? ⟨w.heap.size, 4, none⟩ = some (.int .i64 d.live) ∧ w5.drew.cell? ⟨w.heap.size, 5, none⟩ = some (.int .i64 d.turns) := ⟨p0, p1, p2, p3, p4, p5⟩
  have qd : w5.drew.cell? ⟨w4.heap.size, 0, none⟩ = some (.slice (some ⟨t0, 0, none⟩) d.n d.n) ∧ w5.drew.cell? ⟨w4.heap.size, 1, none⟩ = some (.slice (some ⟨t1, 0, none⟩) d.m d.m) ∧ w5.drew.cell? ⟨w4.heap.size, 2, none⟩ = some (.slice (some ⟨t2, 0, none⟩) d.x d.x) ∧ w5.drew.cell? ⟨w4.heap.size, 3, none⟩ = some (.int .i64 d.used) ∧ w5.drew.cell? ⟨w4.heap.size, 4, none⟩ = some (.int .i64 d.live) ∧ w5.drew.cell? ⟨w4.heap.size, 5, none⟩ = some (.int .i64 d.turns) := ⟨q0, q1, q2, q3, q4, q5⟩
  obtain ⟨p0, p1, p2, p3, p4, p5⟩ := pd
  obtain ⟨q0, q1, q2, q3, q4, q5⟩ := qd
  go_region_held3 (fun w' => w'.cell? ⟨w.heap.size, 0, none⟩ = some (.slice la d.n lc) ∧ w'.cell? ⟨w.heap.size, 1, none⟩ = some (.slice ia d.m ic) ∧ w'.cell? ⟨w.heap.size, 2, none⟩ = some (.slice xa d.x xc) ∧ w'.cell? ⟨w.heap.size, 3, none⟩ = some (.int .i64 d.used) ∧ w'.cell? ⟨w.heap.size, 4, none⟩ = some (.int .i64 d.live) ∧ w'.cell? ⟨w.heap.size, 5, none⟩ = some (.int .i64 d.turns) ∧ w'.cell? ⟨w4.heap.size, 0, none⟩ = some (.slice (some ⟨t0, 0, none⟩) d.n d.n) ∧ w'.cell? ⟨w4.heap.size, 1, none⟩ = some (.slice (some ⟨t1, 0, none⟩) d.m d.m) ∧ w'.cell? ⟨w4.heap.size, 2, none⟩ = some (.slice (some ⟨t2, 0, none⟩) d.x d.x) ∧ w'.cell? ⟨w4.heap.size, 3, none⟩ = some (.int .i64 d.used) ∧ w'.cell? ⟨w4.heap.size, 4, none⟩ = some (.int .i64 d.live) ∧ w'.cell? ⟨w4.heap.size, 5, none⟩ = some (.int .i64 d.turns)) (first | exact ⟨by assumption, by assumption, by assumption, by assumption, by assumption, by assumption, by assumption, by assumption, by assumption, by assumption, by assumption, by assumption⟩ | go_keep)
    (first
      | (go_at_call 30; refine (toDict_any la lc ia ic xa xc d _ ((unhide HA).below (unhide HBd)) (unhide HS)).mono ?_; rintro e w6 ⟨⟨v0, v1, v2, rfl, hrow6⟩, hb6⟩; obtain ⟨m0, m1, m2, m3, m4, m5⟩ := cells6 hb6 y5 ⟨p0, p1, p2, p3, p4, p5⟩; obtain ⟨n0, n1, n2, n3, n4, n5⟩ := cells6 hb6 z5 ⟨q0, q1, q2, q3, q4, q5⟩; have y6 := Nat.lt_of_lt_of_le y5 hb6.size; have z6 := Nat.lt_of_lt_of_le z5 hb6.size; have HR6 := hide hrow6; have HX6 := hide ((unhide HRd).below hb6); have HB6 := hide ((unhide HBd).trans (hb6.mono (unhide HBd).size)); clear hrow6 hb6)
      | (go_at_call 31; refine (eqDict_same (some ⟨t0, 0, none⟩) (some ⟨v0, 0, none⟩) (some ⟨t1, 0, none⟩) (some ⟨v1, 0, none⟩) (some ⟨t2, 0, none⟩) (some ⟨v2, 0, none⟩) d.n d.n d.m d.m d.x d.x d _ (unhide HX6) (unhide HR6) (unhide HS)).mono ?_; rintro e w7 ⟨rfl, hb7⟩; obtain ⟨m0', m1', m2', m3', m4', m5'⟩ := cells6 hb7 y6 ⟨m0, m1, m2, m3, m4, m5⟩; obtain ⟨n0', n1', n2', n3', n4', n5'⟩ := cells6 hb7 z6 ⟨n0, n1, n2, n3, n4, n5⟩; have HB7 := hide ((unhide HB6).trans (hb7.mono (unhide HB6).size)); clear hb7))
  go_wp2
  go_ret
  exact ⟨rfl, unhide HB7⟩
end Go.Proofs.YtglcaejddckleaaGreatDoor

namespace Go.Proofs.YtglcaejddckleaaGreatDoor
open Go.ChangeShapes Go.WideShapes Go.ChangeAt Go.RowKit
set_option linter.unusedVariables false

namespace dictLenLaw
abbrev D0 : Value := .agg #[.slice none 0 0, .slice none 0 0, .slice none 0 0, .int .i64 0, .int .i64 0, .int .i64 0]
theorem laid_met (os : Os) : laidMet Tryz.prog Rows.fnExactDictLenRow.laid ((withTabs (World.holding Tryz.prog os ⟨#[], #[], []⟩)).forCall (fun _ _ => 0) ⟨#[], #[D0], []⟩).memory :=
  laidMet_of_run' 8 (by kernel_rfl) (by kernel_rfl)
theorem reads (os : Os) {H : Type} (enc : TypeId × Value → H) : ∃ places, DataW.whole enc Tryz.prog ((withTabs (World.holding Tryz.prog os ⟨#[], #[], []⟩)).forCall (fun _ _ => 0) ⟨#[], #[D0], []⟩).memory Tryz.f9.params.toList Rows.fnExactDictLenSpec.vars false #[D0].toList 8 = some ([.agg [.nil, .nil, .nil, .lit (.int .i64 0), .lit (.int .i64 0), .lit (.int .i64 0)]], [], places) :=
  ⟨[], by kernel_rfl⟩

theorem laid_is : Rows.fnExactDictLenRow.laid = laid3 := by kernel_rfl
theorem tabs {W : World} (h : laidMetH Tryz.prog Rows.fnExactDictLenRow.laid W) : Tabs W := by
  rw [laid_is] at h; exact tabs_of h

set_option maxRecDepth 100000 in
theorem contract (H : Type) (enc : TypeId × Value → H) (W : World) (base : Nat) (args : Array Value) (ds gs : List (DataW H)) (before : List MemPlace)
    (hval : ∀ (j : Nat) t v, Tryz.f9.params[j]? = some t → args[j]? = some v → Value.okWide Tryz.prog W .any base t v)
    (hW : DataW.Whole enc Tryz.prog Tryz.f9.params.toList Rows.fnExactDictLenSpec.vars false W args.toList ds gs before) (hL : laidMetH Tryz.prog Rows.fnExactDictLenRow.laid W) :
    Calls Tryz.prog 9 args W fun e W' => ∃ v, e = .returned v ∧ Rows.fnExactDictLenSpec.post enc Tryz.prog Tryz.f9 false true false false W args v W' := by
  have hW' := hW
  obtain ⟨p, q, hA0, hV, rfl, hfz, hnd⟩ := hW
  have hA : DataW.TrodAll enc Tryz.prog W 0 (fun _ => true) true Tryz.f9.params.toList args.toList ds p := hA0
  rw [Tryz.params9] at hA hval
  obtain ⟨v0, vs0, d0, ds0, p0, q0, hargs, rfl, rfl, h0, r0⟩ := trodAll_cons hA
  obtain ⟨rfl, rfl, rfl⟩ := trodAll_nil r0
  obtain rfl : args = #[v0] := by cases args; simp_all
  obtain ⟨rfl, rfl⟩ := trodVars_none hV
  have k0 := h0
  have lt0 : ∀ x ∈ p0, x.block < W.heap.size := by obtain ⟨m, hm⟩ := k0; exact DataW.trod_lt m _ _ _ hm
  obtain ⟨la, lc, ia, ic, xa, xc, d, rfl, hD, hLn, hWf⟩ := open_dict (hval 0 53 v0 rfl rfl) h0
  clear hA0
  refine (law_dictLen la lc ia ic xa xc d W hD hLn hWf (tabs hL)).mono fun e W' ⟨he, bel⟩ => ?_
  subst he
  exact ⟨_, rfl, _, _, _, [], _, [], hW', trodAll_mk1 (shut_bool Tryz.underlying4 _), (trodAll_cons_mk (Below.trod laidOut (by kernel_rfl) (of_decide_eq_true (by kernel_rfl)) k0 bel lt0) trodAll_mk0), rfl, bel.frame _, fun h => by cases h⟩

set_option maxRecDepth 100000 in
theorem lifted (os : Os) (started : os.Started) (H : Type) (enc : TypeId × Value → H) (F : Go.Stop.Interp) :
    ReturnsInHanded {} Tryz.checked os 9 .any ((OpenSpec.ofChange Rows.fnExactDictLenSpec).preRow enc Tryz.prog Tryz.f9 Rows.fnExactDictLenRow.domain false Rows.fnExactDictLenRow.laid) (((OpenSpec.ofChange Rows.fnExactDictLenSpec).at F).post enc Tryz.prog Tryz.f9 false true false false) := by
  obtain ⟨places, hx⟩ := reads os enc
  refine returnsInHanded_of_row (C := Tryz.checked) (s := OpenSpec.ofChange Rows.fnExactDictLenSpec) own started (by kernel_rfl) Tryz.func9
    (witness_row_at (enc := enc) (C := Tryz.checked) false (withTabs (World.holding Tryz.prog os ⟨#[], #[], []⟩)) #[D0] rfl (by kernel_rfl) (by kernel_rfl) (by kernel_rfl)
      (OpenSpec.preRow_of_cond 8 hx (by kernel_rfl) (fun k hk => by cases hk) (by kernel_rfl) (laid_met os))) ?_
  intro W base args ds gs before hval hW _ _ _ hL _ _
  exact contract H enc W base args ds gs before hval hW hL

theorem said : Rows.FnExactDictLenSaid :=
  OpenClaim.holds_of_cond 9 Tryz.f9 rfl rfl rfl rfl rfl rfl rfl ⟨rfl, rfl, rfl, rfl, rfl⟩ rfl rfl rfl rfl rfl (by kernel_rfl) Tryz.func9 (by kernel_rfl)
    (of_decide_eq_true (by kernel_rfl)) (by unfold Func.isWrapper; first | (rw [if_pos (by decide +kernel)]; kernel_rfl) | (rw [if_neg (by decide +kernel)]; exact ⟨rfl, rfl⟩))
    (fun os started H enc _ F => by rw [OpenClaim.pre_eq_preRow]; exact lifted os started H enc F)

theorem plain (f : FuncId) (fn : Func) (hf : Tryz.pinned.checked.prog.funcNamed "loop.example/shuttle/laws.FnExactDictLen" = some f) (hfn : Tryz.pinned.checked.prog.funcs[f]? = some fn) :
    false = Tryz.pinned.checked.prog.looks [] ∧ ∀ (j : Nat) t, fn.params[j]? = some t → Tryz.pinned.checked.prog.wantsStandIn t = false := by
  obtain rfl : f = 9 := Option.some.inj ((show Tryz.prog.funcNamed "loop.example/shuttle/laws.FnExactDictLen" = some 9 by kernel_rfl).symm.trans hf) |>.symm
  obtain rfl : fn = Tryz.f9 := (Option.some.inj (Tryz.func9.symm.trans hfn)).symm
  refine ⟨by kernel_rfl, fun j t ht => ?_⟩
  rw [Tryz.params9] at ht
  obtain rfl : t = 53 := by simpa using Array.mem_of_getElem? ht
  exact (show Tryz.prog.wantsStandIn 53 = false by kernel_rfl)
end dictLenLaw

/-- The card. -/
theorem dictLen_holds : Rows.FnExactDictLenCardSaid :=
  Claim7.holds_tied_plain_at .later [] _ _ _ _ dictLenLaw.said (fun _ h => by cases h) (by kernel_rfl) (fun _ h => by cases h) fnExactDictLen_row_tie rfl ⟨rfl, rfl⟩ (by kernel_rfl) rfl dictLenLaw.plain (by kernel_rfl)
#print axioms dictLen_holds
end Go.Proofs.YtglcaejddckleaaGreatDoor
