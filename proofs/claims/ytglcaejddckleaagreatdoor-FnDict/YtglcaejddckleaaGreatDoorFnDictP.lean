import Derived.Test.YtglcaejddckleaaGreatDoorRows
import Derived.Test.YtglcaejddckleaaGreatDoorFL
import Derived.OpenShut
import Derived.Test.YtglcaejddckleaaGreatDoorFA
import Derived.Test.YtglcaejddckleaaGreatDoorCards
import Derived.Test.YtglcaejddckleaaGreatDoorTie
set_option linter.unusedVariables false
namespace Go.Proofs.YtglcaejddckleaaGreatDoor
section
open Go.ChangeShapes Go.WideShapes Go.ChangeAt Go.RowKit
namespace dictLaw
abbrev S0 : Value := .slice none 0 0
set_option maxRecDepth 100000 in
set_option maxHeartbeats 400000 in
theorem great (a a' : Option Addr) (len cap len' cap' : Nat) (w : World) (h : (1048576 : Int) < len) :
  Calls Tryz.prog 3 #[.slice a len cap, .slice a' len' cap'] w fun e w' => e = .returned (.bool true) ∧ Below w.heap.size w w' := by
 go_enter Tryz.func3, Tryz.ntmps3
 go_wp2_with fail
 go_ret
 exact ⟨rfl, Below.refl _ _⟩
set_option maxRecDepth 100000 in
set_option maxHeartbeats 400000 in
theorem great' (a a' : Option Addr) (len cap len' cap' : Nat) (w : World) (h0 : (len : Int) ≤ 1048576) (h : (1048576 : Int) < len') :
  Calls Tryz.prog 3 #[.slice a len cap, .slice a' len' cap'] w fun e w' => e = .returned (.bool true) ∧ Below w.heap.size w w' := by
 go_enter Tryz.func3, Tryz.ntmps3
 go_wp2_with fail
 go_ret
 exact ⟨rfl, Below.refl _ _⟩
theorem all (a a' : Option Addr) (len cap len' cap' : Nat) (w : World) (hT : Tabs w) (hcode : len ≤ 1048576 → CodeAt w w.heap.size a len) (hcode' : len' ≤ 1048576 → CodeAt w w.heap.size a' len') :
  Calls Tryz.prog 3 #[.slice a len cap, .slice a' len' cap'] w fun e w' => e = .returned (.bool true) ∧ Below w.heap.size w w' := by
 by_cases h : len ≤ 1048576
 ·by_cases h' : len' ≤ 1048576
  ·obtain ⟨z1, _, _, hw1⟩ := wByte_at a' len' cap' 1 w (hcode' h') (by omega) (by omega)
   obtain ⟨z2, _, _, hw2⟩ := wByte_at a' len' cap' 2 w (hcode' h') (by omega) (by omega)
   exact law_put a a' len cap len' cap' w hT (hcode h) (hcode' h') (by omega) (by omega) z1 z2 hw1 hw2
  ·exact great' a a' len cap len' cap' w (by omega) (by omega)
 ·exact great a a' len cap len' cap' w (by omega)
theorem laid_met (os : Os) : laidMet Tryz.prog Rows.fnDictRow.laid ((withTabs (World.holding Tryz.prog os ⟨#[], #[], []⟩)).forCall (fun _ _ => 0) ⟨#[], #[S0, S0], []⟩).memory :=
 laidMet_of_run' 8 (by kernel_rfl) (by kernel_rfl)
theorem reads (os : Os) {H : Type} (enc : TypeId × Value → H) : ∃ places, DataW.whole enc Tryz.prog ((withTabs (World.holding Tryz.prog os ⟨#[], #[], []⟩)).forCall (fun _ _ => 0) ⟨#[], #[S0, S0], []⟩).memory Tryz.f3.params.toList Rows.fnDictSpec.vars false #[S0, S0].toList 8 = some ([.nil, .nil], [], places) :=
 ⟨[], by kernel_rfl⟩
theorem laid_is : Rows.fnDictRow.laid = laid3 := by kernel_rfl
theorem tabs {W : World} (h : laidMetH Tryz.prog Rows.fnDictRow.laid W) : Tabs W := by
 rw [laid_is] at h; exact tabs_of h
set_option maxRecDepth 100000 in
theorem contract (H : Type) (enc : TypeId × Value → H) (W : World) (base : Nat) (args : Array Value) (ds gs : List (DataW H)) (before : List MemPlace)
  (hval : ∀ (j : Nat) t v, Tryz.f3.params[j]? = some t → args[j]? = some v → Value.okWide Tryz.prog W .any base t v)
  (hW : DataW.Whole enc Tryz.prog Tryz.f3.params.toList Rows.fnDictSpec.vars false W args.toList ds gs before) (hL : laidMetH Tryz.prog Rows.fnDictRow.laid W) :
  Calls Tryz.prog 3 args W fun e W' => ∃ v, e = .returned v ∧ Rows.fnDictSpec.post enc Tryz.prog Tryz.f3 false true false false W args v W' := by
 have hW' := hW
 obtain ⟨p, q, hA0, hV, rfl, hfz, hnd⟩ := hW
 have hA : DataW.TrodAll enc Tryz.prog W 0 (fun _ => true) true Tryz.f3.params.toList args.toList ds p := hA0
 rw [Tryz.params3] at hA hval
 obtain ⟨v0, vs0, d0, ds0, p0, q0, hargs, rfl, rfl, h0, r0⟩ := trodAll_cons hA
 obtain ⟨v1, vs1, d1, ds1, p1, q1, hargs1, rfl, rfl, h1, r1⟩ := trodAll_cons r0
 obtain ⟨rfl, rfl, rfl⟩ := trodAll_nil r1
 obtain rfl : args = #[v0, v1] := by cases args; simp_all
 obtain ⟨rfl, rfl⟩ := trodVars_none hV
 have k0 := h0
 have k1 := h1
 have lt0 : ∀ x ∈ p0, x.block < W.heap.size := by obtain ⟨m, hm⟩ := k0; exact DataW.trod_lt m _ _ _ hm
 have lt1 : ∀ x ∈ p1, x.block < W.heap.size := by obtain ⟨m, hm⟩ := k1; exact DataW.trod_lt m _ _ _ hm
 obtain ⟨a0, len0, cap0, rfl⟩ := okWide_slice Tryz.underlying22 (hval 0 22 v0 rfl rfl)
 obtain ⟨a1, len1, cap1, rfl⟩ := okWide_slice Tryz.underlying22 (hval 1 22 v1 rfl rfl)
 have hcode : len0 ≤ 1048576 → CodeAt W W.heap.size a0 len0 := by
  intro hle
  refine ⟨by omega, ?_⟩
  obtain ⟨fuel, hf⟩ := h0
  rcases open_ints Tryz.underlying22 Tryz.underlying5 (by kernel_rfl) hf with ⟨hcs, _⟩ | ⟨x, l, c, zs, hcs, _, hl, hm, hz, _, hcell, hwz⟩
  ·simp [Value.cells] at hcs
   obtain ⟨rfl, rfl, rfl⟩ := hcs
   exact .inl rfl
  ·simp [Value.cells] at hcs
   obtain ⟨rfl, rfl, rfl⟩ := hcs
   by_cases hl0 : len0 = 0
   ·exact .inl hl0
   ·right
    have hzl : len0 ≤ zs.length := by rw [hz]; split <;> omega
    have hlz : ∀ i, i < len0 → W.cell? (x.add i) = some (.int .u8 (zs.getD i 0)) := fun i hi => hcell i (by omega)
    obtain ⟨b, off, spot⟩ := x
    have h00 := hlz 0 (by omega)
    have hspot : spot = none := by simpa [Addr.add] using World.cell?_spot h00
    subst hspot
    refine ⟨b, off, rfl, ?_, fun i hi => ?_⟩
    ·have := World.block_lt_of_cell? _ _ h00
     simpa [Addr.add] using this
    ·have e : Addr.add ⟨b, off, none⟩ i = ⟨b, off + i, none⟩ := by by_cases h : i = 0 <;> simp [Addr.add, h]
     refine ⟨zs.getD i 0, by rw [← e]; exact hlz i hi, ?_⟩
     have hm' : zs.getD i 0 ∈ zs := by
      rw [List.getD_eq_getElem?_getD, List.getElem?_eq_getElem (by omega)]
      exact List.getElem_mem _
     have := hwz _ hm'
     simp only [Lit.wf, Bool.and_eq_true, decide_eq_true_eq] at this
     have e1 : IntKind.u8.min = 0 := by decide
     have e2 : IntKind.u8.max = 255 := by decide
     rw [e1, e2] at this
     omega
 have hcode1 : len1 ≤ 1048576 → CodeAt W W.heap.size a1 len1 := by
  intro hle
  refine ⟨by omega, ?_⟩
  obtain ⟨fuel, hf⟩ := h1
  rcases open_ints Tryz.underlying22 Tryz.underlying5 (by kernel_rfl) hf with ⟨hcs, _⟩ | ⟨x, l, c, zs, hcs, _, hl, hm, hz, _, hcell, hwz⟩
  ·simp [Value.cells] at hcs
   obtain ⟨rfl, rfl, rfl⟩ := hcs
   exact .inl rfl
  ·simp [Value.cells] at hcs
   obtain ⟨rfl, rfl, rfl⟩ := hcs
   by_cases hl0 : len1 = 0
   ·exact .inl hl0
   ·right
    have hzl : len1 ≤ zs.length := by rw [hz]; split <;> omega
    have hlz : ∀ i, i < len1 → W.cell? (x.add i) = some (.int .u8 (zs.getD i 0)) := fun i hi => hcell i (by omega)
    obtain ⟨b, off, spot⟩ := x
    have h00 := hlz 0 (by omega)
    have hspot : spot = none := by simpa [Addr.add] using World.cell?_spot h00
    subst hspot
    refine ⟨b, off, rfl, ?_, fun i hi => ?_⟩
    ·have := World.block_lt_of_cell? _ _ h00
     simpa [Addr.add] using this
    ·have e : Addr.add ⟨b, off, none⟩ i = ⟨b, off + i, none⟩ := by by_cases h : i = 0 <;> simp [Addr.add, h]
     refine ⟨zs.getD i 0, by rw [← e]; exact hlz i hi, ?_⟩
     have hm' : zs.getD i 0 ∈ zs := by
      rw [List.getD_eq_getElem?_getD, List.getElem?_eq_getElem (by omega)]
      exact List.getElem_mem _
     have := hwz _ hm'
     simp only [Lit.wf, Bool.and_eq_true, decide_eq_true_eq] at this
     have e1 : IntKind.u8.min = 0 := by decide
     have e2 : IntKind.u8.max = 255 := by decide
     rw [e1, e2] at this
     omega
 clear hA0
 refine (all a0 a1 len0 cap0 len1 cap1 W (tabs hL) hcode hcode1).mono fun e W' ⟨he, bel⟩ => ?_
 subst he
 exact ⟨_, rfl, _, _, _, [], _, [], hW', trodAll_mk1 (shut_bool Tryz.underlying4 _), (trodAll_cons_mk (Below.trod laidOut (by kernel_rfl) (of_decide_eq_true (by kernel_rfl)) k0 bel lt0) (trodAll_cons_mk (Below.trod laidOut (by kernel_rfl) (of_decide_eq_true (by kernel_rfl)) k1 bel lt1) trodAll_mk0)), rfl, bel.frame _, fun h => by cases h⟩
set_option maxRecDepth 100000 in
theorem lifted (os : Os) (started : os.Started) (H : Type) (enc : TypeId × Value → H) (F : Go.Stop.Interp) :
  ReturnsInHanded {} Tryz.checked os 3 .any ((OpenSpec.ofChange Rows.fnDictSpec).preRow enc Tryz.prog Tryz.f3 Rows.fnDictRow.domain false Rows.fnDictRow.laid) (((OpenSpec.ofChange Rows.fnDictSpec).at F).post enc Tryz.prog Tryz.f3 false true false false) := by
 obtain ⟨places, hx⟩ := reads os enc
 refine returnsInHanded_of_row (C := Tryz.checked) (s := OpenSpec.ofChange Rows.fnDictSpec) own started (by kernel_rfl) Tryz.func3
  (witness_row_at (enc := enc) (C := Tryz.checked) false (withTabs (World.holding Tryz.prog os ⟨#[], #[], []⟩)) #[S0, S0] rfl (by kernel_rfl) (by kernel_rfl) (by kernel_rfl)
   (OpenSpec.preRow_of_cond 8 hx (by kernel_rfl) (fun k hk => by cases hk) (by kernel_rfl) (laid_met os))) ?_
 intro W base args ds gs before hval hW _ _ _ hL _ _
 exact contract H enc W base args ds gs before hval hW hL
set_option maxRecDepth 100000 in
set_option maxHeartbeats 40000000 in
theorem closed : joinedFacts Tryz.pinned.checked.prog 3 Tryz.f3 (OpenSpec.ofChange Rows.fnDictSpec).bare Rows.fnDictRow = true := by
 unfold joinedFacts
 simp only [Bool.and_eq_true]
 repeat' apply And.intro
 all_goals (as_aux_lemma => kernel_rfl)
theorem said : Rows.FnDictSaid :=
 OpenClaim.holds_of_cond 3 Tryz.f3 rfl rfl rfl rfl rfl rfl rfl ⟨rfl, rfl, rfl, rfl, rfl⟩ rfl rfl rfl rfl rfl (by kernel_rfl) Tryz.func3 closed
  (of_decide_eq_true (by kernel_rfl)) (by unfold Func.isWrapper; first | (rw [if_pos (by decide +kernel)]; kernel_rfl) | (rw [if_neg (by decide +kernel)]; exact ⟨rfl, rfl⟩))
  (fun os started H enc _ F => by rw [OpenClaim.pre_eq_preRow]; exact lifted os started H enc F)
theorem plain (f : FuncId) (fn : Func) (hf : Tryz.pinned.checked.prog.funcNamed "loop.example/shuttle/laws.FnDict" = some f) (hfn : Tryz.pinned.checked.prog.funcs[f]? = some fn) :
  false = Tryz.pinned.checked.prog.looks [] ∧ ∀ (j : Nat) t, fn.params[j]? = some t → Tryz.pinned.checked.prog.wantsStandIn t = false := by
 obtain rfl : f = 3 := Option.some.inj ((show Tryz.prog.funcNamed "loop.example/shuttle/laws.FnDict" = some 3 by kernel_rfl).symm.trans hf) |>.symm
 obtain rfl : fn = Tryz.f3 := (Option.some.inj (Tryz.func3.symm.trans hfn)).symm
 refine ⟨by kernel_rfl, fun j t ht => ?_⟩
 rw [Tryz.params3] at ht
 have hm : t = 22 := by simpa using Array.mem_of_getElem? ht
 subst hm
 exact (show Tryz.prog.wantsStandIn 22 = false by kernel_rfl)
end dictLaw
theorem dict_holds : Rows.FnDictCardSaid :=
 Claim7.holds_tied_plain_at .later [] _ _ _ _ dictLaw.said (fun _ h => by cases h) (by kernel_rfl) (fun _ h => by cases h) fnDict_row_tie rfl ⟨rfl, rfl⟩ (by kernel_rfl) rfl dictLaw.plain (by kernel_rfl)
#print axioms dict_holds
end
end Go.Proofs.YtglcaejddckleaaGreatDoor
