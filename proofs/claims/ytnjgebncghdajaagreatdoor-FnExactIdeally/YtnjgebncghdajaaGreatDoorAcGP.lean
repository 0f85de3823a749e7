/-
  AcG.
-/
import Derived.Test.YtnjgebncghdajaaGreatDoorAcCP
import Derived.ProofKit
import Derived.OpenShut
namespace Go.Proofs.YtnjgebncghdajaaGreatDoor
open Go.ChangeShapes Go.WideShapes Go.ChangeAt Go.RowKit
set_option linter.unusedVariables false
attribute [local go_sem] run_store_float run_equalIn_float

set_option maxRecDepth 100000 in
set_option maxHeartbeats 2000000 in
theorem toAct_any (a : Ac) (w : World) :
    Calls Tryz.prog 15 #[AcV a] w fun e w' => e = .returned (AcV a) ∧ Below w.heap.size w w' := by
  go_enter Tryz.func15, Tryz.ntmps15
  go_wp2_with fail
  refine (toValue_any a.k.kind a.k.num a.k.flt a.k.str a.k.ref _).mono ?_
  rintro e w1 ⟨rfl, hb1⟩
  obtain ⟨hc1, hf1⟩ := bcell hb1
  have hz1 := hb1.size
  simp at hz1
  have y0 : w.heap.size < w1.heap.size := by omega
  have y1 : w.heap.size + 1 < w1.heap.size := by omega
  have y2 : w.heap.size + 1 + 1 < w1.heap.size := by omega
  have HB1 : Hid (Below w.heap.size w w1) := hide (by
    refine Below.trans ?_ (hb1.mono (by simp; omega))
    repeat (refine Below.setCell ?_ (by show w.heap.size ≤ w.heap.size + 1 + 1; omega) _)
    exact (((Below.refl _ _).alloc (Nat.le_refl _) _).alloc (by simp) _).alloc (by simp; omega) _)
  clear hb1
  go_wp2_with fail
  refine (toValue_any a.v.kind a.v.num a.v.flt a.v.str a.v.ref _).mono ?_
  rintro e w2 ⟨rfl, hb2⟩
  obtain ⟨hc2, hf2⟩ := bcell hb2
  have hz2 := hb2.size
  simp at hz2
  have z0 : w.heap.size < w2.heap.size := by omega
  have z1 : w.heap.size + 1 < w2.heap.size := by omega
  have z2 : w.heap.size + 1 + 1 < w2.heap.size := by omega
  have HB2 := hide hb2
  clear hb2
  go_wp2
  refine bodyPost_ret (v := AcV a) (by simp [results, Tryz.results15, go_sem, hc1, hc2, y1]) rfl ⟨rfl, ?_⟩
  have hw2 : Below w.heap.size w w2 := by
    refine Below.trans ?_ ((unhide HB2).mono (by simp; omega))
    repeat (refine Below.setCell ?_ (by show w.heap.size ≤ w.heap.size + 1 + 1; omega) _)
    exact unhide HB1
  repeat (refine Below.setCell ?_ (by first | (show w.heap.size ≤ w.heap.size + 1; omega) | (show w.heap.size ≤ w.heap.size + 1 + 1; omega)) _)
  exact hw2

def szA (a : Ac) (left : Int) : Int := if left < a.k.str.size then -1 else if left - a.k.str.size < a.v.str.size then -1 else left - a.k.str.size - a.v.str.size

set_option maxHeartbeats 1000000 in
theorem szAct_any (a : Ac) (left : Int) (w : World) (hk : a.k.str.size ≤ maxLen) (hv : a.v.str.size ≤ maxLen) (h0 : 0 ≤ left) (h1 : left ≤ 1048576) :
    Calls Tryz.prog 13 #[AcV a, .int .i64 left] w fun e w' => e = .returned (.int .i64 (szA a left)) ∧ Below w.heap.size w w' := by
  have hb0 : Below w.heap.size w (w.alloc (.cells #[.int .i64 a.op, .int .i64 a.t, .int .i64 a.site, .int .i64 a.n, .int .i64 a.k.kind, .int .i64 a.k.num, .float .f64 a.k.flt, .string a.k.str, .int .i64 a.k.ref, .int .i64 a.v.kind, .int .i64 a.v.num, .float .f64 a.v.flt, .string a.v.str, .int .i64 a.v.ref] 41)) := (Below.refl _ _).alloc (Nat.le_refl _) _
  have HB := hide hb0
  clear hb0
  by_cases t0 : left < a.k.str.size
  · have HT : Hid (szA a left = -1) := hide (by unfold szA; rw [if_pos t0])
    go_enter Tryz.func13, Tryz.ntmps13
    go_wp2_with fail
    refine (sz_any a.k.kind a.k.num a.k.flt a.k.str a.k.ref left _ hk h0 h1).mono ?_
    rintro e w1 ⟨rfl, hb⟩
    rw [if_pos t0]
    have HB := hide ((unhide HB).trans (hb.mono (unhide HB).size))
    clear hb
    go_wp2_with fail
    go_ret
    exact ⟨by rw [unhide HT]; rfl, unhide HB⟩
  · have hle : ¬ (left - a.k.str.size < 0) := by omega
    have HT : Hid (szA a left = if left - a.k.str.size < a.v.str.size then -1 else left - a.k.str.size - a.v.str.size) := hide (by unfold szA; rw [if_neg t0])
    go_enter Tryz.func13, Tryz.ntmps13
    go_wp2_with fail
    refine (sz_any a.k.kind a.k.num a.k.flt a.k.str a.k.ref left _ hk h0 h1).mono ?_
    rintro e w1 ⟨rfl, hb⟩
    rw [if_neg (show ¬ left < (a.k.str.size : Int) by omega)]
    obtain ⟨hc, hf⟩ := bcell hb
    have HB := hide ((unhide HB).trans (hb.mono (unhide HB).size))
    clear hb
    go_wp2_with fail
    refine (sz_any a.v.kind a.v.num a.v.flt a.v.str a.v.ref (left - a.k.str.size) _ hv (by omega) (by omega)).mono ?_
    rintro e w2 ⟨rfl, hb⟩
    have HB := hide ((unhide HB).trans (hb.mono (unhide HB).size))
    clear hb hc hf
    by_cases t1 : left - a.k.str.size < a.v.str.size
    · rw [if_pos t1] at HT
      rw [if_pos t1]
      go_wp2_with fail
      go_ret
      exact ⟨by rw [unhide HT]; rfl, unhide HB⟩
    · rw [if_neg t1] at HT
      rw [if_neg t1]
      have hle2 : ¬ (left - a.k.str.size - a.v.str.size < 0) := by omega
      go_wp2_with fail
      go_ret
      exact ⟨by rw [unhide HT]; rfl, unhide HB⟩

end Go.Proofs.YtnjgebncghdajaaGreatDoor
