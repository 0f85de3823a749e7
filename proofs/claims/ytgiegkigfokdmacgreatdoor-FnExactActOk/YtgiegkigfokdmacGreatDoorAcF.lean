/-
  Acts: the law's own small functions on an Act; an Act that comes in; the walk of ActOk's law.
-/
import Derived.Test.YtgiegkigfokdmacGreatDoorAcC
import Derived.ProofKit
import Derived.OpenShut
namespace Go.Proofs.YtgiegkigfokdmacGreatDoor
open Go.ChangeShapes Go.WideShapes Go.ChangeAt Go.RowKit
set_option linter.unusedVariables false
attribute [local go_sem] run_store_float run_equalIn_float

set_option maxRecDepth 100000 in
set_option maxHeartbeats 2000000 in
theorem toAct_any (a : Ac) (w : World) :
    Calls Tryz.prog 19 #[AcV a] w fun e w' => e = .returned (AcV a) ∧ Below w.heap.size w w' := by
  go_enter Tryz.func19, Tryz.ntmps19
  go_wp2_with fail
  refine (toValue_any a.k.kind a.k.num a.k.flt a.k.str a.k.ref _).mono ?_
  rintro e w1 ⟨rfl, hb1⟩
  obtain ⟨hc1, hf1⟩ := bcell hb1
  have hz1 := hb1.size
  simp at hz1
  have y0 : w.heap.size < w1.heap.size := by omega
  have y1 : w.heap.size + 1 < w1.heap.size := by omega
  have y2 : w.heap.size + 1 + 1 < w1.heap.size := by omega
  have HB1 : Hid (Below w.heap.size w w1) := hide (by
    refine Below.trans ?_ (hb1.mono (by simp; omega))
    repeat (refine Below.setCell ?_ (by show w.heap.size ≤ w.heap.size + 1 + 1; omega) _)
    exact (((Below.refl _ _).alloc (Nat.le_refl _) _).alloc (by simp) _).alloc (by simp; omega) _)
  clear hb1
  go_wp2_with fail
  refine (toValue_any a.v.kind a.v.num a.v.flt a.v.str a.v.ref _).mono ?_
  rintro e w2 ⟨rfl, hb2⟩
  obtain ⟨hc2, hf2⟩ := bcell hb2
  have hz2 := hb2.size
  simp at hz2
  have z0 : w.heap.size < w2.heap.size := by omega
  have z1 : w.heap.size + 1 < w2.heap.size := by omega
  have z2 : w.heap.size + 1 + 1 < w2.heap.size := by omega
  have HB2 := hide hb2
  clear hb2
  go_wp2
  refine bodyPost_ret (v := AcV a) (by simp [results, Tryz.results19, go_sem, hc1, hc2, y1]) rfl ⟨rfl, ?_⟩
  have hw2 : Below w.heap.size w w2 := by
    refine Below.trans ?_ ((unhide HB2).mono (by simp; omega))
    repeat (refine Below.setCell ?_ (by show w.heap.size ≤ w.heap.size + 1 + 1; omega) _)
    exact unhide HB1
  repeat (refine Below.setCell ?_ (by first | (show w.heap.size ≤ w.heap.size + 1; omega) | (show w.heap.size ≤ w.heap.size + 1 + 1; omega)) _)
  exact hw2

def szA (a : Ac) (left : Int) : Int := if left < a.k.str.size then -1 else if left - a.k.str.size < a.v.str.size then -1 else left - a.k.str.size - a.v.str.size

set_option maxHeartbeats 1000000 in
theorem szAct_any (a : Ac) (left : Int) (w : World) (hk : a.k.str.size ≤ maxLen) (hv : a.v.str.size ≤ maxLen) (h0 : 0 ≤ left) (h1 : left ≤ 1048576) :
    Calls Tryz.prog 17 #[AcV a, .int .i64 left] w fun e w' => e = .returned (.int .i64 (szA a left)) ∧ Below w.heap.size w w' := by
  have hb0 : Below w.heap.size w (w.alloc (.cells #[.int .i64 a.op, .int .i64 a.t, .int .i64 a.site, .int .i64 a.n, .int .i64 a.k.kind, .int .i64 a.k.num, .float .f64 a.k.flt, .string a.k.str, .int .i64 a.k.ref, .int .i64 a.v.kind, .int .i64 a.v.num, .float .f64 a.v.flt, .string a.v.str, .int .i64 a.v.ref] 49)) := (Below.refl _ _).alloc (Nat.le_refl _) _
  have HB := hide hb0
  clear hb0
  by_cases t0 : left < a.k.str.size
  · have HT : Hid (szA a left = -1) := hide (by unfold szA; rw [if_pos t0])
    go_enter Tryz.func17, Tryz.ntmps17
    go_wp2_with fail
    refine (sz_any a.k.kind a.k.num a.k.flt a.k.str a.k.ref left _ hk h0 h1).mono ?_
    rintro e w1 ⟨rfl, hb⟩
    rw [if_pos t0]
    have HB := hide ((unhide HB).trans (hb.mono (unhide HB).size))
    clear hb
    go_wp2_with fail
    go_ret
    exact ⟨by rw [unhide HT]; rfl, unhide HB⟩
  · have hle : ¬ (left - a.k.str.size < 0) := by omega
    have HT : Hid (szA a left = if left - a.k.str.size < a.v.str.size then -1 else left - a.k.str.size - a.v.str.size) := hide (by unfold szA; rw [if_neg t0])
    go_enter Tryz.func17, Tryz.ntmps17
    go_wp2_with fail
    refine (sz_any a.k.kind a.k.num a.k.flt a.k.str a.k.ref left _ hk h0 h1).mono ?_
    rintro e w1 ⟨rfl, hb⟩
    rw [if_neg (show ¬ left < (a.k.str.size : Int) by omega)]
    obtain ⟨hc, hf⟩ := bcell hb
    have HB := hide ((unhide HB).trans (hb.mono (unhide HB).size))
    clear hb
    go_wp2_with fail
    refine (sz_any a.v.kind a.v.num a.v.flt a.v.str a.v.ref (left - a.k.str.size) _ hv (by omega) (by omega)).mono ?_
    rintro e w2 ⟨rfl, hb⟩
    have HB := hide ((unhide HB).trans (hb.mono (unhide HB).size))
    clear hb hc hf
    by_cases t1 : left - a.k.str.size < a.v.str.size
    · rw [if_pos t1] at HT
      rw [if_pos t1]
      go_wp2_with fail
      go_ret
      exact ⟨by rw [unhide HT]; rfl, unhide HB⟩
    · rw [if_neg t1] at HT
      rw [if_neg t1]
      have hle2 : ¬ (left - a.k.str.size - a.v.str.size < 0) := by omega
      go_wp2_with fail
      go_ret
      exact ⟨by rw [unhide HT]; rfl, unhide HB⟩

set_option maxRecDepth 100000 in
set_option maxHeartbeats 2000000 in
theorem law_actOk (a : Ac) (w : World) (hk : a.k.str.size ≤ maxLen) (hv : a.v.str.size ≤ maxLen) :
    Calls Tryz.prog 4 #[AcV a] w fun e w' => e = .returned (.bool true) ∧ Below w.heap.size w w' := by
  have hb0 : Below w.heap.size w (w.alloc (.cells #[.int .i64 a.op, .int .i64 a.t, .int .i64 a.site, .int .i64 a.n, .int .i64 a.k.kind, .int .i64 a.k.num, .float .f64 a.k.flt, .string a.k.str, .int .i64 a.k.ref, .int .i64 a.v.kind, .int .i64 a.v.num, .float .f64 a.v.flt, .string a.v.str, .int .i64 a.v.ref] 49)) := (Below.refl _ _).alloc (Nat.le_refl _) _
  have HB := hide hb0
  clear hb0
  go_enter Tryz.func4, Tryz.ntmps4
  go_wp2_with fail
  refine (szAct_any a 1048576 _ hk hv (by omega) (by omega)).mono ?_
  rintro e w1 ⟨rfl, hb⟩
  obtain ⟨hc1, hf1⟩ := bcell hb
  have hz1 := hb.size
  simp at hz1
  have y1 : w.heap.size < w1.heap.size := by omega
  have HB := hide ((unhide HB).trans (hb.mono (unhide HB).size))
  clear hb
  by_cases hneg : szA a 1048576 < 0
  · go_wp2_with fail
    go_ret
    exact ⟨rfl, unhide HB⟩
  go_wp2_with fail
  refine (toAct_any a _).mono ?_
  rintro e w2 ⟨rfl, hb⟩
  obtain ⟨hc2, hf2⟩ := bcell hb
  have y2 := Nat.lt_of_lt_of_le y1 hb.size
  have HB := hide ((unhide HB).trans (hb.mono (unhide HB).size))
  clear hb
  go_wp2_with fail
  refine (specActOk a _).mono ?_
  rintro e w3 ⟨rfl, hb⟩
  obtain ⟨hc3, hf3⟩ := bcell hb
  have y3 := Nat.lt_of_lt_of_le y2 hb.size
  have HB := hide ((unhide HB).trans (hb.mono (unhide HB).size))
  clear hb
  go_wp2_with fail
  refine (toAct_any a _).mono ?_
  rintro e w4 ⟨rfl, hb⟩
  have HB := hide ((unhide HB).trans (hb.mono (unhide HB).size))
  clear hb
  go_wp2_with fail
  refine (implActOk a _).mono ?_
  rintro e w5 ⟨rfl, hb⟩
  have HB := hide ((unhide HB).trans (hb.mono (unhide HB).size))
  clear hb
  cases hab : actB a
  · go_wp2_with fail
    go_ret
    exact ⟨rfl, unhide HB⟩
  · go_wp2_with fail
    go_ret
    exact ⟨rfl, unhide HB⟩

section
variable {H : Type} {enc : TypeId × Value → H} {P : Program} {w : World} {base : Nat} {spare : Nat → Bool} {held : Bool}

/-- The fields of an Act. -/
structure Fa (P : Program) (t ti tv : TypeId) : Prop where
  st : ∃ f0 f1 f2 f3 f4 f5 : Field, P.underlying t = some (.struct #[f0, f1, f2, f3, f4, f5]) ∧ f0.type = ti ∧ f1.type = ti ∧ f2.type = ti ∧ f3.type = ti ∧ f4.type = tv ∧ f5.type = tv ∧ f0.offset = 0 ∧ f1.offset = 1 ∧ f2.offset = 2 ∧ f3.offset = 3 ∧ f4.offset = 4 ∧ f5.offset = 9
  ci : P.cellsOf ti = 1
  cv : P.cellsOf tv = 5
  ct : P.cellsOf t = 14
  ui : P.underlying ti = some (.int .i64)

theorem list14 {α : Type} : ∀ {cs : List α}, cs.length = 14 → ∃ c0 c1 c2 c3 c4 c5 c6 c7 c8 c9 c10 c11 c12 c13, cs = [c0, c1, c2, c3, c4, c5, c6, c7, c8, c9, c10, c11, c12, c13]
  | [c0, c1, c2, c3, c4, c5, c6, c7, c8, c9, c10, c11, c12, c13], _ => ⟨c0, c1, c2, c3, c4, c5, c6, c7, c8, c9, c10, c11, c12, c13, rfl⟩

theorem read_act {t ti tv tn tf ts : TypeId} (F : Fa P t ti tv) (G : Fs P tv ti tn tf ts) {fuel : Nat} {cs : List Value} {x : DataW H × List MemPlace} (h : DataW.trod enc P w base spare held fuel t cs = some x) :
    ∃ a : Ac, cs = (AcV a).cells.toList ∧ a.k.str.size ≤ maxLen ∧ a.v.str.size ≤ maxLen := by
  obtain ⟨f0, f1, f2, f3, f4, f5, hu, t0, t1, t2, t3, t4, t5, o0, o1, o2, o3, o4, o5⟩ := F.st
  obtain ⟨xs, n, _, rfl, hl, hlen, hf⟩ := DataW.trod_struct hu h
  rw [F.ct] at hl
  obtain ⟨c0, c1, c2, c3, c4, c5, c6, c7, c8, c9, c10, c11, c12, c13, rfl⟩ := list14 hl
  match xs, hlen with
  | [y0, y1, y2, y3, y4, y5], _ =>
    have h0 := hf 0 f0 rfl
    have h1 := hf 1 f1 rfl
    have h2 := hf 2 f2 rfl
    have h3 := hf 3 f3 rfl
    have h4 := hf 4 f4 rfl
    have h5 := hf 5 f5 rfl
    simp only [t0, t1, t2, t3, t4, t5, o0, o1, o2, o3, o4, o5, F.ci, F.cv, List.drop_zero, List.drop_succ_cons, List.take_succ_cons, List.take_zero, List.getElem?_cons_zero, List.getElem?_cons_succ] at h0 h1 h2 h3 h4 h5
    obtain ⟨a0, e0, r0, w0⟩ := DataW.trod_int F.ui h0
    obtain ⟨a1, e1, r1, w1⟩ := DataW.trod_int F.ui h1
    obtain ⟨a2, e2, r2, w2⟩ := DataW.trod_int F.ui h2
    obtain ⟨a3, e3, r3, w3⟩ := DataW.trod_int F.ui h3
    obtain ⟨k0, k1, k2, k3, k4, ek, _, _, _, sk, _, _⟩ := read_value G h4
    obtain ⟨v0, v1, v2, v3, v4, ev, _, _, _, sv, _, _⟩ := read_value G h5
    simp only [List.cons.injEq, and_true] at e0 e1 e2 e3 ek ev
    obtain ⟨rfl, rfl, rfl, rfl, rfl⟩ := ek
    obtain ⟨rfl, rfl, rfl, rfl, rfl⟩ := ev
    subst e0 e1 e2 e3
    exact ⟨⟨a0, a1, a2, a3, ⟨k0, k1, k2, k3, k4⟩, ⟨v0, v1, v2, v3, v4⟩⟩, rfl, sk, sv⟩

theorem open_act {t ti tv tn tf ts : TypeId} (F : Fa P t ti tv) (G : Fs P tv ti tn tf ts) {r : Reach} {b0 : Nat} {v : Value} {d : DataW H} {p : List MemPlace} (hv : Value.okWide P w r b0 t v) (h : DataW.Trod enc P w base spare held t v d p) :
    ∃ a : Ac, v = AcV a ∧ a.k.str.size ≤ maxLen ∧ a.v.str.size ≤ maxLen := by
  obtain ⟨f0, f1, f2, f3, f4, f5, hu, _⟩ := F.st
  obtain ⟨cs, rfl, hsz⟩ := okWide_struct hu hv
  obtain ⟨fuel, hf⟩ := h
  obtain ⟨a, e, h1, h2⟩ := read_act F G hf
  refine ⟨a, ?_, h1, h2⟩
  have e' : cs.toList = (AcV a).cells.toList := e
  rw [show cs = (AcV a).cells from Array.toList_inj.1 e']
  rfl
end
end Go.Proofs.YtgiegkigfokdmacGreatDoor
