/-
  AcH.
-/
import Derived.Test.YtnjgebncghdajaaGreatDoorAcCP
import Derived.ProofKit
import Derived.OpenShut
namespace Go.Proofs.YtnjgebncghdajaaGreatDoor
open Go.ChangeShapes Go.WideShapes Go.ChangeAt Go.RowKit
set_option linter.unusedVariables false
attribute [local go_sem] run_store_float run_equalIn_float

section
variable {H : Type} {enc : TypeId × Value → H} {P : Program} {w : World} {base : Nat} {spare : Nat → Bool} {held : Bool}

/-- The fields of an Act. -/
structure Fa (P : Program) (t ti tv : TypeId) : Prop where
  st : ∃ f0 f1 f2 f3 f4 f5 : Field, P.underlying t = some (.struct #[f0, f1, f2, f3, f4, f5]) ∧ f0.type = ti ∧ f1.type = ti ∧ f2.type = ti ∧ f3.type = ti ∧ f4.type = tv ∧ f5.type = tv ∧ f0.offset = 0 ∧ f1.offset = 1 ∧ f2.offset = 2 ∧ f3.offset = 3 ∧ f4.offset = 4 ∧ f5.offset = 9
  ci : P.cellsOf ti = 1
  cv : P.cellsOf tv = 5
  ct : P.cellsOf t = 14
  ui : P.underlying ti = some (.int .i64)

theorem list14 {α : Type} : ∀ {cs : List α}, cs.length = 14 → ∃ c0 c1 c2 c3 c4 c5 c6 c7 c8 c9 c10 c11 c12 c13, cs = [c0, c1, c2, c3, c4, c5, c6, c7, c8, c9, c10, c11, c12, c13]
  | [c0, c1, c2, c3, c4, c5, c6, c7, c8, c9, c10, c11, c12, c13], _ => ⟨c0, c1, c2, c3, c4, c5, c6, c7, c8, c9, c10, c11, c12, c13, rfl⟩

theorem read_act {t ti tv tn tf ts : TypeId} (F : Fa P t ti tv) (G : Fs P tv ti tn tf ts) {fuel : Nat} {cs : List Value} {x : DataW H × List MemPlace} (h : DataW.trod enc P w base spare held fuel t cs = some x) :
    ∃ a : Ac, cs = (AcV a).cells.toList ∧ a.k.str.size ≤ maxLen ∧ a.v.str.size ≤ maxLen := by
  obtain ⟨f0, f1, f2, f3, f4, f5, hu, t0, t1, t2, t3, t4, t5, o0, o1, o2, o3, o4, o5⟩ := F.st
  obtain ⟨xs, n, _, rfl, hl, hlen, hf⟩ := DataW.trod_struct hu h
  rw [F.ct] at hl
  obtain ⟨c0, c1, c2, c3, c4, c5, c6, c7, c8, c9, c10, c11, c12, c13, rfl⟩ := list14 hl
  match xs, hlen with
  | [y0, y1, y2, y3, y4, y5], _ =>
    have h0 := hf 0 f0 rfl
    have h1 := hf 1 f1 rfl
    have h2 := hf 2 f2 rfl
    have h3 := hf 3 f3 rfl
    have h4 := hf 4 f4 rfl
    have h5 := hf 5 f5 rfl
    simp only [t0, t1, t2, t3, t4, t5, o0, o1, o2, o3, o4, o5, F.ci, F.cv, List.drop_zero, List.drop_succ_cons, List.take_succ_cons, List.take_zero, List.getElem?_cons_zero, List.getElem?_cons_succ] at h0 h1 h2 h3 h4 h5
    obtain ⟨a0, e0, r0, w0⟩ := DataW.trod_int F.ui h0
    obtain ⟨a1, e1, r1, w1⟩ := DataW.trod_int F.ui h1
    obtain ⟨a2, e2, r2, w2⟩ := DataW.trod_int F.ui h2
    obtain ⟨a3, e3, r3, w3⟩ := DataW.trod_int F.ui h3
    obtain ⟨k0, k1, k2, k3, k4, ek, _, _, _, sk, _, _⟩ := read_value G h4
    obtain ⟨v0, v1, v2, v3, v4, ev, _, _, _, sv, _, _⟩ := read_value G h5
    simp only [List.cons.injEq, and_true] at e0 e1 e2 e3 ek ev
    obtain ⟨rfl, rfl, rfl, rfl, rfl⟩ := ek
    obtain ⟨rfl, rfl, rfl, rfl, rfl⟩ := ev
    subst e0 e1 e2 e3
    exact ⟨⟨a0, a1, a2, a3, ⟨k0, k1, k2, k3, k4⟩, ⟨v0, v1, v2, v3, v4⟩⟩, rfl, sk, sv⟩

theorem open_act {t ti tv tn tf ts : TypeId} (F : Fa P t ti tv) (G : Fs P tv ti tn tf ts) {r : Reach} {b0 : Nat} {v : Value} {d : DataW H} {p : List MemPlace} (hv : Value.okWide P w r b0 t v) (h : DataW.Trod enc P w base spare held t v d p) :
    ∃ a : Ac, v = AcV a ∧ a.k.str.size ≤ maxLen ∧ a.v.str.size ≤ maxLen := by
  obtain ⟨f0, f1, f2, f3, f4, f5, hu, _⟩ := F.st
  obtain ⟨cs, rfl, hsz⟩ := okWide_struct hu hv
  obtain ⟨fuel, hf⟩ := h
  obtain ⟨a, e, h1, h2⟩ := read_act F G hf
  refine ⟨a, ?_, h1, h2⟩
  have e' : cs.toList = (AcV a).cells.toList := e
  rw [show cs = (AcV a).cells from Array.toList_inj.1 e']
  rfl
end
end Go.Proofs.YtnjgebncghdajaaGreatDoor
