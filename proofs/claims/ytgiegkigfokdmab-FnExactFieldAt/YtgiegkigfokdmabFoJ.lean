/-
  A Forest among the arguments.
-/
import Derived.Test.YtgiegkigfokdmabFoF
import Derived.WalkKit
import Derived.ProofKit
import Derived.ChangeOld
namespace Go.Proofs.Ytgiegkigfokdmab
open Go.ChangeShapes Go.WideShapes Go.ChangeAt Go.RowKit

theorem ownK : ownKnob Try.prog.godebug = none := by kernel_rfl
theorem laidOutF : laidOutB Try.prog = true := by kernel_rfl
theorem gsL : Gs Try.prog 82 3 9 := ⟨⟨_, _, _, Try.underlying82, rfl, rfl, rfl, rfl, rfl, rfl⟩, by kernel_rfl, by kernel_rfl, by kernel_rfl, Try.underlying3, Try.underlying9⟩

theorem cellsF : Try.prog.cellsOf 24 = 1 := by kernel_rfl

set_option maxRecDepth 100000 in
theorem read_forest {H : Type} {enc : TypeId × Value → H} {w : World} {base : Nat} {spare : Nat → Bool} {held : Bool} {fuel : Nat} {cs : List Value} {x : DataW H × List MemPlace} (h : DataW.trod enc Try.prog w base spare held fuel 24 cs = some x) :
    ∃ a n cap f, cs = [.slice a n cap] ∧ n ≤ maxLen ∧ ShAt w a n f ∧ (∀ i, i < n → (f i).key.size ≤ maxLen) := by
  obtain ⟨xs, n, _, rfl, hl, hlen, hf⟩ := DataW.trod_struct Try.underlying24 h
  rw [cellsF] at hl
  match cs, hl with
  | [c0], _ =>
    match xs, hlen with
    | [y0], _ =>
      have h0 := hf 0 _ rfl
      simp only [List.getElem?_cons_zero] at h0
      obtain ⟨a, m, cap, f, e, h1, h2, h3, _⟩ := read_shapes gsL Try.underlying22 h0
      exact ⟨a, m, cap, f, e, h1, h2, h3⟩

set_option maxRecDepth 100000 in
theorem open_forest {H : Type} {enc : TypeId × Value → H} {w : World} {base : Nat} {spare : Nat → Bool} {held : Bool} {r : Reach} {b0 : Nat} {v : Value} {d : DataW H} {p : List MemPlace} (hv : Value.okWide Try.prog w r b0 24 v) (h : DataW.Trod enc Try.prog w base spare held 24 v d p) :
    ∃ a n cap f, v = .agg #[.slice a n cap] ∧ n ≤ maxLen ∧ ShAt w a n f ∧ (∀ i, i < n → (f i).key.size ≤ maxLen) := by
  obtain ⟨cs, rfl, hsz⟩ := okWide_struct Try.underlying24 hv
  obtain ⟨c0, rfl⟩ : ∃ c0, cs = #[c0] := by
    obtain ⟨l⟩ := cs
    match l, hsz.trans cellsF with
    | [c0], _ => exact ⟨c0, rfl⟩
  obtain ⟨fuel, hf⟩ := h
  obtain ⟨a, m, cap, f, e, h1, h2, h3⟩ := read_forest hf
  simp only [Value.cells, List.cons.injEq, and_true] at e
  subst e
  exact ⟨a, m, cap, f, rfl, h1, h2, h3⟩
end Go.Proofs.Ytgiegkigfokdmab
