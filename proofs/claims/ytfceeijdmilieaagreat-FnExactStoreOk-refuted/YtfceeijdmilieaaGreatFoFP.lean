/-
  FoF.
-/
import Derived.Test.YtfceeijdmilieaaGreatBr11
import Derived.ProofKit
import Derived.OpenShut
import Derived.Deep.Slices
import Derived.ChangeSame
namespace Go.Proofs.YtfceeijdmilieaaGreat
open Go.ChangeShapes Go.WideShapes Go.ChangeAt Go.RowKit Go.Deep

section
variable {H : Type} {enc : TypeId × Value → H} {P : Program} {w : World} {base : Nat} {spare : Nat → Bool} {held : Bool}

/-- The fields of a Shape. -/
structure Gs (P : Program) (t ti ts : TypeId) : Prop where
  st : ∃ f0 f1 f2 : Field, P.underlying t = some (.struct #[f0, f1, f2]) ∧ f0.type = ti ∧ f1.type = ts ∧ f2.type = ti ∧ f0.offset = 0 ∧ f1.offset = 1 ∧ f2.offset = 2
  ci : P.cellsOf ti = 1
  cs : P.cellsOf ts = 1
  ct : P.cellsOf t = 3
  ui : P.underlying ti = some (.int .i64)
  us : P.underlying ts = some .string

theorem read_shape {t ti ts : TypeId} (F : Gs P t ti ts) {fuel : Nat} {cs : List Value} {x : DataW H × List MemPlace} (h : DataW.trod enc P w base spare held fuel t cs = some x) :
    ∃ p k c, cs = [.int .i64 p, .string k, .int .i64 c] ∧ (Lit.int .i64 p).wf = true ∧ k.size ≤ maxLen ∧ (Lit.int .i64 c).wf = true := by
  obtain ⟨f0, f1, f2, hu, t0, t1, t2, o0, o1, o2⟩ := F.st
  obtain ⟨xs, n, _, rfl, hl, hlen, hf⟩ := DataW.trod_struct hu h
  rw [F.ct] at hl
  match cs, hl with
  | [c0, c1, c2], _ =>
    match xs, hlen with
    | [y0, y1, y2], _ =>
      have h0 := hf 0 f0 rfl
      have h1 := hf 1 f1 rfl
      have h2 := hf 2 f2 rfl
      simp only [t0, t1, t2, o0, o1, o2, F.ci, F.cs, List.drop_zero, List.drop_succ_cons, List.take_succ_cons, List.take_zero, List.getElem?_cons_zero, List.getElem?_cons_succ] at h0 h1 h2
      obtain ⟨a0, e0, r0, w0⟩ := DataW.trod_int F.ui h0
      obtain ⟨a1, e1, r1, w1⟩ := DataW.trod_string F.us h1
      obtain ⟨a2, e2, r2, w2⟩ := DataW.trod_int F.ui h2
      simp only [List.cons.injEq, and_true] at e0 e1 e2
      subst e0 e1 e2
      exact ⟨a0, a1, a2, rfl, w0, w1, w2⟩

/-- A slice of shapes, read. -/
theorem read_shapes {tS t ti ts : TypeId} (F : Gs P t ti ts) (hS : P.underlying tS = some (.slice t)) {fuel : Nat} {cs : List Value} {x : DataW H × List MemPlace} (h : DataW.trod enc P w base spare held fuel tS cs = some x) :
    ∃ a n cap f, cs = [.slice a n cap] ∧ n ≤ maxLen ∧ ShAt w a n f ∧ (∀ i, i < n → (f i).key.size ≤ maxLen) ∧ ∀ i, i < n → (Lit.int .i64 (f i).parent).wf = true ∧ (Lit.int .i64 (f i).count).wf = true := by
  rcases open_slice hS h with ⟨rfl, _⟩ | ⟨a, len, cap, m, n, D, Pl, rfl, hb, hl, hm, hmm, rfl, hx⟩
  · exact ⟨none, 0, 0, fun _ => default, rfl, by unfold maxLen; omega, .inl rfl, fun i hi => by omega, fun i hi => by omega⟩
  have hlm : len ≤ m := by rw [hmm]; split <;> omega
  have each : ∀ i, i < len → ∃ s : Shp, (w.cell? (a.add (i * 3)) = some (.int .i64 s.parent) ∧ w.cell? (a.add (i * 3 + 1)) = some (.string s.key) ∧ w.cell? (a.add (i * 3 + 2)) = some (.int .i64 s.count)) ∧ s.key.size ≤ maxLen ∧ (Lit.int .i64 s.parent).wf = true ∧ (Lit.int .i64 s.count).wf = true := by
    intro i hi
    obtain ⟨cs', h1, h2⟩ := hx i (by omega)
    rw [F.ct] at h1
    obtain ⟨p, k, c, rfl, w0, w1, w2⟩ := read_shape F h2
    obtain ⟨_, _, hcell⟩ := World.cells?_some h1
    have e0 := hcell 0 (by omega)
    have e1 := hcell 1 (by omega)
    have e2 := hcell 2 (by omega)
    rw [add_add] at e0 e1 e2
    exact ⟨⟨p, k, c⟩, ⟨by simpa using e0, by simpa using e1, by simpa using e2⟩, w1, w0, w2⟩
  obtain ⟨f, hf⟩ := choose_lt each
  refine ⟨some a, len, cap, f, rfl, by omega, ?_, fun i hi => (hf i hi).2.1, fun i hi => (hf i hi).2.2⟩
  by_cases h0 : len = 0
  · exact .inl h0
  · right
    obtain ⟨b, off, spot⟩ := a
    have h00 := (hf 0 (by omega)).1.1
    have hspot : spot = none := by simpa [Addr.add] using World.cell?_spot h00
    subst hspot
    refine ⟨b, off, rfl, ?_, fun i hi => ?_⟩
    · have := World.block_lt_of_cell? _ _ h00
      simpa [Addr.add] using this
    · obtain ⟨c0, c1, c2⟩ := (hf i hi).1
      rw [add_plain] at c0 c1 c2
      exact ⟨c0, by rw [Nat.add_assoc]; exact c1, by rw [Nat.add_assoc]; exact c2⟩
end
end Go.Proofs.YtfceeijdmilieaaGreat
