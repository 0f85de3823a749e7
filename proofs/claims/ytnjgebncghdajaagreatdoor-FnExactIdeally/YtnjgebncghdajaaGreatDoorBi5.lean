/-
  OpnA, CnvA.
-/
import Derived.Test.YtnjgebncghdajaaGreatDoorKeyA
import Derived.ProofKit
import Derived.OpenShut
import Derived.ShutString
import Derived.ChangeOld
import Derived.Below
namespace Go.Proofs.YtnjgebncghdajaaGreatDoor
open Go.ChangeShapes Go.WideShapes Go.ChangeAt Go.RowKit

section
variable {H : Type} {enc : TypeId × Value → H} {P : Program} {w : World} {base : Nat} {spare : Nat → Bool} {held : Bool}

theorem trod_float {t : TypeId} {fuel : Nat} {cs : List Value} {x : DataW H × List MemPlace} {k : FloatKind} (ht : P.underlying t = some (.float k)) (h : DataW.trod enc P w base spare held fuel t cs = some x) :
    ∃ b, cs = [.float k b] ∧ x = (.lit (.float k b), []) ∧ (Lit.float k b).wf = true := by
  cases fuel with
  | zero => simp [DataW.trod] at h
  | succ n =>
    unfold DataW.trod at h
    rw [ht] at h
    split at h <;> simp_all

/-- The fields of a Value. -/
structure Fs (P : Program) (t ti tn tf ts : TypeId) : Prop where
  st : ∃ f0 f1 f2 f3 f4 : Field, P.underlying t = some (.struct #[f0, f1, f2, f3, f4]) ∧ f0.type = ti ∧ f1.type = tn ∧ f2.type = tf ∧ f3.type = ts ∧ f4.type = ti ∧ f0.offset = 0 ∧ f1.offset = 1 ∧ f2.offset = 2 ∧ f3.offset = 3 ∧ f4.offset = 4
  ci : P.cellsOf ti = 1
  cn : P.cellsOf tn = 1
  cf : P.cellsOf tf = 1
  cs : P.cellsOf ts = 1
  ct : P.cellsOf t = 5
  ui : P.underlying ti = some (.int .i64)
  un : P.underlying tn = some (.int .i64)
  uf : P.underlying tf = some (.float .f64)
  us : P.underlying ts = some .string

theorem array5 {α : Type} {cs : Array α} (h : cs.size = 5) : ∃ c0 c1 c2 c3 c4, cs = #[c0, c1, c2, c3, c4] := by
  obtain ⟨l⟩ := cs
  match l, h with
  | [c0, c1, c2, c3, c4], _ => exact ⟨c0, c1, c2, c3, c4, rfl⟩

/-- The cells of a Value, read: five of them. -/
theorem read_value {t ti tn tf ts : TypeId} (F : Fs P t ti tn tf ts) {fuel : Nat} {cs : List Value} {x : DataW H × List MemPlace} (h : DataW.trod enc P w base spare held fuel t cs = some x) :
    ∃ kind num flt s ref, cs = [.int .i64 kind, .int .i64 num, .float .f64 flt, .string s, .int .i64 ref] ∧ (Lit.int .i64 kind).wf = true ∧ (Lit.int .i64 num).wf = true ∧ (Lit.float .f64 flt).wf = true ∧ s.size ≤ maxLen ∧ (Lit.int .i64 ref).wf = true ∧ x.2 = [] := by
  obtain ⟨f0, f1, f2, f3, f4, hu, t0, t1, t2, t3, t4, o0, o1, o2, o3, o4⟩ := F.st
  obtain ⟨xs, n, _, rfl, hl, hlen, hf⟩ := DataW.trod_struct hu h
  rw [F.ct] at hl
  match cs, hl with
  | [c0, c1, c2, c3, c4], _ =>
    match xs, hlen with
    | [y0, y1, y2, y3, y4], _ =>
      have h0 := hf 0 f0 rfl
      have h1 := hf 1 f1 rfl
      have h2 := hf 2 f2 rfl
      have h3 := hf 3 f3 rfl
      have h4 := hf 4 f4 rfl
      simp only [t0, t1, t2, t3, t4, o0, o1, o2, o3, o4, F.ci, F.cn, F.cf, F.cs, List.drop_zero, List.drop_succ_cons, List.take_succ_cons, List.take_zero, List.getElem?_cons_zero, List.getElem?_cons_succ] at h0 h1 h2 h3 h4
      obtain ⟨a0, e0, r0, w0⟩ := DataW.trod_int F.ui h0
      obtain ⟨a1, e1, r1, w1⟩ := DataW.trod_int F.un h1
      obtain ⟨a2, e2, r2, w2⟩ := trod_float F.uf h2
      obtain ⟨a3, e3, r3, w3⟩ := DataW.trod_string F.us h3
      obtain ⟨a4, e4, r4, w4⟩ := DataW.trod_int F.ui h4
      simp only [List.cons.injEq, and_true] at e0 e1 e2 e3 e4
      subst e0 e1 e2 e3 e4
      exact ⟨a0, a1, a2, a3, a4, rfl, w0, w1, w2, w3, w4, by simp [r0, r1, r2, r3, r4]⟩

theorem open_value {t ti tn tf ts : TypeId} (F : Fs P t ti tn tf ts) {r : Reach} {b0 : Nat} {v : Value} {d : DataW H} {p : List MemPlace} (hv : Value.okWide P w r b0 t v) (h : DataW.Trod enc P w base spare held t v d p) :
    ∃ kind num flt s ref, v = V kind num flt s ref ∧ (Lit.int .i64 kind).wf = true ∧ (Lit.int .i64 num).wf = true ∧ (Lit.float .f64 flt).wf = true ∧ s.size ≤ maxLen ∧ (Lit.int .i64 ref).wf = true := by
  obtain ⟨f0, f1, f2, f3, f4, hu, _⟩ := F.st
  obtain ⟨cs, rfl, hsz⟩ := okWide_struct hu hv
  obtain ⟨c0, c1, c2, c3, c4, rfl⟩ := array5 (hsz.trans F.ct)
  obtain ⟨fuel, hf⟩ := h
  obtain ⟨kind, num, flt, s, ref, e, h1, h2, h3, h4, h5, _⟩ := read_value F hf
  simp only [Value.cells, List.cons.injEq, and_true] at e
  obtain ⟨rfl, rfl, rfl, rfl, rfl⟩ := e
  exact ⟨kind, num, flt, s, ref, rfl, h1, h2, h3, h4, h5⟩
end
end Go.Proofs.YtnjgebncghdajaaGreatDoor
namespace Go.Proofs.YtnjgebncghdajaaGreatDoor
open Go.ChangeShapes Go.WideShapes Go.ChangeAt Go.RowKit
attribute [local go_sem] run_store_float run_equalIn_float

set_option maxHeartbeats 400000 in
theorem sz_any (kind num : Int) (flt : Nat) (s : ByteArray) (ref : Int) (left : Int) (w : World) (hs : s.size ≤ maxLen) (h0 : 0 ≤ left) (h1 : left ≤ 1048576) :
    Calls Tryz.prog 26 #[V kind num flt s ref, .int .i64 left] w fun e w' => e = .returned (.int .i64 (if left < s.size then -1 else left - s.size)) ∧ Below w.heap.size w w' := by
  unfold maxLen at hs
  by_cases h : left < s.size
  · rw [if_pos h]
    go_enter Tryz.func26, Tryz.ntmps26
    go_wp2
    go_ret
    exact ⟨by simp, (Below.refl _ _).alloc (Nat.le_refl _) _⟩
  · rw [if_neg h]
    go_enter Tryz.func26, Tryz.ntmps26
    go_wp2
    go_ret
    exact ⟨by simp, (Below.refl _ _).alloc (Nat.le_refl _) _⟩

set_option maxHeartbeats 400000 in
theorem toValue_any (kind num : Int) (flt : Nat) (s : ByteArray) (ref : Int) (w : World)  :
    Calls Tryz.prog 34 #[V kind num flt s ref] w fun e w' => e = .returned (V kind num flt s ref) ∧ Below w.heap.size w w' := by
  go_enter Tryz.func34, Tryz.ntmps34
  go_wp2
  exact bodyPost_ret (v := V kind num flt s ref) (by simp [results, Tryz.results34, go_sem]) rfl ⟨rfl, (((Below.refl _ _).alloc (Nat.le_refl _) _).alloc (by simp) _).alloc (by simp; omega) _⟩

end Go.Proofs.YtnjgebncghdajaaGreatDoor
