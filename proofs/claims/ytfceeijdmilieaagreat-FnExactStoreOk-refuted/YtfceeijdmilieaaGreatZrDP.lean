/-
  ZrD.
-/
import Derived.Test.YtfceeijdmilieaaGreatRows
import Derived.Test.YtfceeijdmilieaaGreatZrCP
import Derived.JoinedAt
import Derived.JoinedCond
import Derived.ProofKit
import Derived.OpenShut
import Derived.Handed
namespace Go.Proofs.YtfceeijdmilieaaGreat
open Go.ChangeShapes Go.WideShapes Go.ChangeAt Go.RowKit
set_option linter.unusedVariables false

namespace Zr
noncomputable def M (os : Os) : Nat := (World.settled Tryz.prog os).heap.size
def setTab (cs : Array Value) : Obj → Obj
  | .cells _ t frozen => .cells cs t frozen
  | o => o
/-- The table of powers as it should be; the others as a world that has just begun holds them: noughts. -/
def withP10 (w : World) : World := { w with heap := w.heap.modify 2 (setTab (Lib.pow10Tab.map fun n => Value.int .u64 n).toArray) }
noncomputable def blocks (os : Os) : Input := ⟨#[.cells #[.int .i64 (-1), .string ⟨#[]⟩, .int .i64 0] 102,
  .cells #[.int .i64 (-1), .slice none 0 0, .slice (some ⟨M os + 2, 0, none⟩) 1 1, .slice none 0 0, .slice (some ⟨M os + 3, 0, none⟩) 8 8, .int .i64 1, .int .i64 1, .int .i64 1] 75,
  .cells #[.int .i64 3, .int .i64 0, .float .f64 4602678819172646912, .string ⟨#[]⟩, .int .i64 0, .int .i64 2, .int .i64 1, .float .f64 0, .string ⟨#[]⟩, .int .i64 0, .int .i64 1] 151,
  .cells #[.int .i64 0, .int .i64 0, .int .i64 0, .int .i64 0, .int .i64 0, .int .i64 0, .int .i64 1, .int .i64 0] 3], #[.agg #[.slice (some ⟨M os, 0, none⟩) 1 1, .slice (some ⟨M os + 1, 0, none⟩) 1 1, .slice none 0 0]], []⟩
noncomputable def w (os : Os) : World := withP10 (World.holding Tryz.prog os (blocks os))
noncomputable def i (os : Os) : Input := ⟨#[], (blocks os).args, []⟩
noncomputable abbrev W (os : Os) : World := (w os).forCall (fun _ _ => 0) (i os)
theorem vars (os : Os) : (W os).variablesB Tryz.checked.prog = true := by kernel_rfl
theorem heap (os : Os) : ((W os).heap.toList.drop Tryz.checked.prog.globals.size).take ((begin Tryz.checked.prog (fun _ _ => 0) default).world.heap.size - Tryz.checked.prog.globals.size) = (begin Tryz.checked.prog (fun _ _ => 0) default).world.heap.toList.drop Tryz.checked.prog.globals.size := by kernel_rfl
theorem ok (os : Os) : Input.okWideB Tryz.checked.prog (W os) 3 (i os) = true := by kernel_rfl
theorem tabs (os : Os) : Tz (W os) := ⟨by kernel_rfl, show (W os).var? Tryz.prog "internal/strconv.uint64pow10" = _ by kernel_rfl, of_decide_eq_true (by kernel_rfl)⟩
theorem lies (os : Os) : StAt (W os) (some ⟨M os, 0, none⟩) (some ⟨M os + 1, 0, none⟩) none zS := by
  refine ⟨.inr ⟨M os, 0, rfl, of_decide_eq_true (by kernel_rfl), fun i hi => ?_⟩, .inr ⟨M os + 1, 0, rfl, of_decide_eq_true (by kernel_rfl), fun i hi => ?_⟩, .inl rfl⟩
  · obtain rfl : i = 0 := by have : i < 1 := hi; omega
    exact ⟨by kernel_rfl, by kernel_rfl, by kernel_rfl⟩
  · obtain rfl : i = 0 := by have : i < 1 := hi; omega
    refine ⟨none, 0, some ⟨M os + 2, 0, none⟩, 1, none, 0, some ⟨M os + 3, 0, none⟩, 8, ⟨by kernel_rfl, by kernel_rfl, by kernel_rfl, by kernel_rfl, by kernel_rfl, by kernel_rfl, by kernel_rfl, by kernel_rfl⟩, .inl rfl, ⟨.inr ⟨M os + 2, 0, rfl, of_decide_eq_true (by kernel_rfl), fun i hi => ?_⟩, .inl rfl, .inr ⟨M os + 3, 0, rfl, of_decide_eq_true (by kernel_rfl), fun i hi => ?_⟩⟩⟩
    · obtain rfl : i = 0 := by have : i < 1 := hi; omega
      exact ⟨by kernel_rfl, by kernel_rfl, by kernel_rfl, by kernel_rfl, by kernel_rfl, by kernel_rfl, by kernel_rfl, by kernel_rfl, by kernel_rfl, by kernel_rfl, by kernel_rfl⟩
    · have hi' : i < 8 := hi
      rcases (by omega : i = 0 ∨ i = 1 ∨ i = 2 ∨ i = 3 ∨ i = 4 ∨ i = 5 ∨ i = 6 ∨ i = 7) with rfl | rfl | rfl | rfl | rfl | rfl | rfl | rfl <;> (show (W os).cell? _ = some _; kernel_rfl)
theorem run (os : Os) : Calls Tryz.checked.prog 3 (i os).args (W os) fun
    | .returned v, w' => v = .bool false
    | _, _ => False := by
  have h := law_false (some ⟨M os, 0, none⟩) 1 (some ⟨M os + 1, 0, none⟩) 1 none 0 (W os) (lies os) (tabs os)
  refine h.mono ?_
  rintro e w' ⟨rfl, _⟩
  rfl
end Zr

theorem no_post {ds gs : List (DataW (TypeId × Value))} {w' : World} {base : Nat} {spare : Nat → Bool} {held : Bool} {pr : List MemPlace}
    (hres : DataW.TrodAll (id : TypeId × Value → TypeId × Value) Tryz.checked.prog w' base spare held (Tryz.f3 : Func).resultTypes.toList ((Value.bool false).resultList (Tryz.f3 : Func).resultTypes.size) (Rows.fnExactStoreOkSpec.fn (TypeId × Value) (ds ++ gs)).results pr) : False := by
  have hr : (Tryz.f3 : Func).resultTypes.toList = [4] := by kernel_rfl
  rw [hr] at hres
  obtain ⟨v0, vs0, d0, ds0, p0, q0, hvs, hds, _, ⟨fuel, h1⟩, _⟩ := trodAll_cons hres
  have hvs' : [Value.bool false] = v0 :: vs0 := hvs
  cases hvs'
  obtain ⟨b, hb, hx⟩ := DataW.trod_bool Tryz.underlying4 h1
  have hb' : [Value.bool false] = [Value.bool b] := hb
  cases hb'
  have hd0 : d0 = .lit (.bool false) := congrArg Prod.fst hx
  subst hd0
  revert hds
  generalize ds ++ gs = l
  intro hds
  match l, hds with
  | [_], hds => cases hds
  | [], hds => cases hds
  | _ :: _ :: _, hds => cases hds

theorem storeOk_refuted : ¬ Rows.FnExactStoreOkSaid :=
  OpenClaim.not_holds_of 3 Tryz.f3 (by kernel_rfl) Tryz.func3 rfl rfl rfl rfl rfl rfl rfl fun os h => by
    have h0 := h (TypeId × Value) id (fun _ _ e => e)
    obtain ⟨n, v, w', fr, hn, hend, hp⟩ := (Zr.run os).done_lone (by kernel_rfl)
    obtain ⟨v', hv, ds, gs, before, pr, pa, pv, hWh, hres, _⟩ := post_at6 h0 (Zr.w os) (fun _ _ => 0) (Zr.i os) rfl (World.shaped_of_B (Zr.vars os) (Zr.heap os)) rfl (Input.okWide_of_okWideB (base := (Zr.w os).heap.size) (Zr.ok os)).2 8 (by kernel_rfl) (by kernel_rfl) (n + 1) hend
    have hp' : v = .bool false := hp
    subst hp'
    cases hv
    exact no_post hres

theorem storeOk_upto_refuted : ¬ Rows.FnExactStoreOkUptoSaid :=
  OpenClaim.not_holds_of_cond 3 Tryz.f3 (by kernel_rfl) Tryz.func3 rfl rfl rfl rfl rfl rfl rfl fun os h => by
    have h0 := h (TypeId × Value) id (fun _ _ e => e)
    obtain ⟨n, v, w', fr, hn, hend, hp⟩ := (Zr.run os).done_lone (by kernel_rfl)
    have hw : (DataW.whole (id : TypeId × Value → TypeId × Value) Tryz.checked.prog (Zr.W os).memory (Tryz.f3 : Func).params.toList [] false (Zr.i os).args.toList 8).any (fun x => Rows.uptoSmall _ (x.1 ++ x.2.1)) = true := by kernel_rfl
    obtain ⟨x, hx, hkk⟩ := (Option.any_eq_true _ _).1 hw
    obtain ⟨_, _, _, all⟩ := h0
    obtain ⟨n', v', w'', hrun, _, _, hpost, _⟩ := all (Zr.w os) (fun _ _ => 0) (Zr.i os) ⟨rfl, World.shapedOpen_of_shaped (World.shaped_of_B (Zr.vars os) (Zr.heap os)), rfl, (Input.okWide_of_okWideB (base := (Zr.w os).heap.size) (Zr.ok os)).2, ⟨(OpenSpec.pre_some rfl _ _ _ _).2 ⟨x.1, x.2.1, x.2.2, DataW.Whole_of_whole hx, rfl, hkk⟩, sizedMet_of_sizedB (fuel := 8) (by kernel_rfl)⟩, by simp [Assume.holds]⟩
    obtain ⟨e1, e2⟩ := WideBlind.runN_same' hrun hend
    cases e1
    have hp' : v = .bool false := hp
    subst hp'
    obtain ⟨ds, gs, before, pr, pa, pv, hWh, hres, _⟩ := hpost
    exact no_post hres
#print axioms storeOk_refuted
#print axioms storeOk_upto_refuted
end Go.Proofs.YtfceeijdmilieaaGreat
