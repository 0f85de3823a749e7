/-
  Drawing: the small parts.
-/
import Derived.Test.YtgiegkigfokdmaaCurW
import Derived.Test.YtgiegkigfokdmaaFoB
namespace Go.Proofs.Ytgiegkigfokdmaa
open Go.RowKit
set_option linter.unusedVariables false

set_option maxHeartbeats 400000 in
theorem pick_one (b : Nat) (n : Int) (w : World) (hn : n ≤ 1) :
    Calls Try.prog 19 #[.pointer (some ⟨b, 0, none⟩), .int .i64 n] w fun e w' => e = .returned (.int .i64 0) ∧ w' = w := by
  go_enter Try.func19, Try.ntmps19
  go_wp2
  go_ret
  exact ⟨rfl, rfl⟩

/-- Whatever is picked from, one at least. -/
theorem pick_all (b N : Nat) (n : Int) (w : World) (h : Cu b N w) (hN : N ≤ 1099511627000) (hn1 : 1 ≤ n) (hn2 : n ≤ 70000) :
    Calls Try.prog 19 #[.pointer (some ⟨b, 0, none⟩), .int .i64 n] w fun e w' => (∃ x : Int, e = .returned (.int .i64 x) ∧ 0 ≤ x ∧ x < n) ∧ Cu b (N + 2) w' ∧ Stp b w w' := by
  by_cases h1 : 1 < n
  · exact pick_any b N n w h hN h1 hn2
  · refine (pick_one b n w (by omega)).mono fun e w' h' => ?_
    rw [h'.2]
    exact ⟨⟨0, h'.1, by omega, by omega⟩, h.mono (by omega), Stp.refl _ _⟩

set_option maxHeartbeats 1000000 in
theorem long_any (w : World) : Calls Try.prog 21 #[] w fun e w' => (∃ s : ByteArray, e = .returned (.string s) ∧ s.size ≤ 8000) ∧ w' = w := by
  go_enter Try.func21, Try.ntmps21
  go_wp2
  go_loopw [1] (fun t wr => ∃ s : ByteArray, t = .string s ∧ 1 ≤ s.size ∧ s.size ≤ 8000 ∧ wr = w) (fun t _ => 8001 - (strOf t).size)
  case atStart => exact ⟨_, rfl, by decide, by decide, rfl⟩
  case round =>
    obtain ⟨s, rfl, h1, h2, hw⟩ := hrel
    subst hw
    by_cases hlt : s.size ≤ 4000
    · have hl : ((s.size : Nat) : Int) ≤ 4000 := by omega
      go_wp2
      go_roundw
      case rel => exact ⟨_, rfl, by simp; omega, by simp; omega, trivial⟩
      case measure => simp [strOf]; omega
    · have hl : ¬ ((s.size : Nat) : Int) ≤ 4000 := by omega
      go_wp2
      go_ret
      exact ⟨⟨s, rfl, h2⟩, rfl⟩

set_option maxHeartbeats 1000000 in
theorem specEmpty_any (w : World) : Calls Try.prog 54 #[] w fun e w' => e = .returned (.agg #[.slice (some ⟨w.heap.size + 1, 0, none⟩) 1 1, .slice none 0 0, .slice none 0 0]) ∧ w'.rowIs (w.heap.size + 1) 61 3 (cellOf (fun _ => ⟨-1, ⟨#[]⟩, 0⟩)) ∧ Below w.heap.size w w' := by
  go_enter Try.func54, Try.ntmps54
  go_wp2
  refine bodyPost_ret (v := .agg #[.slice (some ⟨w.heap.size + 1, 0, none⟩) 1 1, .slice none 0 0, .slice none 0 0]) (by simp [results, Try.results54, go_sem]) rfl ⟨rfl, ?_, ((Below.refl _ _).alloc (Nat.le_refl _) _).alloc (by simp) _⟩
  have h := World.rowIs_alloc (w.alloc (.cells #[.slice (some ⟨w.heap.size + 1, 0, none⟩) 1 1, .slice none 0 0, .slice none 0 0] 90)) #[.int .i64 (-1), .string ⟨#[]⟩, .int .i64 0] 61 (cellOf (fun _ => ⟨-1, ⟨#[]⟩, 0⟩)) (fun i hi => by
    have : i < 3 := hi
    match i, this with
    | 0, _ => rfl
    | 1, _ => rfl
    | 2, _ => rfl)
  rw [Deep.nblk_alloc] at h
  exact h
end Go.Proofs.Ytgiegkigfokdmaa
