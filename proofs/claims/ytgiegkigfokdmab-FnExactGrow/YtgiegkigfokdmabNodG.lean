/-
  Shapes: the program's own judgement.
-/
import Derived.Test.YtgiegkigfokdmabNodF
namespace Go.Proofs.Ytgiegkigfokdmab
open Go.RowKit
open Go.Maps (Keyed)
set_option linter.unusedVariables false

/-- The answer is a bool: whether p. -/
def Tells (e : Ending) (p : Prop) : Prop := ∃ r : Bool, e = .returned (.bool r) ∧ (r = true ↔ p)
theorem Tells.no {p : Prop} (h : ¬ p) : Tells (.returned (.bool false)) p := ⟨false, rfl, ⟨fun e => (by cases e), fun e => absurd e h⟩⟩
theorem Tells.yes {p : Prop} (h : p) : Tells (.returned (.bool true)) p := ⟨true, rfl, ⟨fun _ => h, fun _ => rfl⟩⟩

set_option maxRecDepth 100000 in
set_option maxHeartbeats 2000000 in
theorem shapesFit_any (b n cap : Nat) (f : Nat → Shp) (w : World) (hA : ShRow w b n f) (hn : n ≤ 200) (h2 : Rule2 f) :
    Calls Try.prog 57 #[.agg #[.slice (some ⟨b, 0, none⟩) n cap]] w fun e w' => Tells e (Rule3 n f) ∧ Below w.heap.size w w' := by
  have hl := hA.lt
  have HA := hide hA
  have H2 := hide h2
  clear hA h2
  go_enter Try.func57, Try.ntmps57
  go_wp2
  go_loopw [8] (fun i wr => ∃ k : Nat, k ≤ n ∧ i = .int .i64 k ∧ Below w.heap.size w wr ∧ wr.cell? ⟨w.heap.size, 0, none⟩ = some (.slice (some ⟨b, 0, none⟩) n cap) ∧ w.heap.size < wr.heap.size ∧ ∀ j, 1 ≤ j → j < k → Ok3 f j) (fun i _ => n - (intOf i).toNat)
  case atStart => exact ⟨0, by omega, rfl, (Below.refl _ _).alloc (Nat.le_refl _) _, by simp [go_sem], by simp, fun j h1 h2 => by omega⟩
  case round =>
    obtain ⟨k, hk, rfl, hb, hbox, hsz, hall⟩ := hrel
    have c0 : k < n → wr.cell? ⟨b, k * 3, none⟩ = some (.int .i64 (f k).parent) := fun h => (((unhide HA).below hb hl).cells h).1
    have c1 : k < n → wr.cell? ⟨b, k * 3 + 1, none⟩ = some (.string (f k).key) := fun h => (((unhide HA).below hb hl).cells h).2.1
    have c2 : k < n → wr.cell? ⟨b, k * 3 + 2, none⟩ = some (.int .i64 (f k).count) := fun h => (((unhide HA).below hb hl).cells h).2.2
    have HB := hide hb
    have HALL := hide hall
    clear hb hall
    by_cases hkn : k < n
    case neg =>
      go_wp2
      go_ret
      exact ⟨.yes (fun i h1 h2 => unhide HALL i h1 (by omega)), unhide HB⟩
    by_cases hk0 : k = 0
    · subst hk0
      go_wp2
      go_roundw
      case rel => exact ⟨1, by omega, by go_num, (unhide HB).alloc (by omega) _, by simp [go_sem, hbox, hsz], by simp; omega, fun j h1 h2 => by omega⟩
      case measure => simp [intOf]; omega
    have hk1 : ((k : Int) == 0) = false := by simp; omega
    by_cases hA : (f k).parent < 0
    · have hd : decide ((f k).parent < 0) = true := by simp [hA]
      have HN : Hid (¬ Rule3 n f) := hide (fun h => by have := (h k (by omega) hkn).1; omega)
      go_wp2
      go_ret
      exact ⟨.no (unhide HN), (unhide HB).alloc (by omega) _⟩
    have hd : decide ((f k).parent < 0) = false := by simp [hA]
    by_cases hB : (k : Int) ≤ (f k).parent
    · have hd2 : decide ((k : Int) ≤ (f k).parent) = true := by simp [hB]
      have HN : Hid (¬ Rule3 n f) := hide (fun h => by have := (h k (by omega) hkn).2.1; omega)
      go_wp2
      go_ret
      exact ⟨.no (unhide HN), (unhide HB).alloc (by omega) _⟩
    have hd2 : decide ((k : Int) ≤ (f k).parent) = false := by simp; omega
    by_cases hE : (4000 : Int) < (f k).key.size
    · have hdE : decide ((4000 : Int) < (f k).key.size) = true := by simp [hE]
      have HN : Hid (¬ Rule3 n f) := hide (fun h => by have := (h k (by omega) hkn).2.2.2.2; omega)
      go_wp2
      go_ret
      exact ⟨.no (unhide HN), (unhide HB).alloc (by omega) _⟩
    have hdE : decide ((4000 : Int) < (f k).key.size) = false := by simp; omega
    obtain ⟨p, hp⟩ : ∃ p : Nat, (f k).parent = p := ⟨(f k).parent.toNat, by omega⟩
    have hpk : p < k := by omega
    have hpn : p < n := by omega
    obtain ⟨hp0, hp1⟩ := count_bound (unhide H2) (unhide HALL) p hpk
    have e2 : wr.cell? ⟨b, p * 3 + 2, none⟩ = some (.int .i64 (f p).count) := (((unhide HA).below (unhide HB) hl).cells hpn).2.2
    rw [hp] at hA hB hd hd2 c0
    have HP := hide hp
    have hbw : b < wr.heap.size := Nat.lt_of_lt_of_le hl (unhide HB).size
    have d0 := c0 hkn
    have d1 := c1 hkn
    have d2 := c2 hkn
    clear hp c0 c1 c2
    have hw : IntKind.i64.wrap ((f p).count + 1) = (f p).count + 1 := by rw [IntKind.wrap_i64]; omega
    by_cases hD : 12 < (f k).count
    · have HN : Hid (¬ Rule3 n f) := hide (fun h => by have := (h k (by omega) hkn).2.2.2.1; omega)
      have hdD : decide (12 < (f k).count) = true := by simp [hD]
      go_wp2
      go_quiet (fail)
      go_wp2
      go_ret
      exact ⟨.no (unhide HN), below_drewN ((unhide HB).alloc (by omega) _) _⟩
    have hdD : decide (12 < (f k).count) = false := by simp; omega
    by_cases hC : (f k).count = (f p).count + 1
    case neg =>
      have HN : Hid (¬ Rule3 n f) := hide (fun h => by have := (h k (by omega) hkn).2.2.1; rw [unhide HP] at this; exact hC this)
      go_wp2
      go_quiet (fail)
      go_wp2
      go_ret
      exact ⟨.no (unhide HN), below_drewN ((unhide HB).alloc (by omega) _) _⟩
    have hdC : ((f k).count != (f p).count + 1) = false := by simp [hC]
    have HO : Hid (Ok3 f k) := hide ⟨by rw [unhide HP]; omega, by rw [unhide HP]; omega, by rw [unhide HP]; exact hC, by omega, by omega⟩
    have HC := hide hC
    clear hC
    go_wp2
    go_quiet (fail)
    go_wp2
    go_roundw
    case rel =>
      refine ⟨k + 1, by omega, by go_num, below_drewN ((unhide HB).alloc (by omega) _) _, by simp [go_sem, hbox, hsz], by simp; omega, fun j h1 h2 => ?_⟩
      by_cases e : j = k
      · rw [e]; exact unhide HO
      · exact unhide HALL j h1 (by omega)
    case measure => simp [intOf]; omega
end Go.Proofs.Ytgiegkigfokdmab
