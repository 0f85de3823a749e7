/-
  Shapes: what is asked of the nodes.
-/
import Derived.Test.YtgiegkigfokdmabNodE
namespace Go.Proofs.Ytgiegkigfokdmab
open Go.RowKit
open Go.Maps (Keyed)
set_option linter.unusedVariables false

/-- The place of a key among the fields of shape i, as the program looks for it. -/
def Plc (f : Nat → Shp) (i : Nat) (key : ByteArray) (r : Int) : Prop :=
  (∃ t, (∀ s, s ≤ t → 0 < anc f i s) ∧ (f (anc f i t)).key.toList = key.toList ∧ (∀ s, s < t → (f (anc f i s)).key.toList ≠ key.toList) ∧ r = (f (anc f i t)).count - 1) ∨
  (r = -1 ∧ ∀ t, (∀ s, s ≤ t → 0 < anc f i s) → (f (anc f i t)).key.toList ≠ key.toList)

theorem Plc.unique {f : Nat → Shp} {i : Nat} {key : ByteArray} {r r' : Int} (h : Plc f i key r) (h' : Plc f i key r') : r = r' := by
  rcases h with ⟨t, a1, a2, a3, a4⟩ | ⟨a1, a2⟩
  · rcases h' with ⟨u, b1, b2, b3, b4⟩ | ⟨b1, b2⟩
    · have : t = u := by
        rcases Nat.lt_trichotomy t u with e | e | e
        · exact absurd a2 (b3 t e)
        · exact e
        · exact absurd b2 (a3 u e)
      subst this
      rw [a4, b4]
    · exact absurd a2 (b2 t a1)
  · rcases h' with ⟨u, b1, b2, b3, b4⟩ | ⟨b1, b2⟩
    · exact absurd b2 (a2 u b1)
    · rw [a1, b1]

open Classical in
noncomputable def plcI (f : Nat → Shp) (i : Nat) (key : ByteArray) : Int := if h : ∃ r, Plc f i key r then h.choose else 0

theorem Plc.eq {f : Nat → Shp} {i : Nat} {key : ByteArray} {r : Int} (h : Plc f i key r) : plcI f i key = r := by
  have h1 : ∃ r, Plc f i key r := ⟨r, h⟩
  unfold plcI
  rw [dif_pos h1]
  exact h1.choose_spec.unique h

def numAt (v : Value) (w : World) : Nat :=
  match v with
  | .pointer (some a) => (match w.cell? a with | some (.int _ n) => n.toNat | _ => 0)
  | _ => 0

theorem numAt_eq {w : World} {a : Addr} {n : Nat} (h : w.cell? a = some (.int .i64 n)) : numAt (.pointer (some a)) w = n := by
  unfold numAt
  simp [h]

theorem node_cells {w : World} {f : Nat → Shp} {b0 n : Nat} {B N : Nat → Nat} {M : Nat → Option Nat} (h : NodesP w f b0 n B N M) (hid : ∀ i, i < n → N i = i) {j : Nat} (hj : j < n) :
    w.cell? ⟨B j, 0, none⟩ = some (.int .i64 j) ∧ w.cell? ⟨B j, 2, none⟩ = some (.string (f j).key) ∧ w.cell? ⟨B j, 3, none⟩ = some (.int .i64 (f j).count) ∧ w.cell? ⟨B j, 4, none⟩ = some (.pointer (parOf f B j)) ∧ w.cell? ⟨B j, 5, none⟩ = some (.map (M j)) := by
  have hr := h.node j hj (hid j hj)
  exact ⟨hr.cell (i := 0) (by omega), hr.cell (i := 2) (by omega), hr.cell (i := 3) (by omega), hr.cell (i := 4) (by omega), hr.cell (i := 5) (by omega)⟩

set_option maxRecDepth 100000 in
set_option maxHeartbeats 1000000 in
theorem placeOf_any (w : World) (f : Nat → Shp) (b0 n : Nat) (B N : Nat → Nat) (M : Nat → Option Nat) (h : NodesP w f b0 n B N M) (hid : ∀ i, i < n → N i = i) (h2 : Rule2 f) (h3 : Rule3 n f) (i : Nat) (hi : i < n) (key : ByteArray) :
    Calls Try.prog 42 #[.pointer (some ⟨B i, 0, none⟩), .string key] w fun e w' => (e = .returned (.int .i64 (plcI f i key)) ∧ Plc f i key (plcI f i key)) ∧ w' = w := by
  have HC : Hid (∀ j, j < n → w.cell? ⟨B j, 0, none⟩ = some (.int .i64 j) ∧ w.cell? ⟨B j, 2, none⟩ = some (.string (f j).key) ∧ w.cell? ⟨B j, 3, none⟩ = some (.int .i64 (f j).count) ∧ w.cell? ⟨B j, 4, none⟩ = some (.pointer (parOf f B j)) ∧ w.cell? ⟨B j, 5, none⟩ = some (.map (M j))) := hide (fun j hj => node_cells h hid hj)
  have H2 := hide h2
  have H3 := hide h3
  clear h h2 h3
  go_enter Try.func42, Try.ntmps42
  go_wp2
  go_loopw [5] (fun v wr => ∃ (t j : Nat), v = .pointer (some ⟨B j, 0, none⟩) ∧ j = anc f i t ∧ j < n ∧ wr = w ∧ ∀ s, s < t → 0 < anc f i s ∧ (f (anc f i s)).key.toList ≠ key.toList) (fun v wr => numAt v wr)
  case atStart => exact ⟨0, i, rfl, rfl, hi, rfl, fun s hs => by omega⟩
  case round =>
    obtain ⟨t, j, rfl, hj, hjn, rfl, hall⟩ := hrel
    obtain ⟨c0, c2, c3, c4, _⟩ := unhide HC j hjn
    have HJ := hide hj
    have HALL := hide hall
    clear hj hall
    by_cases hj0 : j = 0
    · subst hj0
      rw [show parOf f B 0 = none by unfold parOf; rw [if_pos rfl]] at c4
      go_wp2
      go_ret
      have hP : Plc f i key (-1) := by
       refine .inr ⟨rfl, fun u hu e => ?_⟩
       by_cases hut : u < t
       · exact (unhide HALL u hut).2 e
       · have := hu t (by omega)
         rw [← unhide HJ] at this
         omega
      rw [hP.eq]
      exact ⟨⟨rfl, hP⟩, rfl⟩
    · rw [show parOf f B j = some ⟨B (shPar f j), 0, none⟩ by unfold parOf; rw [if_neg hj0]] at c4
      have hj1 : 0 < j := by omega
      obtain ⟨cp1, cp2⟩ := count_pos (unhide H2) (unhide H3) hjn hj1
      have q0 := (unhide H3 j hj1 hjn).1
      have q1 := (unhide H3 j hj1 hjn).2.1
      have hst : ∀ s, s ≤ t → 0 < anc f i s := fun s hs => by
        by_cases e : s = t
        · rw [e, ← unhide HJ]; exact hj1
        · exact (unhide HALL s (by omega)).1
      have hnx : anc f i (t + 1) = shPar f j := by show (f (anc f i t)).parent.toNat = _; rw [← unhide HJ]
      have hm : numAt (.pointer (some ⟨B (shPar f j), 0, none⟩)) wr = shPar f j := numAt_eq (unhide HC (shPar f j) (by unfold shPar; omega)).1
      have hm' : numAt (.pointer (some ⟨B j, 0, none⟩)) wr = j := numAt_eq c0
      have hsp : shPar f j < j := by unfold shPar; omega
      have HST := hide hst
      have HNX := hide hnx
      have HM := hide (And.intro hm hm')
      have HQ := hide (And.intro cp1 cp2)
      clear hst hnx hm hm' q0 q1 cp1 cp2
      by_cases hK : (f j).key.toList = key.toList
      · have hd : ((f j).key.toList == key.toList) = true := by simp [hK]
        have HK := hide hK
        have cp1 := (unhide HQ).1
        have cp2 := (unhide HQ).2
        clear hK
        go_wp2
        go_ret
        have hP : Plc f i key ((f j).count - 1) := .inl ⟨t, unhide HST, by rw [← unhide HJ]; exact unhide HK, fun s hs => (unhide HALL s hs).2, by rw [← unhide HJ]⟩
        rw [hP.eq]
        exact ⟨⟨rfl, hP⟩, rfl⟩
      · have hd : ((f j).key.toList == key.toList) = false := by simp [hK]
        have HK := hide hK
        clear hK
        go_wp2
        go_roundw
        case rel =>
          refine ⟨t + 1, shPar f j, rfl, (unhide HNX).symm, by omega, trivial, fun s hs => ?_⟩
          by_cases e : s = t
          · rw [e]; exact ⟨unhide HST t (Nat.le_refl _), by rw [← unhide HJ]; exact unhide HK⟩
          · exact unhide HALL s (by omega)
        case measure => rw [(unhide HM).1, (unhide HM).2]; exact hsp

set_option maxRecDepth 100000 in
set_option maxHeartbeats 1000000 in
theorem hasTwins_any (w : World) (f : Nat → Shp) (b0 n g cp : Nat) (B N : Nat → Nat) (M : Nat → Option Nat) (h : NodesP w f b0 n B N M) (hp : ∀ i, i < n → w.cell? ⟨g, i, none⟩ = some (.pointer (some ⟨B i, 0, none⟩))) (hn : n ≤ 200) :
    Calls Try.prog 59 #[.slice (some ⟨g, 0, none⟩) n cp] w fun e w' => (∃ r : Bool, e = .returned (.bool r) ∧ (r = false ↔ ∀ i, i < n → N i = i)) ∧ w' = w := by
  have HC : Hid (∀ i, i < n → w.cell? ⟨B i, 0, none⟩ = some (.int .i64 (N i))) := hide (fun i hi => by
    rw [← h.blk i hi]
    exact (h.node (N i) (Nat.lt_of_le_of_lt (h.le i hi) hi) (h.own i hi)).cell (i := 0) (by omega))
  have HP := hide hp
  clear h hp
  go_enter Try.func59, Try.ntmps59
  go_wp2
  go_loopw [7] (fun i wr => ∃ k : Nat, k ≤ n ∧ i = .int .i64 k ∧ wr = w ∧ ∀ j, j < k → N j = j) (fun i _ => n - (intOf i).toNat)
  case atStart => exact ⟨0, by omega, rfl, rfl, fun j hj => by omega⟩
  case round =>
    obtain ⟨k, hk, rfl, hw, hall⟩ := hrel
    subst hw
    have c0 : k < n → wr.cell? ⟨g, k, none⟩ = some (.pointer (some ⟨B k, 0, none⟩)) := fun h => unhide HP k h
    have c1 : k < n → wr.cell? ⟨B k, 0, none⟩ = some (.int .i64 (N k)) := fun h => unhide HC k h
    have HALL := hide hall
    clear hall
    go_wp2
    · have hkn : k < n := by assumption
      have hne : N k ≠ k := by
        intro e
        have h' : ((N k : Int) != (k : Int)) = true := by assumption
        rw [e] at h'
        simp at h'
      go_ret
      exact ⟨⟨true, rfl, ⟨fun h => (by cases h), fun h => absurd (h k hkn) hne⟩⟩, rfl⟩
    · have he : N k = k := by
        have h' : ((N k : Int) != (k : Int)) = false := by assumption
        simp at h'
        omega
      go_roundw
      case rel =>
        refine ⟨k + 1, by omega, by go_num, trivial, fun j hj => ?_⟩
        by_cases e : j = k
        · rw [e]; exact he
        · exact unhide HALL j (by omega)
      case measure => simp [intOf]; omega
    · go_ret
      exact ⟨⟨false, rfl, ⟨fun _ i hi => unhide HALL i (by omega), fun _ => rfl⟩⟩, rfl⟩

/-- Some shape's own key is a field of its parent already. -/
def Repeats (n : Nat) (f : Nat → Shp) : Prop := ∃ i, 0 < i ∧ i < n ∧ 0 ≤ plcI f (shPar f i) (f i).key

set_option maxRecDepth 100000 in
set_option maxHeartbeats 1000000 in
theorem repeatsField_any (w : World) (f : Nat → Shp) (b0 n g cp : Nat) (B N : Nat → Nat) (M : Nat → Option Nat) (h : NodesP w f b0 n B N M) (hid : ∀ i, i < n → N i = i) (h2 : Rule2 f) (h3 : Rule3 n f) (hp : ∀ i, i < n → w.cell? ⟨g, i, none⟩ = some (.pointer (some ⟨B i, 0, none⟩))) (hn : n ≤ 200) :
    Calls Try.prog 60 #[.slice (some ⟨g, 0, none⟩) n cp] w fun e w' => (∃ r : Bool, e = .returned (.bool r) ∧ (r = true ↔ Repeats n f)) ∧ Below w.heap.size w w' := by
  have HH := hide h
  have HI := hide hid
  have H2 := hide h2
  have H3 := hide h3
  have HP := hide hp
  clear h hp hid h2 h3
  go_enter Try.func60, Try.ntmps60
  go_wp2
  go_loopw [7] (fun i wr => ∃ (k q : Nat), k ≤ n ∧ i = .int .i64 k ∧ wr = w.drewN q ∧ ∀ j, 0 < j → j < k → plcI f (shPar f j) (f j).key < 0) (fun i _ => n - (intOf i).toNat)
  case atStart => exact ⟨0, 0, by omega, rfl, rfl, fun j h0 hj => by omega⟩
  case round =>
    obtain ⟨k, q, hk, rfl, hw, hall⟩ := hrel
    have hNq : NodesP wr f b0 n B N M := (unhide HH).keep (fun b _ => by rw [hw]; rfl)
    have c0 : k < n → wr.cell? ⟨g, k, none⟩ = some (.pointer (some ⟨B k, 0, none⟩)) := fun h => by rw [hw]; exact unhide HP k h
    have HW := hide hw
    have HNQ := hide hNq
    have HALL := hide hall
    clear hall hw hNq
    go_wp2
    · have hkn : k < n := by assumption
      obtain ⟨_, c2, _, c4, _⟩ := node_cells (unhide HNQ) (unhide HI) hkn
      clear c0
      by_cases hk0 : k = 0
      · subst hk0
        rw [show parOf f B 0 = none by unfold parOf; rw [if_pos rfl]] at c4
        go_quiet (fail)
        go_wp2
        go_roundw
        case rel => exact ⟨1, q + nq, by omega, rfl, by rw [unhide HW, World.drewN_drewN], fun j h0 h1 => by omega⟩
        case measure => simp [intOf]; omega
      · rw [show parOf f B k = some ⟨B (shPar f k), 0, none⟩ by unfold parOf; rw [if_neg hk0]] at c4
        have hk1 : 0 < k := by omega
        have hs : shPar f k < n := by have := (unhide H3 k hk1 hkn).2.1; unfold shPar; omega
        have HQ : Hid (∀ q, Calls Try.prog 42 #[.pointer (some ⟨B (shPar f k), 0, none⟩), .string (f k).key] (wr.drewN q) fun e w' => e = .returned (.int .i64 (plcI f (shPar f k) (f k).key)) ∧ w' = wr.drewN q) :=
          hide (fun q => (placeOf_any (wr.drewN q) f b0 n B N M ((unhide HNQ).keep (fun b _ => rfl)) (unhide HI) (unhide H2) (unhide H3) (shPar f k) hs (f k).key).mono (fun e w' h => ⟨h.1.1, h.2⟩))
        go_quiet (first | (go_at_call 42; exact Calls.quiet_of_same (unhide HQ _)))
        by_cases hr : 0 ≤ plcI f (shPar f k) (f k).key
        · go_wp2
          go_ret
          exact ⟨⟨true, rfl, ⟨fun _ => ⟨k, hk1, hkn, hr⟩, fun _ => rfl⟩⟩, by rw [unhide HW]; exact below_drewN (below_drewN (Below.refl _ _) _) _⟩
        · go_wp2
          go_roundw
          case rel =>
            refine ⟨k + 1, q + nq, by omega, by go_num, by rw [unhide HW, World.drewN_drewN], fun j h0 h1 => ?_⟩
            by_cases e : j = k
            · rw [e]; omega
            · exact unhide HALL j h0 (by omega)
          case measure => simp [intOf]; omega
    · go_ret
      refine ⟨⟨false, rfl, ⟨fun h => (by cases h), ?_⟩⟩, ?_⟩
      · rintro ⟨i, h0, h1, h2⟩
        have := unhide HALL i h0 (by omega)
        omega
      · rw [unhide HW]; exact below_drewN (Below.refl _ _) _
end Go.Proofs.Ytgiegkigfokdmab
