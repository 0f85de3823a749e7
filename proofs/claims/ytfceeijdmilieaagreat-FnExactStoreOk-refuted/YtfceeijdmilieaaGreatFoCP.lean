/-
  FoC.
-/
import Derived.Test.YtfceeijdmilieaaGreatBr11
namespace Go.Proofs.YtfceeijdmilieaaGreat
open Go.RowKit
set_option linter.unusedVariables false

def Rule1 (n : Nat) : Prop := n ≠ 0 ∧ n ≤ 200
def Rule2 (f : Nat → Shp) : Prop := (f 0).parent = -1 ∧ (f 0).key.toList = [] ∧ (f 0).count = 0
def Ok3 (f : Nat → Shp) (i : Nat) : Prop := 0 ≤ (f i).parent ∧ (f i).parent < i ∧ (f i).count = (f (f i).parent.toNat).count + 1 ∧ (f i).count ≤ 12 ∧ (f i).key.size ≤ 4000
def Rule3 (n : Nat) (f : Nat → Shp) : Prop := ∀ i, 1 ≤ i → i < n → Ok3 f i
def Twin (f : Nat → Shp) (k i : Nat) : Prop := (f k).parent = (f i).parent ∧ (f k).key.toList = (f i).key.toList
def Rule4 (n : Nat) (f : Nat → Shp) : Prop := ∀ i k, 1 ≤ k → k < i → i < n → ¬ Twin f k i
/-- The way up from shape i. -/
def upI (f : Nat → Shp) (i : Nat) : Nat → Int
  | 0 => (f i).parent
  | t + 1 => (f (upI f i t).toNat).parent
def Rule5 (n : Nat) (f : Nat → Shp) : Prop := ∀ i t, 1 ≤ i → i < n → (∀ s, s ≤ t → 0 < upI f i s) → (f (upI f i t).toNat).key.toList ≠ (f i).key.toList

open Classical in
noncomputable def forestOk (n : Nat) (f : Nat → Shp) : Int :=
  if Rule1 n then if Rule2 f then if Rule3 n f then if Rule4 n f then if Rule5 n f then 0 else 5 else 4 else 3 else 2 else 1

theorem forestOk1 {n : Nat} {f : Nat → Shp} (h : ¬ Rule1 n) : forestOk n f = 1 := if_neg h
theorem forestOk2 {n : Nat} {f : Nat → Shp} (h1 : Rule1 n) (h : ¬ Rule2 f) : forestOk n f = 2 := by unfold forestOk; rw [if_pos h1, if_neg h]
theorem forestOk3 {n : Nat} {f : Nat → Shp} (h1 : Rule1 n) (h2 : Rule2 f) (h : ¬ Rule3 n f) : forestOk n f = 3 := by unfold forestOk; rw [if_pos h1, if_pos h2, if_neg h]
theorem forestOk4 {n : Nat} {f : Nat → Shp} (h1 : Rule1 n) (h2 : Rule2 f) (h3 : Rule3 n f) (h : ¬ Rule4 n f) : forestOk n f = 4 := by unfold forestOk; rw [if_pos h1, if_pos h2, if_pos h3, if_neg h]
theorem forestOk5 {n : Nat} {f : Nat → Shp} (h1 : Rule1 n) (h2 : Rule2 f) (h3 : Rule3 n f) (h4 : Rule4 n f) (h : ¬ Rule5 n f) : forestOk n f = 5 := by unfold forestOk; rw [if_pos h1, if_pos h2, if_pos h3, if_pos h4, if_neg h]
theorem forestOk0 {n : Nat} {f : Nat → Shp} (h1 : Rule1 n) (h2 : Rule2 f) (h3 : Rule3 n f) (h4 : Rule4 n f) (h : Rule5 n f) : forestOk n f = 0 := by unfold forestOk; rw [if_pos h1, if_pos h2, if_pos h3, if_pos h4, if_pos h]

theorem below_drewN {B : Nat} {a w : World} (h : Below B a w) (m : Nat) : Below B a (w.drewN m) := ⟨h.os, h.tape, h.output, h.size, h.block⟩

theorem count_bound {f : Nat → Shp} {k : Nat} (h2 : Rule2 f) (h : ∀ j, 1 ≤ j → j < k → Ok3 f j) : ∀ j, j < k → 0 ≤ (f j).count ∧ (f j).count ≤ 12 := by
  intro j
  induction j using Nat.strongRecOn with
  | ind j ih =>
    intro hj
    by_cases h0 : j = 0
    · subst h0; have := h2.2.2; omega
    · obtain ⟨a, b, c, d, _⟩ := h j (by omega) hj
      have := (ih (f j).parent.toNat (by omega) (by omega)).1
      omega

theorem up_bound {n : Nat} {f : Nat → Shp} (h3 : Rule3 n f) {i : Nat} (h1 : 1 ≤ i) (hi : i < n) : ∀ t, (∀ s, s < t → 0 < upI f i s) → 0 ≤ upI f i t ∧ upI f i t < i := by
  intro t
  induction t with
  | zero => intro _; obtain ⟨a, b, _⟩ := h3 i h1 hi; exact ⟨a, b⟩
  | succ t ih =>
    intro h
    obtain ⟨_, hb⟩ := ih (fun s hs => h s (by omega))
    have h0 := h t (by omega)
    obtain ⟨a, b, _⟩ := h3 (upI f i t).toNat (by omega) (by omega)
    exact ⟨a, by show (f (upI f i t).toNat).parent < i; omega⟩

set_option maxRecDepth 100000 in
set_option maxHeartbeats 2000000 in
theorem specForestOk (b n cap : Nat) (f : Nat → Shp) (w : World) (hA : ShRow w b n f) (hn : n ≤ 1048576) :
    Calls Tryz.prog 12 #[.agg #[.slice (some ⟨b, 0, none⟩) n cap]] w fun e w' => e = .returned (.int .i64 (forestOk n f)) ∧ Below w.heap.size w w' := by
  have hl := hA.lt
  have HA := hide hA
  have c0' : 0 < n → w.cell? ⟨b, 0, none⟩ = some (.int .i64 (f 0).parent) := fun h => by simpa using (hA.cells h).1
  have c1' : 0 < n → w.cell? ⟨b, 1, none⟩ = some (.string (f 0).key) := fun h => by simpa using (hA.cells h).2.1
  have c2' : 0 < n → w.cell? ⟨b, 2, none⟩ = some (.int .i64 (f 0).count) := fun h => by simpa using (hA.cells h).2.2
  clear hA
  by_cases h1 : Rule1 n
  case neg =>
    have HR := hide (forestOk1 (f := f) h1)
    by_cases h0 : n = 0
    · subst h0
      clear h1 c0' c1' c2'
      go_enter Tryz.func12, Tryz.ntmps12
      go_wp2
      go_ret
      exact ⟨by rw [unhide HR]; rfl, (Below.refl _ _).alloc (Nat.le_refl _) _⟩
    · have h2 : 200 < n := by unfold Rule1 at h1; omega
      clear h1 c0' c1' c2'
      go_enter Tryz.func12, Tryz.ntmps12
      go_wp2
      go_ret
      exact ⟨by rw [unhide HR]; rfl, (Below.refl _ _).alloc (Nat.le_refl _) _⟩
  have h1' : 0 < n := by unfold Rule1 at h1; omega
  have c0 := c0' h1'
  have c1 := c1' h1'
  have c2 := c2' h1'
  have h2 : ((n : Int) == 0) = false := by simp; omega
  have h3 : (n : Int) ≤ 200 := by unfold Rule1 at h1; omega
  have H1 := hide h1
  clear h1 c0' c1' c2'
  go_enter Tryz.func12, Tryz.ntmps12
  go_wp2
  all_goals try (go_ret; refine ⟨?_, ((Below.refl _ _).alloc (Nat.le_refl _) _).alloc (by simp) _⟩; rw [forestOk2 (unhide H1) (by simp_all [Rule2])]; rfl)
  have H2 : Hid (Rule2 f) := hide (by simp_all [Rule2])
  clear c0 c1 c2
  go_loopw [5] (fun i wr => ∃ k : Nat, 1 ≤ k ∧ k ≤ n ∧ i = .int .i64 k ∧ Below w.heap.size w wr ∧ wr.cell? ⟨w.heap.size, 0, none⟩ = some (.slice (some ⟨b, 0, none⟩) n cap) ∧ w.heap.size < wr.heap.size ∧ ∀ j, 1 ≤ j → j < k → Ok3 f j) (fun i _ => n - (intOf i).toNat)
  case atStart => exact ⟨1, by omega, by omega, rfl, ((Below.refl _ _).alloc (Nat.le_refl _) _).alloc (by simp) _, by simp [go_sem], by simp; omega, fun j h1 h2 => by omega⟩
  case round =>
    obtain ⟨k, hk1, hk, rfl, hb, hbox, hsz, hall⟩ := hrel
    have c0 : k < n → wr.cell? ⟨b, k * 3, none⟩ = some (.int .i64 (f k).parent) := fun h => (((unhide HA).below hb hl).cells h).1
    have c1 : k < n → wr.cell? ⟨b, k * 3 + 1, none⟩ = some (.string (f k).key) := fun h => (((unhide HA).below hb hl).cells h).2.1
    have c2 : k < n → wr.cell? ⟨b, k * 3 + 2, none⟩ = some (.int .i64 (f k).count) := fun h => (((unhide HA).below hb hl).cells h).2.2
    have HB := hide hb
    have HALL := hide hall
    clear hb hall
    go_wp2
    · have hlt : k < n := by assumption
      by_cases hA : (f k).parent < 0
      · have HN := hide (forestOk3 (n := n) (f := f) (unhide H1) (unhide H2) (fun h => by have := (h k hk1 hlt).1; omega))
        have hd : decide ((f k).parent < 0) = true := by simp [hA]
        go_quiet (fail)
        go_wp2
        go_ret
        exact ⟨by rw [unhide HN]; rfl, below_drewN ((unhide HB).alloc (by omega) _) _⟩
      have hd : decide ((f k).parent < 0) = false := by simp [hA]
      by_cases hB : (k : Int) ≤ (f k).parent
      · have HN := hide (forestOk3 (n := n) (f := f) (unhide H1) (unhide H2) (fun h => by have := (h k hk1 hlt).2.1; omega))
        have hd2 : decide ((k : Int) ≤ (f k).parent) = true := by simp [hB]
        go_quiet (fail)
        go_wp2
        go_ret
        exact ⟨by rw [unhide HN]; rfl, below_drewN ((unhide HB).alloc (by omega) _) _⟩
      have hd2 : decide ((k : Int) ≤ (f k).parent) = false := by simp; omega
      obtain ⟨p, hp⟩ : ∃ p : Nat, (f k).parent = p := ⟨(f k).parent.toNat, by omega⟩
      have hpk : p < k := by omega
      have hpn : p < n := by omega
      obtain ⟨hp0, hp1⟩ := count_bound (unhide H2) (unhide HALL) p hpk
      have e2 : wr.cell? ⟨b, p * 3 + 2, none⟩ = some (.int .i64 (f p).count) := (((unhide HA).below (unhide HB) hl).cells hpn).2.2
      rw [hp] at hA hB hd hd2 c0 ⊢
      have HP := hide hp
      have hbw : b < wr.heap.size := Nat.lt_of_lt_of_le hl (unhide HB).size
      clear hp
      have hw : IntKind.i64.wrap ((f p).count + 1) = (f p).count + 1 := by rw [IntKind.wrap_i64]; omega
      by_cases hC : (f k).count = (f p).count + 1
      case neg =>
        have HN := hide (forestOk3 (n := n) (f := f) (unhide H1) (unhide H2) (fun h => by have := (h k hk1 hlt).2.2.1; rw [unhide HP] at this; exact hC this))
        go_quiet (fail)
        go_wp2
        go_ret
        exact ⟨by rw [unhide HN]; rfl, below_drewN ((unhide HB).alloc (by omega) _) _⟩
      have hdC : ((f k).count != (f p).count + 1) = false := by simp [hC]
      by_cases hD : 12 < (f k).count
      · have HN := hide (forestOk3 (n := n) (f := f) (unhide H1) (unhide H2) (fun h => by have := (h k hk1 hlt).2.2.2.1; omega))
        have hdD : decide (12 < (f k).count) = true := by simp [hD]
        have HC := hide hC
        clear hC
        go_quiet (fail)
        go_wp2
        go_ret
        exact ⟨by rw [unhide HN]; rfl, below_drewN ((unhide HB).alloc (by omega) _) _⟩
      have hdD : decide (12 < (f k).count) = false := by simp; omega
      by_cases hE : (4000 : Int) < (f k).key.size
      · have HN := hide (forestOk3 (n := n) (f := f) (unhide H1) (unhide H2) (fun h => by have := (h k hk1 hlt).2.2.2.2; omega))
        have hdE : decide ((4000 : Int) < (f k).key.size) = true := by simp [hE]
        have HC := hide hC
        clear hC
        go_quiet (fail)
        go_wp2
        go_ret
        exact ⟨by rw [unhide HN]; rfl, below_drewN ((unhide HB).alloc (by omega) _) _⟩
      have hdE : decide ((4000 : Int) < (f k).key.size) = false := by simp; omega
      have HO : Hid (Ok3 f k) := hide ⟨by rw [unhide HP]; omega, by rw [unhide HP]; omega, by rw [unhide HP]; exact hC, by omega, by omega⟩
      have HC := hide hC
      clear hC
      go_quiet (fail)
      go_wp2
      go_roundw
      case rel =>
        refine ⟨k + 1, by omega, by omega, by go_num, below_drewN ((unhide HB).alloc (by omega) _) _, by simp [go_sem, hbox, hsz], by simp; omega, fun j h1 h2 => ?_⟩
        by_cases e : j = k
        · rw [e]; exact unhide HO
        · exact unhide HALL j h1 (by omega)
      case measure => simp [intOf]; omega
    have H3 : Hid (Rule3 n f) := hide (fun i h1 h2 => unhide HALL i h1 (by omega))
    clear HALL c0 c1 c2
    go_loopw [7] (fun i wr => ∃ k : Nat, 1 ≤ k ∧ k ≤ n ∧ i = .int .i64 k ∧ Below w.heap.size w wr ∧ wr.cell? ⟨w.heap.size, 0, none⟩ = some (.slice (some ⟨b, 0, none⟩) n cap) ∧ ∀ i j, 1 ≤ j → j < i → i < k → ¬ Twin f j i) (fun i _ => n - (intOf i).toNat)
    case atStart => exact ⟨1, by omega, by omega, rfl, unhide HB, hbox, fun i j h1 h2 h3 => by omega⟩
    case round =>
      clear HB hbox hsz hk1 hk
      obtain ⟨k2, hk1, hk, rfl, hb, hbox, hall⟩ := hrel
      have HB := hide hb
      have HALL := hide hall
      clear hb hall
      go_wp2
      · have hlt : k2 < n := by assumption
        go_loopw [8] (fun i wr => ∃ j : Nat, 1 ≤ j ∧ j ≤ k2 ∧ i = .int .i64 j ∧ Below w.heap.size w wr ∧ wr.cell? ⟨w.heap.size, 0, none⟩ = some (.slice (some ⟨b, 0, none⟩) n cap) ∧ ∀ l, 1 ≤ l → l < j → ¬ Twin f l k2) (fun i _ => k2 - (intOf i).toNat)
        case atStart => exact ⟨1, by omega, by omega, rfl, unhide HB, hbox, fun l h1 h2 => by omega⟩
        case round =>
          clear HB hbox
          obtain ⟨j, hj1, hj, rfl, hb, hbox, hin⟩ := hrel
          have HB := hide hb
          have HIN := hide hin
          clear hb hin
          go_wp2
          · have hjlt : j < k2 := by assumption
            obtain ⟨a0, a1, _⟩ := ((unhide HA).below (unhide HB) hl).cells (show j < n by omega)
            obtain ⟨b0, b1, _⟩ := ((unhide HA).below (unhide HB) hl).cells hlt
            have hjn : j < n := by omega
            by_cases hP : (f j).parent = (f k2).parent
            · have hd : ((f j).parent == (f k2).parent) = true := by simp [hP]
              by_cases hK : (f j).key.toList = (f k2).key.toList
              · have hd2 : ((f j).key.toList == (f k2).key.toList) = true := by simp [hK]
                have HN := hide (forestOk4 (unhide H1) (unhide H2) (unhide H3) (fun h => h k2 j hj1 hjlt hlt ⟨hP, hK⟩))
                clear hP hK
                go_quiet (fail)
                go_wp2
                go_ret
                exact ⟨by rw [unhide HN]; rfl, below_drewN (unhide HB) _⟩
              · have hd2 : ((f j).key.toList == (f k2).key.toList) = false := by simp [hK]
                have HT : Hid (¬ Twin f j k2) := hide (fun h => hK h.2)
                clear hP hK
                go_quiet (fail)
                go_wp2
                go_roundw
                case rel =>
                  refine ⟨j + 1, by omega, by omega, by go_num, below_drewN (unhide HB) _, by simpa [go_sem] using hbox, fun l h1 h2 => ?_⟩
                  by_cases e : l = j
                  · rw [e]; exact unhide HT
                  · exact unhide HIN l h1 (by omega)
                case measure => simp [intOf]; omega
            · have hd : ((f j).parent == (f k2).parent) = false := by simp [hP]
              have HT : Hid (¬ Twin f j k2) := hide (fun h => hP h.1)
              clear hP
              go_quiet (fail)
              go_wp2
              go_roundw
              case rel =>
                refine ⟨j + 1, by omega, by omega, by go_num, below_drewN (unhide HB) _, by simpa [go_sem] using hbox, fun l h1 h2 => ?_⟩
                by_cases e : l = j
                · rw [e]; exact unhide HT
                · exact unhide HIN l h1 (by omega)
              case measure => simp [intOf]; omega
          · go_roundw
            case rel =>
              refine ⟨k2 + 1, by omega, by omega, by go_num, unhide HB, hbox, fun i l h1 h2 h3 => ?_⟩
              by_cases e : i = k2
              · rw [e] at h2 ⊢; exact unhide HIN l h1 (by omega)
              · exact unhide HALL i l h1 h2 (by omega)
            case measure => simp [intOf]; omega
      have H4 : Hid (Rule4 n f) := hide (fun i j h1 h2 h3 => unhide HALL i j h1 h2 (by omega))
      clear HALL
      go_loopw [9] (fun i wr => ∃ k : Nat, 1 ≤ k ∧ k ≤ n ∧ i = .int .i64 k ∧ Below w.heap.size w wr ∧ wr.cell? ⟨w.heap.size, 0, none⟩ = some (.slice (some ⟨b, 0, none⟩) n cap) ∧ ∀ i t, 1 ≤ i → i < k → (∀ s, s ≤ t → 0 < upI f i s) → (f (upI f i t).toNat).key.toList ≠ (f i).key.toList) (fun i _ => n - (intOf i).toNat)
      case atStart => exact ⟨1, by omega, by omega, rfl, unhide HB, hbox, fun i t h1 h2 h3 => by omega⟩
      case round =>
        clear HB hbox hk1 hk
        obtain ⟨k3, hk1, hk, rfl, hb, hbox, hall⟩ := hrel
        have a0 : k3 < n → wr.cell? ⟨b, k3 * 3, none⟩ = some (.int .i64 (f k3).parent) := fun h => (((unhide HA).below hb hl).cells h).1
        have HB := hide hb
        have HALL := hide hall
        clear hb hall
        go_wp2
        · have hlt : k3 < n := by assumption
          clear a0
          go_loopw [10] (fun m wr => ∃ t : Nat, m = .int .i64 (upI f k3 t) ∧ Below w.heap.size w wr ∧ wr.cell? ⟨w.heap.size, 0, none⟩ = some (.slice (some ⟨b, 0, none⟩) n cap) ∧ ∀ s, s < t → 0 < upI f k3 s ∧ (f (upI f k3 s).toNat).key.toList ≠ (f k3).key.toList) (fun m _ => (intOf m).toNat)
          case atStart => exact ⟨0, rfl, unhide HB, hbox, fun s h => by omega⟩
          case round =>
            clear HB hbox
            obtain ⟨t, rfl, hb, hbox, hin⟩ := hrel
            obtain ⟨hu0, hu1⟩ := up_bound (unhide H3) hk1 hlt t (fun s hs => (hin s hs).1)
            obtain ⟨p, hp⟩ : ∃ p : Nat, upI f k3 t = p := ⟨(upI f k3 t).toNat, by omega⟩
            have hpn : p < n := by omega
            rw [hp]
            have HP := hide hp
            clear hp hu0 hu1
            obtain ⟨a0, a1, _⟩ := ((unhide HA).below hb hl).cells hpn
            obtain ⟨_, b1, _⟩ := ((unhide HA).below hb hl).cells hlt
            have HB := hide hb
            have HIN := hide hin
            clear hb hin
            go_wp2
            · have hp0 : 0 < p := by assumption
              have hst : ∀ s, s ≤ t → 0 < upI f k3 s := fun s hs => by
                by_cases e : s = t
                · rw [e, unhide HP]; omega
                · exact (unhide HIN s (by omega)).1
              have HST := hide hst
              clear hst
              by_cases hK : (f p).key.toList = (f k3).key.toList
              · have hd : ((f p).key.toList == (f k3).key.toList) = true := by simp [hK]
                have HN := hide (forestOk5 (unhide H1) (unhide H2) (unhide H3) (unhide H4) (fun h => h k3 t hk1 hlt (unhide HST) (by rw [unhide HP]; exact hK)))
                clear hK
                go_quiet (fail)
                go_wp2
                go_ret
                exact ⟨by rw [unhide HN]; rfl, below_drewN (unhide HB) _⟩
              · have hd : ((f p).key.toList == (f k3).key.toList) = false := by simp [hK]
                have HK := hide hK
                have hnx : upI f k3 (t + 1) = (f p).parent := by show (f (upI f k3 t).toNat).parent = _; rw [unhide HP]; rfl
                have HX := hide hnx
                clear hK hnx
                go_quiet (fail)
                go_wp2
                go_roundw
                case rel =>
                  refine ⟨t + 1, by rw [unhide HX], below_drewN (unhide HB) _, by simpa [go_sem] using hbox, fun s hs => ?_⟩
                  by_cases e : s = t
                  · rw [e, unhide HP]; exact ⟨by omega, unhide HK⟩
                  · exact unhide HIN s (by omega)
                case measure =>
                  have := (up_bound (unhide H3) hk1 hlt (t + 1) (fun s hs => unhide HST s (by omega))).1
                  obtain ⟨_, h5, _⟩ := unhide H3 p (by omega) hpn
                  simp [intOf]; omega
            · have hp0 : p = 0 := by omega
              go_roundw
              case rel =>
                refine ⟨k3 + 1, by omega, by omega, by go_num, unhide HB, hbox, fun i s h1 h2 h3 => ?_⟩
                by_cases e : i = k3
                · rw [e] at h3 ⊢
                  by_cases hs : s < t
                  · exact (unhide HIN s hs).2
                  · have := h3 t (by omega)
                    rw [unhide HP] at this
                    omega
                · exact unhide HALL i s h1 (by omega) h3
              case measure => simp [intOf]; omega
        · have H5 : Rule5 n f := fun i t h1 h2 h3 => unhide HALL i t h1 (by omega) h3
          have HN := hide (forestOk0 (unhide H1) (unhide H2) (unhide H3) (unhide H4) H5)
          go_ret
          exact ⟨by rw [unhide HN]; rfl, unhide HB⟩
end Go.Proofs.YtfceeijdmilieaaGreat
