/-
  Dicts: the model's rule 3.
-/
import Derived.Test.YtglcaejddckleaaGreatDoorDcD
namespace Go.Proofs.YtglcaejddckleaaGreatDoor
open Go.RowKit
set_option linter.unusedVariables false
attribute [local go_sem] run_store_float run_equalIn_float

theorem not_D3 {d : Dc} {k : Nat} (hk : k < d.m) (h : ¬ okInt d k) : tells (D3 d) = false := tells_no (fun h' => h (h'.1 k hk))

set_option maxRecDepth 100000 in
set_option maxHeartbeats 2000000 in
theorem l1intsok_any (c o : Nat) (la : Option Addr) (lc : Nat) (ia : Option Addr) (ic : Nat) (xa : Option Addr) (xc : Nat) (d : Dc) (w : World) (hD : DPtr w c o la lc ia ic xa xc d) (hS : Small d) :
    Calls Tryz.prog 74 #[Pc c o] w fun e w' => e = .returned (.bool (tells (D3 d))) ∧ Below w.heap.size w w' := by
  have hn := hS.n
  have hm := hS.m
  have c1 := hD.c1
  have hlt := hD.lt
  have HD := hide hD
  clear hD hS
  go_enter Tryz.func74, Tryz.ntmps74
  go_wp2
  go_loopw [11] (fun i wr => ∃ (k : Nat), k ≤ d.m ∧ i = .int .i64 k ∧ (∀ j, j < k → okInt d j) ∧ Below w.heap.size w wr) (fun i _ => d.m - (intOf i).toNat)
  case atStart => exact ⟨0, by omega, rfl, fun j hj => by omega, Below.refl _ _⟩
  case round =>
    clear c1
    obtain ⟨k, hk, rfl, hall, hb⟩ := hrel
    have hD := (unhide HD).below hb
    have c0 := hD.c0
    have c1 := hD.c1
    have hcl := hD.lt
    have HALL := hide hall
    clear hD hall
    by_cases hkn : k < d.m
    case neg =>
      have hkn' : k = d.m := by omega
      subst hkn'
      by_cases h0 : d.m = 0
      · have HT := hide (tells_yes (p := D3 d) ⟨unhide HALL, .inl h0⟩)
        have h0' : ((d.m : Int) == 0) = true := by simp [h0]
        have HB := hide hb
        clear hb h0
        go_wp2_with fail
        go_quiet (fail)
        go_wp2
        go_ret
        exact ⟨by rw [unhide HT]; rfl, below_drewN' (unhide HB) _⟩
      have h0' : ((d.m : Int) == 0) = false := by simp; omega
      obtain ⟨q, hq⟩ : ∃ q, d.m = q + 1 := ⟨d.m - 1, by omega⟩
      obtain ⟨b, off, rfl, hbl, hcs⟩ := (unhide HD).rows.ints.resolve_left h0
      have e0 := (hb.cell (p := ⟨b, off + q, none⟩) hbl).trans (hcs q (by omega))
      have hq1 : IntKind.i64.wrap ((d.m : Int) - 1) = (q : Int) := by rw [IntKind.wrap_i64]; omega
      have hqm : q < d.m := by omega
      have hbw : b < wr.heap.size := Nat.lt_of_lt_of_le hbl hb.size
      have HB := hide hb
      clear hcs hb
      by_cases hp : 0 < d.I q
      · have HT := hide (tells_yes (p := D3 d) ⟨unhide HALL, .inr (by rw [hq]; exact hp)⟩)
        have hd : decide (0 < d.I q) = true := by simp [hp]
        have HQ := hide hq
        clear hp hq h0
        go_wp2_with fail
        go_quiet (fail)
        go_wp2
        go_ret
        exact ⟨by rw [unhide HT]; rfl, below_drewN' (unhide HB) _⟩
      · have HT := hide (tells_no (p := D3 d) (fun h => by
          rcases h.2 with h | h
          · exact h0 h
          · rw [hq] at h; exact hp h))
        have hd : decide (0 < d.I q) = false := by simp; omega
        have HQ := hide hq
        clear hp hq h0
        go_wp2_with fail
        go_quiet (fail)
        go_wp2
        go_ret
        exact ⟨by rw [unhide HT]; rfl, below_drewN' (unhide HB) _⟩
    obtain ⟨b, off, rfl, hbl, hcs⟩ := (unhide HD).rows.ints.resolve_left (by omega)
    have e0 := (hb.cell (p := ⟨b, off + k, none⟩) hbl).trans (hcs k hkn)
    have hwz := hb.size
    clear hcs
    by_cases h0 : d.I k = 0
    · have HB := hide hb
      have HO : Hid (okInt d k) := hide (.inl h0)
      rw [h0] at e0
      clear hb h0
      go_wp2
      go_roundw
      case rel => exact ⟨k + 1, by omega, by go_num, fun j hj => (by by_cases e : j = k; exact e ▸ unhide HO; exact unhide HALL j (by omega)), unhide HB⟩
      case measure => simp [intOf]; omega
    have h0' : (d.I k == 0) = false := by simp [h0]
    by_cases h1 : d.I k < 0
    · have HT := hide (not_D3 hkn (fun h => by rcases h with h | h; exact h0 h; omega))
      have HB := hide hb
      clear hb h0
      go_wp2
      go_ret
      exact ⟨by rw [unhide HT]; rfl, unhide HB⟩
    by_cases h2 : (d.n : Int) < d.I k
    · have HT := hide (not_D3 hkn (fun h => by rcases h with h | h; exact h0 h; omega))
      have HB := hide hb
      clear hb h0
      go_wp2
      go_ret
      exact ⟨by rw [unhide HT]; rfl, unhide HB⟩
    obtain ⟨q, hq⟩ : ∃ q : Nat, d.I k = (q : Int) + 1 := ⟨(d.I k - 1).toNat, by omega⟩
    have hqn : q < d.n := by omega
    obtain ⟨lb, lo, rfl, hll, hls⟩ := (unhide HD).rows.log.resolve_left (by omega)
    obtain ⟨e1, e2, e3, e4, e5, _, _, _, _, _, e11⟩ := (hls q hqn).keep (fun q => hb.cell (p := ⟨lb, q, none⟩) hll)
    have HA : Hid (d.at (d.I k) = d.L q) := hide (by unfold Dc.at; rw [hq]; congr 1; omega)
    have HB := hide hb
    rw [hq] at e0
    have g0 : ((q : Int) + 1 == 0) = false := by simp; omega
    have g1 : ¬ (q : Int) + 1 < 0 := by omega
    have g2 : ¬ (d.n : Int) < (q : Int) + 1 := by omega
    have HQ := hide hq
    have H0 := hide h0
    clear hls hb h0 h1 h2 h0' hq
    by_cases ht : (d.L q).turn = 0
    · have HT := hide (not_D3 hkn (fun h => by rcases h with h | h; exact unhide H0 h; rw [unhide HA] at h; exact h.2.2.1 ht))
      rw [ht] at e11
      clear ht
      go_wp2
      go_ret
      exact ⟨by rw [unhide HT]; rfl, unhide HB⟩
    have ht' : ((d.L q).turn == 0) = false := by simp [ht]
    have hw : IntKind.i64.wrap ((k : Int) + 1) = (k : Int) + 1 := by rw [IntKind.wrap_i64]; omega
    by_cases hk2 : (d.L q).key.kind = 2
    case neg =>
      have HT := hide (not_D3 hkn (fun h => by rcases h with h | h; exact unhide H0 h; rw [unhide HA] at h; exact hk2 h.2.2.2.1))
      have hk2' : ((d.L q).key.kind != 2) = true := by simp [hk2]
      clear hk2 ht
      go_wp2
      go_ret
      exact ⟨by rw [unhide HT]; rfl, (unhide HB).alloc (unhide HB).size _⟩
    have hk2' : ((d.L q).key.kind != 2) = false := by simp [hk2]
    by_cases hnm : (d.L q).key.num = (k : Int) + 1
    case neg =>
      have HT := hide (not_D3 hkn (fun h => by rcases h with h | h; exact unhide H0 h; rw [unhide HA] at h; exact hnm h.2.2.2.2))
      have hnm' : ((d.L q).key.num != (k : Int) + 1) = true := by simp [hnm]
      clear hk2 ht hnm
      go_wp2
      go_ret
      exact ⟨by rw [unhide HT]; rfl, (unhide HB).alloc (unhide HB).size _⟩
    have HO : Hid (okInt d k) := hide (.inr ⟨by rw [unhide HQ]; omega, by rw [unhide HQ]; omega, by rw [unhide HA]; exact ht, by rw [unhide HA]; exact hk2, by rw [unhide HA]; exact hnm⟩)
    have hnm' : ((d.L q).key.num != (k : Int) + 1) = false := by simp [hnm]
    clear hk2 ht hnm
    go_wp2
    go_roundw
    case rel => exact ⟨k + 1, by omega, by go_num, fun j hj => (by by_cases e : j = k; exact e ▸ unhide HO; exact unhide HALL j (by omega)), (unhide HB).alloc (unhide HB).size _⟩
    case measure => simp [intOf]; omega

theorem tells_and3 {a b c : Prop} : tells (a ∧ b ∧ c) = (tells a && tells b && tells c) := by
  by_cases ha : a <;> by_cases hb : b <;> by_cases hc : c <;> simp [tells, ha, hb, hc]
theorem tells_eq {a b : Int} : tells (a = b) = (a == b) := by
  by_cases h : a = b <;> simp [tells, h]
theorem tells_le {a b : Int} : tells (a ≤ b) = decide (a ≤ b) := by
  by_cases h : a ≤ b <;> simp [tells, h]

set_option maxHeartbeats 1000000 in
theorem l1small_any (c o : Nat) (la : Option Addr) (lc : Nat) (ia : Option Addr) (ic : Nat) (xa : Option Addr) (xc : Nat) (d : Dc) (v : Vl) (w : World) (hD : DPtr w c o la lc ia ic xa xc d) (hS : Small d) :
    Calls Tryz.prog 113 #[Pc c o, V v.kind v.num v.flt v.str v.ref] w fun e w' => e = .returned (.bool (tells (smallK d.m v))) ∧ Below w.heap.size w w' := by
  have hm := hS.m
  have c1 := hD.c1
  have hlt := hD.lt
  clear hD hS
  by_cases h1 : v.kind = 2
  case neg =>
    have HT := hide (tells_no (p := smallK d.m v) (fun h => h1 h.1))
    have h1' : (v.kind == 2) = false := by simp [h1]
    clear h1
    go_enter Tryz.func113, Tryz.ntmps113
    go_wp2
    go_quiet (fail)
    go_wp2
    go_ret
    exact ⟨by rw [unhide HT]; rfl, below_drewN' ((Below.refl _ _).alloc (Nat.le_refl _) _) _⟩
  have h1' : (v.kind == 2) = true := by simp [h1]
  by_cases h2 : 1 ≤ v.num
  case neg =>
    have HT := hide (tells_no (p := smallK d.m v) (fun h => h2 h.2.1))
    have h2' : decide (1 ≤ v.num) = false := by simp [h2]
    clear h1 h2
    go_enter Tryz.func113, Tryz.ntmps113
    go_wp2
    go_quiet (fail)
    go_wp2
    go_ret
    exact ⟨by rw [unhide HT]; rfl, below_drewN' ((Below.refl _ _).alloc (Nat.le_refl _) _) _⟩
  have h2' : decide (1 ≤ v.num) = true := by simp [h2]
  by_cases h3 : v.num ≤ (d.m : Int)
  · have HT := hide (tells_yes (p := smallK d.m v) ⟨h1, h2, h3⟩)
    have h3' : decide (v.num ≤ (d.m : Int)) = true := by simp [h3]
    clear h1 h2 h3
    go_enter Tryz.func113, Tryz.ntmps113
    go_wp2
    go_quiet (fail)
    go_wp2
    go_ret
    exact ⟨by rw [unhide HT]; rfl, below_drewN' ((Below.refl _ _).alloc (Nat.le_refl _) _) _⟩
  · have HT := hide (tells_no (p := smallK d.m v) (fun h => h3 h.2.2))
    have h3' : decide (v.num ≤ (d.m : Int)) = false := by simp [h3]
    clear h1 h2 h3
    go_enter Tryz.func113, Tryz.ntmps113
    go_wp2
    go_quiet (fail)
    go_wp2
    go_ret
    exact ⟨by rw [unhide HT]; rfl, below_drewN' ((Below.refl _ _).alloc (Nat.le_refl _) _) _⟩
end Go.Proofs.YtglcaejddckleaaGreatDoor
