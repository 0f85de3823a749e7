/-
  ZrA.
-/
import Derived.Test.YtfceeijdmilieaaGreatStAP
namespace Go.Proofs.YtfceeijdmilieaaGreat
open Go.RowKit
set_option linter.unusedVariables false
attribute [local go_sem] run_store_float run_equalIn_float

theorem szValue_e (v : Vl) (left : Int) (w : World) (hs : v.str.size = 0) (h0 : 0 ≤ left) (h1 : left ≤ 1048576) :
    Calls Tryz.prog 64 #[VV v, .int .i64 left] w fun e w' => e = .returned (.int .i64 left) ∧ Below w.heap.size w w' := by
  have h := sz_any v.kind v.num v.flt v.str v.ref left w (by rw [hs]; unfold maxLen; omega) h0 h1
  rw [hs, if_neg (by omega), show left - ((0 : Nat) : Int) = left by omega] at h
  exact h

set_option maxHeartbeats 1000000 in
theorem szPair_e (p : Pr) (left : Int) (w : World) (h0 : 0 ≤ left) (h1 : left ≤ 1048576) (hk : p.key.str.size = 0) (hv : p.val.str.size = 0) :
    Calls Tryz.prog 78 #[PV p, .int .i64 left] w fun e w' => e = .returned (.int .i64 left) ∧ Below w.heap.size w w' := by
  have HK := hide hk
  have HV := hide hv
  clear hk hv
  go_enter Tryz.func78, Tryz.ntmps78
  go_wp2_with fail
  refine (szValue_e p.key left _ (unhide HK) h0 h1).mono ?_
  rintro e w1 ⟨rfl, hb1⟩
  obtain ⟨hc1, hf1⟩ := bcell hb1
  have q5 : w1.cell? ⟨w.heap.size, 5, none⟩ = some (.int .i64 p.val.kind) := by rw [hc1 _ _ (by simp)]; simp [go_sem]
  have q6 : w1.cell? ⟨w.heap.size, 6, none⟩ = some (.int .i64 p.val.num) := by rw [hc1 _ _ (by simp)]; simp [go_sem]
  have q7 : w1.cell? ⟨w.heap.size, 7, none⟩ = some (.float .f64 p.val.flt) := by rw [hc1 _ _ (by simp)]; simp [go_sem]
  have q8 : w1.cell? ⟨w.heap.size, 8, none⟩ = some (.string p.val.str) := by rw [hc1 _ _ (by simp)]; simp [go_sem]
  have q9 : w1.cell? ⟨w.heap.size, 9, none⟩ = some (.int .i64 p.val.ref) := by rw [hc1 _ _ (by simp)]; simp [go_sem]
  have HB1 := hide (((Below.refl w.heap.size w).alloc (Nat.le_refl _) _).trans (hb1.mono (by simp)))
  clear hb1 hc1 hf1
  go_wp2_with fail
  refine (szValue_e p.val left _ (unhide HV) h0 (by omega)).mono ?_
  rintro e w2 ⟨rfl, hb2⟩
  have HB2 := hide ((unhide HB1).trans (hb2.mono (unhide HB1).size))
  clear hb2
  go_wp2_with fail
  go_ret
  exact ⟨rfl, unhide HB2⟩

set_option maxRecDepth 100000 in
set_option maxHeartbeats 1000000 in
theorem szPairS_e (a : Option Addr) (n cap : Nat) (f : Nat → Pr) (left : Int) (w : World) (hA : PAt w a n f) (hs : ∀ i, i < n → (f i).key.str.size = 0 ∧ (f i).val.str.size = 0) (h0 : (n : Int) ≤ left) (h1 : left ≤ 1048576) :
    Calls Tryz.prog 65 #[.slice a n cap, .int .i64 left] w fun e w' => e = .returned (.int .i64 (left - n)) ∧ Below w.heap.size w w' := by
  have HA := hide hA
  have HS := hide hs
  clear hA hs
  go_enter Tryz.func65, Tryz.ntmps65
  go_wp2
  go_loopw [1, 5] (fun l i wr => ∃ (k : Nat), k ≤ n ∧ i = .int .i64 k ∧ l = .int .i64 (left - n) ∧ Below w.heap.size w wr) (fun _ i _ => n - (intOf i).toNat)
  case atStart => exact ⟨0, by omega, rfl, by simp, Below.refl _ _⟩
  case round =>
    obtain ⟨k, hk, rfl, rfl, hb⟩ := hrel
    by_cases hkn : k < n
    · obtain ⟨b, off, rfl, hbl, hcs⟩ := (unhide HA).resolve_left (by omega)
      obtain ⟨e0, e1, e2, e3, e4, e5, e6, e7, e8, e9, e10⟩ := (hcs k hkn).keep (fun q => hb.cell (p := ⟨b, q, none⟩) hbl)
      have HB := hide hb
      clear hcs hb
      go_wp2_with fail
      refine (szPair_e (f k) (left - n) _ (by omega) (by omega) (unhide HS k hkn).1 (unhide HS k hkn).2).mono ?_
      rintro e w1 ⟨rfl, hb1⟩
      have HB1 := hide ((unhide HB).trans (hb1.mono (unhide HB).size))
      clear hb1 e0 e1 e2 e3 e4 e5 e6 e7 e8 e9 e10
      go_wp2_with fail
      go_roundw
      case rel => exact ⟨k + 1, by omega, by go_num, rfl, unhide HB1⟩
      case measure => simp [intOf]; omega
    · have hkn' : k = n := by omega
      have HB := hide hb
      clear hb hkn
      subst hkn'
      go_wp2_with fail
      go_ret
      exact ⟨rfl, unhide HB⟩

set_option maxHeartbeats 1000000 in
theorem szIntS_e (a : Option Addr) (n cap : Nat) (left : Int) (w : World) (h0 : (n : Int) ≤ left) (h1 : left ≤ 1048576) :
    Calls Tryz.prog 66 #[.slice a n cap, .int .i64 left] w fun e w' => e = .returned (.int .i64 (left - n)) ∧ w' = w := by
  go_enter Tryz.func66, Tryz.ntmps66
  go_wp2
  go_ret
  exact ⟨rfl, rfl⟩

def Hush (d : Dc) : Prop := ∀ i, i < d.n → (d.L i).key.str.size = 0 ∧ (d.L i).val.str.size = 0
set_option maxRecDepth 100000 in
set_option maxHeartbeats 1000000 in
theorem szDict_e (la : Option Addr) (lc : Nat) (ia : Option Addr) (ic : Nat) (xa : Option Addr) (xc : Nat) (d : Dc) (left : Int) (w : World) (hD : DAt w la ia xa d) (hL : Hush d) (h0 : (dw d : Int) ≤ left) (h1 : left ≤ 1048576) :
    Calls Tryz.prog 41 #[Dv la lc ia ic xa xc d, .int .i64 left] w fun e w' => e = .returned (.int .i64 (left - dw d)) ∧ Below w.heap.size w w' := by
  have hdw : dw d = d.n + d.m + d.x := rfl
  have HD := hide hD
  have HL := hide hL
  clear hD hL
  have hb0 : Below w.heap.size w (w.alloc (.cells #[.slice la d.n lc, .slice ia d.m ic, .slice xa d.x xc, .int .i64 d.used, .int .i64 d.live, .int .i64 d.turns] 73)) := (Below.refl _ _).alloc (Nat.le_refl _) _
  have HB0 := hide hb0
  clear hb0
  go_enter Tryz.func41, Tryz.ntmps41
  go_wp2_with fail
  refine (szPairS_e la d.n lc d.L left _ ((unhide HD).below (unhide HB0)).log (unhide HL) (by omega) h1).mono ?_
  rintro e w1 ⟨rfl, hb1⟩
  obtain ⟨hc1, hf1⟩ := bcell hb1
  have q1 : w1.cell? ⟨w.heap.size, 1, none⟩ = some (.slice ia d.m ic) := by rw [hc1 _ _ (by simp)]; simp [go_sem]
  have q2 : w1.cell? ⟨w.heap.size, 2, none⟩ = some (.slice xa d.x xc) := by rw [hc1 _ _ (by simp)]; simp [go_sem]
  have HB1 := hide ((unhide HB0).trans (hb1.mono (unhide HB0).size))
  clear hb1 hc1 hf1
  go_wp2_with fail
  refine (szIntS_e ia d.m ic (left - d.n) _ (by omega) (by omega)).mono ?_
  rintro e w2 ⟨rfl, rfl⟩
  go_wp2_with fail
  refine (szIntS_e xa d.x xc (left - d.n - d.m) _ (by omega) (by omega)).mono ?_
  rintro e w3 ⟨rfl, rfl⟩
  have HE : Hid (left - d.n - d.m - d.x = left - dw d) := hide (by omega)
  have hnn : 0 ≤ left - (d.n : Int) - (d.m : Int) - (d.x : Int) := by omega
  clear hdw
  go_wp2_with fail
  go_ret
  exact ⟨by rw [← unhide HE] <;> rfl, unhide HB1⟩

set_option maxRecDepth 100000 in
set_option maxHeartbeats 1000000 in
theorem szValueS_e (a : Option Addr) (n cap : Nat) (f : Nat → Vl) (left : Int) (w : World) (hA : VAt w a n f) (hs : ∀ i, i < n → (f i).str.size = 0) (h0 : (n : Int) ≤ left) (h1 : left ≤ 1048576) :
    Calls Tryz.prog 40 #[.slice a n cap, .int .i64 left] w fun e w' => e = .returned (.int .i64 (left - n)) ∧ Below w.heap.size w w' := by
  have HA := hide hA
  have HS := hide hs
  clear hA hs
  go_enter Tryz.func40, Tryz.ntmps40
  go_wp2
  go_loopw [1, 5] (fun l i wr => ∃ (k : Nat), k ≤ n ∧ i = .int .i64 k ∧ l = .int .i64 (left - n) ∧ Below w.heap.size w wr) (fun _ i _ => n - (intOf i).toNat)
  case atStart => exact ⟨0, by omega, rfl, by simp, Below.refl _ _⟩
  case round =>
    obtain ⟨k, hk, rfl, rfl, hb⟩ := hrel
    by_cases hkn : k < n
    · obtain ⟨b, off, rfl, hbl, hcs⟩ := (unhide HA).resolve_left (by omega)
      obtain ⟨e0, e1, e2, e3, e4⟩ := (hcs k hkn).keep (fun q => hb.cell (p := ⟨b, q, none⟩) hbl)
      have HB := hide hb
      clear hcs hb
      go_wp2_with fail
      refine (szValue_e (f k) (left - n) _ (unhide HS k hkn) (by omega) (by omega)).mono ?_
      rintro e w1 ⟨rfl, hb1⟩
      have HB1 := hide ((unhide HB).trans (hb1.mono (unhide HB).size))
      clear hb1 e0 e1 e2 e3 e4
      go_wp2_with fail
      go_roundw
      case rel => exact ⟨k + 1, by omega, by go_num, rfl, unhide HB1⟩
      case measure => simp [intOf]; omega
    · have hkn' : k = n := by omega
      have HB := hide hb
      clear hb hkn
      subst hkn'
      go_wp2_with fail
      go_ret
      exact ⟨rfl, unhide HB⟩

set_option maxRecDepth 100000 in
set_option maxHeartbeats 1000000 in
theorem szTable_e (va : Option Addr) (vc : Nat) (la : Option Addr) (lc : Nat) (ia : Option Addr) (ic : Nat) (xa : Option Addr) (xc : Nat) (t : Tb) (left : Int) (w : World) (hV : VAt w va t.nv t.V) (hD : DAt w la ia xa t.d) (hv : ∀ i, i < t.nv → (t.V i).str.size = 0) (hL : Hush t.d) (h0 : (t.nv : Int) + dw t.d ≤ left) (h1 : left ≤ 1048576) :
    Calls Tryz.prog 23 #[TV va vc la lc ia ic xa xc t, .int .i64 left] w fun e w' => e = .returned (.int .i64 (left - t.nv - dw t.d)) ∧ Below w.heap.size w w' := by
  have HV := hide (And.intro hV hv)
  have HD := hide (And.intro hD hL)
  clear hV hD hv hL
  have hb0 : Below w.heap.size w (w.alloc (.cells #[.int .i64 t.shape, .slice va t.nv vc, .slice la t.d.n lc, .slice ia t.d.m ic, .slice xa t.d.x xc, .int .i64 t.d.used, .int .i64 t.d.live, .int .i64 t.d.turns] 75)) := (Below.refl _ _).alloc (Nat.le_refl _) _
  have HB0 := hide hb0
  clear hb0
  go_enter Tryz.func23, Tryz.ntmps23
  go_wp2_with fail
  refine (szValueS_e va t.nv vc t.V left _ ((unhide HV).1.below (unhide HB0) rfl) (unhide HV).2 (by omega) h1).mono ?_
  rintro e w1 ⟨rfl, hb1⟩
  obtain ⟨hc1, hf1⟩ := bcell hb1
  have q2 : w1.cell? ⟨w.heap.size, 2, none⟩ = some (.slice la t.d.n lc) := by rw [hc1 _ _ (by simp)]; simp [go_sem]
  have q3 : w1.cell? ⟨w.heap.size, 3, none⟩ = some (.slice ia t.d.m ic) := by rw [hc1 _ _ (by simp)]; simp [go_sem]
  have q4 : w1.cell? ⟨w.heap.size, 4, none⟩ = some (.slice xa t.d.x xc) := by rw [hc1 _ _ (by simp)]; simp [go_sem]
  have q5 : w1.cell? ⟨w.heap.size, 5, none⟩ = some (.int .i64 t.d.used) := by rw [hc1 _ _ (by simp)]; simp [go_sem]
  have q6 : w1.cell? ⟨w.heap.size, 6, none⟩ = some (.int .i64 t.d.live) := by rw [hc1 _ _ (by simp)]; simp [go_sem]
  have q7 : w1.cell? ⟨w.heap.size, 7, none⟩ = some (.int .i64 t.d.turns) := by rw [hc1 _ _ (by simp)]; simp [go_sem]
  have HB1 := hide ((unhide HB0).trans (hb1.mono (unhide HB0).size))
  clear hb1 hc1 hf1
  go_wp2_with fail
  refine (szDict_e la lc ia ic xa xc t.d (left - t.nv) _ ((unhide HD).1.below (unhide HB1)) (unhide HD).2 (by omega) (by omega)).mono ?_
  rintro e w2 ⟨rfl, hb2⟩
  have HB2 := hide ((unhide HB1).trans (hb2.mono (unhide HB1).size))
  have hnn : 0 ≤ left - (t.nv : Int) - (dw t.d : Int) := by omega
  clear hb2 q2 q3 q4 q5 q6 q7
  go_wp2_with fail
  go_ret
  exact ⟨rfl, unhide HB2⟩

set_option maxRecDepth 100000 in
set_option maxHeartbeats 1000000 in
theorem szTableS_e (a : Option Addr) (cap : Nat) (f : Nat → Tb) (left : Int) (w : World) (hA : TAt w a 1 f) (hv : ∀ i, i < (f 0).nv → ((f 0).V i).str.size = 0) (hL : Hush (f 0).d) (h0 : (tw (f 0) : Int) ≤ left) (h1 : left ≤ 1048576) :
    Calls Tryz.prog 10 #[.slice a 1 cap, .int .i64 left] w fun e w' => e = .returned (.int .i64 (left - tw (f 0))) ∧ Below w.heap.size w w' := by
  have htw : tw (f 0) = (f 0).nv + dw (f 0).d + 1 := rfl
  have hnn : 0 ≤ left - 1 - ((f 0).nv : Int) - (dw (f 0).d : Int) := by omega
  have HE : Hid (left - 1 - ((f 0).nv : Int) - (dw (f 0).d : Int) = left - tw (f 0)) := hide (by omega)
  have hq : ((f 0).nv : Int) + dw (f 0).d ≤ left - 1 := by omega
  have HA := hide hA
  have HVL := hide (And.intro hv hL)
  clear hA hv hL htw h0
  go_enter Tryz.func10, Tryz.ntmps10
  go_wp2
  go_loopw [1, 5] (fun l i wr => ∃ (k : Nat), k ≤ 1 ∧ i = .int .i64 k ∧ l = .int .i64 (if k = 0 then left - 1 else left - 1 - ((f 0).nv : Int) - (dw (f 0).d : Int)) ∧ Below w.heap.size w wr) (fun _ i _ => 1 - (intOf i).toNat)
  case atStart => exact ⟨0, by omega, rfl, by simp, Below.refl _ _⟩
  case round =>
    obtain ⟨k, hk, rfl, rfl, hb⟩ := hrel
    by_cases hkn : k = 0
    · subst hkn
      rw [if_pos rfl]
      obtain ⟨b, off, rfl, hbl, hcs⟩ := (unhide HA).resolve_left (by omega)
      obtain ⟨va, vc, la, lc, ia, ic, xa, xc, hc, hv, hd⟩ := (hcs 0 (by omega)).below hb hbl
      obtain ⟨e0, e1, e2, e3, e4, e5, e6, e7⟩ := hc
      simp only [Nat.zero_mul, Nat.add_zero] at e0 e1 e2 e3 e4 e5 e6 e7
      have HVD := hide (And.intro hv hd)
      have HB := hide hb
      clear hcs hv hd hb
      go_wp2_with fail
      refine (szTable_e va vc la lc ia ic xa xc (f 0) (left - 1) _ (unhide HVD).1 (unhide HVD).2 (unhide HVL).1 (unhide HVL).2 hq (by omega)).mono ?_
      rintro e w1 ⟨rfl, hb1⟩
      have HB1 := hide ((unhide HB).trans (hb1.mono (unhide HB).size))
      clear hb1 e0 e1 e2 e3 e4 e5 e6 e7
      go_wp2_with fail
      go_roundw
      case rel => exact ⟨1, by omega, by go_num, by simp, unhide HB1⟩
      case measure => simp [intOf]
    · have hkn' : k = 1 := by omega
      rw [if_neg hkn]
      have HB := hide hb
      clear hb hkn
      subst hkn'
      go_wp2_with fail
      go_ret
      exact ⟨by rw [← unhide HE] <;> rfl, unhide HB⟩

set_option maxHeartbeats 1000000 in
theorem szShape_e (s : Shp) (left : Int) (w : World) (hs : s.key.size = 0) (h0 : 0 ≤ left) (h1 : left ≤ 1048576) :
    Calls Tryz.prog 39 #[Sh s.parent s.key s.count, .int .i64 left] w fun e w' => e = .returned (.int .i64 left) ∧ Below w.heap.size w w' := by
  have h := szShape_any s.parent s.key s.count left w (by rw [hs]; unfold maxLen; omega) h0 h1
  rw [hs, if_neg (by omega), show left - ((0 : Nat) : Int) = left by omega] at h
  exact h

set_option maxRecDepth 100000 in
set_option maxHeartbeats 1000000 in
theorem szShapeS_e (a : Option Addr) (n cap : Nat) (f : Nat → Shp) (left : Int) (w : World) (hA : ShAt w a n f) (hs : ∀ i, i < n → (f i).key.size = 0) (h0 : (n : Int) ≤ left) (h1 : left ≤ 1048576) :
    Calls Tryz.prog 22 #[.slice a n cap, .int .i64 left] w fun e w' => e = .returned (.int .i64 (left - n)) ∧ Below w.heap.size w w' := by
  have HA := hide hA
  have HS := hide hs
  clear hA hs
  go_enter Tryz.func22, Tryz.ntmps22
  go_wp2
  go_loopw [1, 5] (fun l i wr => ∃ (k : Nat), k ≤ n ∧ i = .int .i64 k ∧ l = .int .i64 (left - n) ∧ Below w.heap.size w wr) (fun _ i _ => n - (intOf i).toNat)
  case atStart => exact ⟨0, by omega, rfl, by simp, Below.refl _ _⟩
  case round =>
    obtain ⟨k, hk, rfl, rfl, hb⟩ := hrel
    by_cases hkn : k < n
    · obtain ⟨b, off, rfl, hbl, hcs⟩ := (unhide HA).resolve_left (by omega)
      obtain ⟨a0, a1, a2⟩ := hcs k hkn
      have e0 := (hb.cell (p := ⟨b, off + k * 3, none⟩) hbl).trans a0
      have e1 := (hb.cell (p := ⟨b, off + k * 3 + 1, none⟩) hbl).trans a1
      have e2 := (hb.cell (p := ⟨b, off + k * 3 + 2, none⟩) hbl).trans a2
      clear a0 a1 a2
      have HB := hide hb
      clear hcs hb
      go_wp2_with fail
      refine (szShape_e (f k) (left - n) _ (unhide HS k hkn) (by omega) (by omega)).mono ?_
      rintro e w1 ⟨rfl, hb1⟩
      have HB1 := hide ((unhide HB).trans (hb1.mono (unhide HB).size))
      clear hb1 e0 e1 e2
      go_wp2_with fail
      go_roundw
      case rel => exact ⟨k + 1, by omega, by go_num, rfl, unhide HB1⟩
      case measure => simp [intOf]; omega
    · have hkn' : k = n := by omega
      have HB := hide hb
      clear hb hkn
      subst hkn'
      go_wp2_with fail
      go_ret
      exact ⟨rfl, unhide HB⟩

set_option maxHeartbeats 1000000 in
theorem szForest_e (a : Option Addr) (n cap : Nat) (f : Nat → Shp) (left : Int) (w : World) (hA : ShAt w a n f) (hs : ∀ i, i < n → (f i).key.size = 0) (h0 : (n : Int) ≤ left) (h1 : left ≤ 1048576) :
    Calls Tryz.prog 9 #[.agg #[.slice a n cap], .int .i64 left] w fun e w' => e = .returned (.int .i64 (left - n)) ∧ Below w.heap.size w w' := by
  have HA := hide hA
  have HS := hide hs
  have hnn : 0 ≤ left - (n : Int) := by omega
  have hb0 : ∀ o, Below w.heap.size w (w.alloc o) := fun o => (Below.refl _ _).alloc (Nat.le_refl _) _
  have HB := hide hb0
  clear hA hs hb0
  go_enter Tryz.func9, Tryz.ntmps9
  go_wp2_with fail
  refine (szShapeS_e a n cap f left _ ((unhide HA).below (unhide HB _) rfl) (unhide HS) h0 h1).mono ?_
  rintro e w1 ⟨rfl, hb1⟩
  have HB1 := hide ((unhide HB _).trans (hb1.mono (unhide HB _).size))
  clear hb1
  go_wp2_with fail
  go_ret
  exact ⟨rfl, unhide HB1⟩
set_option maxHeartbeats 1000000 in
theorem szSiteS_e (a : Option Addr) (cap : Nat) (left : Int) (w : World) (h0 : 0 ≤ left) (h1 : left ≤ 1048576) :
    Calls Tryz.prog 11 #[.slice a 0 cap, .int .i64 left] w fun e w' => e = .returned (.int .i64 left) ∧ w' = w := by
  go_enter Tryz.func11, Tryz.ntmps11
  go_wp2
  go_loopw [1, 5] (fun l i wr => i = .int .i64 0 ∧ l = .int .i64 left ∧ wr = w) (fun _ _ _ => 0)
  case atStart => exact ⟨rfl, by simp, rfl⟩
  case round =>
    obtain ⟨rfl, rfl, rfl⟩ := hrel
    go_wp2
    go_ret
    exact ⟨rfl, rfl⟩

set_option maxRecDepth 100000 in
set_option maxHeartbeats 1000000 in
theorem szStore_e (fa : Option Addr) (fc : Nat) (ta : Option Addr) (tc : Nat) (sa : Option Addr) (sc : Nat) (s : Sto) (w : World) (hS : StAt w fa ta sa s) (h1 : s.nf = 1) (h2 : s.nt = 1) (h3 : s.ns = 0) (hk : (s.F 0).key.size = 0) (hv : ∀ i, i < (s.T 0).nv → ((s.T 0).V i).str.size = 0) (hL : Hush (s.T 0).d) (ht : tw (s.T 0) ≤ 1000) :
    Calls Tryz.prog 4 #[.agg #[.slice fa 1 fc, .slice ta 1 tc, .slice sa 0 sc], .int .i64 1048576] w fun e w' => (∃ r : Int, e = .returned (.int .i64 r) ∧ 0 ≤ r) ∧ Below w.heap.size w w' := by
  have hfo := hS.fo
  have hta := hS.ta
  rw [h1] at hfo
  rw [h2] at hta
  have HF := hide hfo
  have HT := hide hta
  have HK := hide hk
  have HV := hide (And.intro hv hL)
  clear hS hfo hta hk hv hL h1 h2 h3
  have hb0 : Below w.heap.size w (w.alloc (.cells #[.slice fa 1 fc, .slice ta 1 tc, .slice sa 0 sc] 28)) := (Below.refl _ _).alloc (Nat.le_refl _) _
  have HB0 := hide hb0
  clear hb0
  go_enter Tryz.func4, Tryz.ntmps4
  go_wp2_with fail
  refine (szForest_e fa 1 fc s.F 1048576 _ ((unhide HF).below (unhide HB0) rfl) (fun i hi => by rw [show i = 0 by omega]; exact unhide HK) (by omega) (by omega)).mono ?_
  rintro e w1 ⟨rfl, hb1⟩
  obtain ⟨hc1, hf1⟩ := bcell hb1
  have q1 : w1.cell? ⟨w.heap.size, 1, none⟩ = some (.slice ta 1 tc) := by rw [hc1 _ _ (by simp)]; simp [go_sem]
  have q2 : w1.cell? ⟨w.heap.size, 2, none⟩ = some (.slice sa 0 sc) := by rw [hc1 _ _ (by simp)]; simp [go_sem]
  have y1 : w.heap.size < w1.heap.size := by have := hb1.size; simp at this; omega
  have HB1 := hide ((unhide HB0).trans (hb1.mono (unhide HB0).size))
  rw [show (1048576 : Int) - ((1 : Nat) : Int) = 1048575 by decide]
  clear hb1 hc1 hf1
  go_wp2_with fail
  refine (szTableS_e ta tc s.T 1048575 _ ((unhide HT).below (unhide HB1) rfl) (unhide HV).1 (unhide HV).2 (by omega) (by omega)).mono ?_
  rintro e w2 ⟨rfl, hb2⟩
  have p2 := (hb2.cell (p := ⟨w.heap.size, 2, none⟩) y1).trans q2
  have HB2 := hide ((unhide HB1).trans (hb2.mono (unhide HB1).size))
  obtain ⟨r, hr⟩ : ∃ r : Int, r = 1048575 - (tw (s.T 0) : Int) := ⟨_, rfl⟩
  have hr0 : 0 ≤ r := by omega
  have hr1 : r ≤ 1048576 := by omega
  rw [← hr]
  clear hb2 q1 q2 hr
  go_wp2_with fail
  refine (szSiteS_e sa sc r _ hr0 hr1).mono ?_
  rintro e w3 ⟨rfl, rfl⟩
  clear p2
  go_wp2_with fail
  go_ret
  exact ⟨⟨r, rfl, hr0⟩, unhide HB2⟩
end Go.Proofs.YtfceeijdmilieaaGreat
