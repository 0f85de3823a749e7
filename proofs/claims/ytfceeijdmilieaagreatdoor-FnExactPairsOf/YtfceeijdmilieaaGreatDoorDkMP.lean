/-
  DkM.
-/
import Derived.Test.YtfceeijdmilieaaGreatDoorBq7
import Derived.Test.YtfceeijdmilieaaGreatDoorBq1
import Derived.Test.YtfceeijdmilieaaGreatDoorDiEP
namespace Go.Proofs.YtfceeijdmilieaaGreatDoor
open Go.RowKit
set_option linter.unusedVariables false
attribute [local go_sem] run_store_float run_equalIn_float

/-- Strings in bounds. -/
def Strs (n : Nat) (f : Nat → Pr) : Prop := ∀ i, i < n → (f i).key.str.size ≤ maxLen ∧ (f i).val.str.size ≤ maxLen

set_option maxHeartbeats 1000000 in
theorem szPair_any (p : Pr) (left : Int) (w : World) (h0 : 0 ≤ left) (h1 : left ≤ 1048576) (hk : p.key.str.size ≤ maxLen) (hv : p.val.str.size ≤ maxLen) :
    Calls Tryz.prog 233 #[PV p, .int .i64 left] w fun e w' => (∃ r : Int, e = .returned (.int .i64 r) ∧ (r = -1 ∨ 0 ≤ r ∧ r ≤ left)) ∧ Below w.heap.size w w' := by
  have HK := hide hk
  have HV := hide hv
  clear hk hv
  go_enter Tryz.func233, Tryz.ntmps233
  go_wp2_with fail
  refine (sz_any p.key.kind p.key.num p.key.flt p.key.str p.key.ref left _ (unhide HK) h0 h1).mono ?_
  rintro e w1 ⟨rfl, hb1⟩
  obtain ⟨hc1, hf1⟩ := bcell hb1
  have q5 : w1.cell? ⟨w.heap.size, 5, none⟩ = some (.int .i64 p.val.kind) := by rw [hc1 _ _ (by simp)]; simp [go_sem]
  have q6 : w1.cell? ⟨w.heap.size, 6, none⟩ = some (.int .i64 p.val.num) := by rw [hc1 _ _ (by simp)]; simp [go_sem]
  have q7 : w1.cell? ⟨w.heap.size, 7, none⟩ = some (.float .f64 p.val.flt) := by rw [hc1 _ _ (by simp)]; simp [go_sem]
  have q8 : w1.cell? ⟨w.heap.size, 8, none⟩ = some (.string p.val.str) := by rw [hc1 _ _ (by simp)]; simp [go_sem]
  have q9 : w1.cell? ⟨w.heap.size, 9, none⟩ = some (.int .i64 p.val.ref) := by rw [hc1 _ _ (by simp)]; simp [go_sem]
  have HB1 := hide (((Below.refl w.heap.size w).alloc (Nat.le_refl _) _).trans (hb1.mono (by simp)))
  clear hb1 hc1 hf1
  by_cases hl : left < p.key.str.size
  · rw [if_pos hl]
    clear hl
    go_wp2_with fail
    go_ret
    exact ⟨⟨-1, rfl, .inl rfl⟩, unhide HB1⟩
  · rw [if_neg hl]
    obtain ⟨l2, hl2⟩ : ∃ l2, l2 = left - (p.key.str.size : Int) := ⟨_, rfl⟩
    rw [← hl2]
    have g0 : 0 ≤ l2 := by omega
    have g1 : l2 ≤ left := by omega
    clear hl hl2
    go_wp2_with fail
    refine (sz_any p.val.kind p.val.num p.val.flt p.val.str p.val.ref l2 _ (unhide HV) g0 (by omega)).mono ?_
    rintro e w2 ⟨rfl, hb2⟩
    have HB2 := hide ((unhide HB1).trans (hb2.mono (unhide HB1).size))
    clear hb2
    by_cases hl : l2 < p.val.str.size
    · rw [if_pos hl]
      clear hl
      go_wp2_with fail
      go_ret
      exact ⟨⟨-1, rfl, .inl rfl⟩, unhide HB2⟩
    · rw [if_neg hl]
      obtain ⟨l3, hl3⟩ : ∃ l3, l3 = l2 - (p.val.str.size : Int) := ⟨_, rfl⟩
      rw [← hl3]
      have g2 : 0 ≤ l3 := by omega
      have g3 : l3 ≤ left := by omega
      clear hl hl3
      go_wp2_with fail
      go_ret
      exact ⟨⟨l3, rfl, .inr ⟨g2, g3⟩⟩, unhide HB2⟩

set_option maxRecDepth 100000 in
set_option maxHeartbeats 1000000 in
theorem szPairS_any (a : Option Addr) (n cap : Nat) (f : Nat → Pr) (left : Int) (w : World) (hA : PAt w a n f) (hn : n ≤ maxLen) (hs : Strs n f) (h0 : 0 ≤ left) (h1 : left ≤ 1048576) :
    Calls Tryz.prog 207 #[.slice a n cap, .int .i64 left] w fun e w' => (∃ r : Int, e = .returned (.int .i64 r) ∧ (r = -1 ∨ 0 ≤ r ∧ r ≤ left ∧ (n : Int) ≤ left)) ∧ Below w.heap.size w w' := by
  unfold maxLen at hn
  have HA := hide hA
  have HS := hide hs
  clear hA hs
  by_cases h : left < n
  · go_enter Tryz.func207, Tryz.ntmps207
    go_wp2
    go_ret
    exact ⟨⟨-1, by simp, .inl rfl⟩, Below.refl _ _⟩
  go_enter Tryz.func207, Tryz.ntmps207
  go_wp2
  go_loopw [1, 5] (fun l i wr => ∃ (k : Nat) (lf : Int), k ≤ n ∧ i = .int .i64 k ∧ l = .int .i64 lf ∧ 0 ≤ lf ∧ lf ≤ left ∧ Below w.heap.size w wr) (fun _ i _ => n - (intOf i).toNat)
  case atStart => exact ⟨0, left - n, by omega, rfl, by simp, by omega, by omega, Below.refl _ _⟩
  case round =>
    obtain ⟨k, lf, hk, rfl, rfl, hl0, hl1, hb⟩ := hrel
    by_cases hkn : k < n
    · obtain ⟨b, off, rfl, hbl, hcs⟩ := (unhide HA).resolve_left (by omega)
      obtain ⟨e0, e1, e2, e3, e4, e5, e6, e7, e8, e9, e10⟩ := (hcs k hkn).keep (fun q => hb.cell (p := ⟨b, q, none⟩) hbl)
      have HB := hide hb
      clear hcs hb
      go_wp2_with fail
      refine (szPair_any (f k) lf _ hl0 (by omega) (unhide HS k hkn).1 (unhide HS k hkn).2).mono ?_
      rintro e w1 ⟨⟨r, rfl, hr⟩, hb1⟩
      have HB1 := hide ((unhide HB).trans (hb1.mono (unhide HB).size))
      clear hb1 e0 e1 e2 e3 e4 e5 e6 e7 e8 e9 e10
      rcases hr with rfl | ⟨g0, g1⟩
      · go_wp2_with fail
        go_ret
        exact ⟨⟨-1, by simp, .inl rfl⟩, unhide HB1⟩
      · go_wp2_with fail
        go_roundw
        case rel => exact ⟨k + 1, r, by omega, by go_num, rfl, g0, by omega, unhide HB1⟩
        case measure => simp [intOf]; omega
    · have hkn' : k = n := by omega
      subst hkn'
      have HB := hide hb
      clear hb
      go_wp2_with fail
      go_ret
      exact ⟨⟨lf, by simp, .inr ⟨hl0, hl1, by omega⟩⟩, unhide HB⟩

set_option maxHeartbeats 1000000 in
theorem szIntS_any (a : Option Addr) (n cap : Nat) (left : Int) (w : World) (hn : n ≤ maxLen) (h0 : 0 ≤ left) (h1 : left ≤ 1048576) :
    Calls Tryz.prog 208 #[.slice a n cap, .int .i64 left] w fun e w' => (∃ r : Int, e = .returned (.int .i64 r) ∧ (r = -1 ∨ 0 ≤ r ∧ r ≤ left ∧ (n : Int) ≤ left)) ∧ w' = w := by
  unfold maxLen at hn
  by_cases h : left < n
  · go_enter Tryz.func208, Tryz.ntmps208
    go_wp2
    go_ret
    exact ⟨⟨-1, by simp, .inl rfl⟩, rfl⟩
  · go_enter Tryz.func208, Tryz.ntmps208
    go_wp2
    go_ret
    have hh : 0 ≤ left - (n : Int) ∧ left - (n : Int) ≤ left ∧ (n : Int) ≤ left := by omega
    exact ⟨⟨left - (n : Int), by simp, .inr ⟨hh.1, hh.2.1⟩⟩, rfl⟩

/-- Lengths of what comes in. -/
structure Lens (d : Dc) : Prop where
  n : d.n ≤ maxLen
  m : d.m ≤ maxLen
  x : d.x ≤ maxLen
  s : Strs d.n d.L

set_option maxRecDepth 100000 in
set_option maxHeartbeats 1000000 in
theorem szDict_any (la : Option Addr) (lc : Nat) (ia : Option Addr) (ic : Nat) (xa : Option Addr) (xc : Nat) (d : Dc) (left : Int) (w : World) (hD : DAt w la ia xa d) (hL : Lens d) (h0 : 0 ≤ left) (h1 : left ≤ 1048576) :
    Calls Tryz.prog 171 #[Dv la lc ia ic xa xc d, .int .i64 left] w fun e w' => (∃ r : Int, e = .returned (.int .i64 r) ∧ (r = -1 ∨ 0 ≤ r ∧ r ≤ left ∧ Small d)) ∧ Below w.heap.size w w' := by
  have HD := hide hD
  have HL := hide hL
  clear hD hL
  have hb0 : Below w.heap.size w (w.alloc (.cells #[.slice la d.n lc, .slice ia d.m ic, .slice xa d.x xc, .int .i64 d.used, .int .i64 d.live, .int .i64 d.turns] 185)) := (Below.refl _ _).alloc (Nat.le_refl _) _
  have HB0 := hide hb0
  clear hb0
  go_enter Tryz.func171, Tryz.ntmps171
  go_wp2_with fail
  refine (szPairS_any la d.n lc d.L left _ ((unhide HD).below (unhide HB0)).log (unhide HL).n (unhide HL).s h0 h1).mono ?_
  rintro e w1 ⟨⟨r, rfl, hr⟩, hb1⟩
  obtain ⟨hc1, hf1⟩ := bcell hb1
  have q1 : w1.cell? ⟨w.heap.size, 1, none⟩ = some (.slice ia d.m ic) := by rw [hc1 _ _ (by simp)]; simp [go_sem]
  have q2 : w1.cell? ⟨w.heap.size, 2, none⟩ = some (.slice xa d.x xc) := by rw [hc1 _ _ (by simp)]; simp [go_sem]
  have HB1 := hide ((unhide HB0).trans (hb1.mono (unhide HB0).size))
  clear hb1 hc1 hf1
  rcases hr with rfl | ⟨g0, g1, g2⟩
  · go_wp2_with fail
    go_ret
    exact ⟨⟨-1, rfl, .inl rfl⟩, unhide HB1⟩
  go_wp2_with fail
  refine (szIntS_any ia d.m ic r _ (unhide HL).m g0 (by omega)).mono ?_
  rintro e w2 ⟨⟨r2, rfl, hr2⟩, rfl⟩
  rcases hr2 with rfl | ⟨g3, g4, g5⟩
  · go_wp2_with fail
    go_ret
    exact ⟨⟨-1, rfl, .inl rfl⟩, unhide HB1⟩
  go_wp2_with fail
  refine (szIntS_any xa d.x xc r2 _ (unhide HL).x g3 (by omega)).mono ?_
  rintro e w3 ⟨⟨r3, rfl, hr3⟩, rfl⟩
  rcases hr3 with rfl | ⟨g6, g7, g8⟩
  · go_wp2_with fail
    go_ret
    exact ⟨⟨-1, rfl, .inl rfl⟩, unhide HB1⟩
  have HSM : Hid (Small d) := hide ⟨by omega, by omega, by omega⟩
  go_wp2_with fail
  go_ret
  exact ⟨⟨r3, rfl, .inr ⟨g6, by omega, unhide HSM⟩⟩, unhide HB1⟩

end Go.Proofs.YtfceeijdmilieaaGreatDoor

namespace Go.Proofs.YtfceeijdmilieaaGreatDoor
open Go.RowKit
set_option linter.unusedVariables false
attribute [local go_sem] run_store_float run_equalIn_float

set_option maxRecDepth 100000 in
set_option maxHeartbeats 2000000 in
theorem toPair_any (p : Pr) (w : World) :
    Calls Tryz.prog 234 #[PV p] w fun e w' => e = .returned (PV p) ∧ Below w.heap.size w w' := by
  go_enter Tryz.func234, Tryz.ntmps234
  go_wp2_with fail
  refine (toValue_any p.key.kind p.key.num p.key.flt p.key.str p.key.ref _).mono ?_
  rintro e w1 ⟨rfl, hb1⟩
  obtain ⟨hc1, hf1⟩ := bcell hb1
  have hz1 := hb1.size
  simp at hz1
  have y0 : w.heap.size < w1.heap.size := by omega
  have y1 : w.heap.size + 1 < w1.heap.size := by omega
  have y2 : w.heap.size + 1 + 1 < w1.heap.size := by omega
  have HB1 : Hid (Below w.heap.size w w1) := hide (((((Below.refl _ _).alloc (Nat.le_refl _) _).alloc (by simp) _).alloc (by simp; omega) _).trans (hb1.mono (by simp; omega)))
  clear hb1
  go_wp2_with fail
  refine (toValue_any p.val.kind p.val.num p.val.flt p.val.str p.val.ref _).mono ?_
  rintro e w2 ⟨rfl, hb2⟩
  obtain ⟨hc2, hf2⟩ := bcell hb2
  have hz2 := hb2.size
  simp at hz2
  have z0 : w.heap.size < w2.heap.size := by omega
  have z1 : w.heap.size + 1 < w2.heap.size := by omega
  have z2 : w.heap.size + 1 + 1 < w2.heap.size := by omega
  have HB2 := hide hb2
  clear hb2
  go_wp2
  refine bodyPost_ret (v := PV p) (by simp [results, Tryz.results234, go_sem, hc1, hc2, y1]) rfl ⟨rfl, ?_⟩
  have hw2 : Below w.heap.size w w2 := by
    refine Below.trans ?_ ((unhide HB2).mono (by simp; omega))
    repeat (refine Below.setCell ?_ (by show w.heap.size ≤ w.heap.size + 1 + 1; omega) _)
    exact unhide HB1
  repeat (refine Below.setCell ?_ (by first | (show w.heap.size ≤ w.heap.size + 1; omega) | (show w.heap.size ≤ w.heap.size + 1 + 1; omega)) _)
  exact hw2

theorem set11_other {w : World} {b o q : Nat} (p : Pr) (h : q < o ∨ o + 11 ≤ q) : (((((((((((w.setCell ⟨b, o, none⟩ (.int .i64 p.key.kind)).setCell ⟨b, o + 1, none⟩ (.int .i64 p.key.num)).setCell ⟨b, o + 2, none⟩ (.float .f64 p.key.flt)).setCell ⟨b, o + 3, none⟩ (.string p.key.str)).setCell ⟨b, o + 4, none⟩ (.int .i64 p.key.ref)).setCell ⟨b, o + 5, none⟩ (.int .i64 p.val.kind)).setCell ⟨b, o + 6, none⟩ (.int .i64 p.val.num)).setCell ⟨b, o + 7, none⟩ (.float .f64 p.val.flt)).setCell ⟨b, o + 8, none⟩ (.string p.val.str)).setCell ⟨b, o + 9, none⟩ (.int .i64 p.val.ref)).setCell ⟨b, o + 10, none⟩ (.int .i64 p.turn)).cell? ⟨b, q, none⟩ = w.cell? ⟨b, q, none⟩ := by
  exact (cell_set_other (by omega)).trans ((cell_set_other (by omega)).trans ((cell_set_other (by omega)).trans ((cell_set_other (by omega)).trans ((cell_set_other (by omega)).trans ((cell_set_other (by omega)).trans ((cell_set_other (by omega)).trans ((cell_set_other (by omega)).trans ((cell_set_other (by omega)).trans ((cell_set_other (by omega)).trans (cell_set_other (by omega)))))))))))
theorem PCell.keepAt {w w' : World} {b o : Nat} {p : Pr} (h : PCell w b o p) (e : ∀ j, j < 11 → w'.cell? ⟨b, o + j, none⟩ = w.cell? ⟨b, o + j, none⟩) : PCell w' b o p :=
  ⟨(e 0 (by omega)).trans h.k0, (e 1 (by omega)).trans h.k1, (e 2 (by omega)).trans h.k2, (e 3 (by omega)).trans h.k3, (e 4 (by omega)).trans h.k4, (e 5 (by omega)).trans h.v0, (e 6 (by omega)).trans h.v1, (e 7 (by omega)).trans h.v2, (e 8 (by omega)).trans h.v3, (e 9 (by omega)).trans h.v4, (e 10 (by omega)).trans h.tn⟩
theorem set11_row {w : World} {b o N : Nat} {t : TypeId} {g : Nat → Value} (h : w.rowIs b t N g) (ho : o + 11 ≤ N) (p : Pr) : (∃ g', (((((((((((w.setCell ⟨b, o, none⟩ (.int .i64 p.key.kind)).setCell ⟨b, o + 1, none⟩ (.int .i64 p.key.num)).setCell ⟨b, o + 2, none⟩ (.float .f64 p.key.flt)).setCell ⟨b, o + 3, none⟩ (.string p.key.str)).setCell ⟨b, o + 4, none⟩ (.int .i64 p.key.ref)).setCell ⟨b, o + 5, none⟩ (.int .i64 p.val.kind)).setCell ⟨b, o + 6, none⟩ (.int .i64 p.val.num)).setCell ⟨b, o + 7, none⟩ (.float .f64 p.val.flt)).setCell ⟨b, o + 8, none⟩ (.string p.val.str)).setCell ⟨b, o + 9, none⟩ (.int .i64 p.val.ref)).setCell ⟨b, o + 10, none⟩ (.int .i64 p.turn)).rowIs b t N g') ∧ PCell (((((((((((w.setCell ⟨b, o, none⟩ (.int .i64 p.key.kind)).setCell ⟨b, o + 1, none⟩ (.int .i64 p.key.num)).setCell ⟨b, o + 2, none⟩ (.float .f64 p.key.flt)).setCell ⟨b, o + 3, none⟩ (.string p.key.str)).setCell ⟨b, o + 4, none⟩ (.int .i64 p.key.ref)).setCell ⟨b, o + 5, none⟩ (.int .i64 p.val.kind)).setCell ⟨b, o + 6, none⟩ (.int .i64 p.val.num)).setCell ⟨b, o + 7, none⟩ (.float .f64 p.val.flt)).setCell ⟨b, o + 8, none⟩ (.string p.val.str)).setCell ⟨b, o + 9, none⟩ (.int .i64 p.val.ref)).setCell ⟨b, o + 10, none⟩ (.int .i64 p.turn)) b o p := by
  have hr := ((((((((((h.set (o) (.int .i64 p.key.kind)).set (o + 1) (.int .i64 p.key.num)).set (o + 2) (.float .f64 p.key.flt)).set (o + 3) (.string p.key.str)).set (o + 4) (.int .i64 p.key.ref)).set (o + 5) (.int .i64 p.val.kind)).set (o + 6) (.int .i64 p.val.num)).set (o + 7) (.float .f64 p.val.flt)).set (o + 8) (.string p.val.str)).set (o + 9) (.int .i64 p.val.ref)).set (o + 10) (.int .i64 p.turn)
  refine ⟨⟨_, hr⟩, ?_⟩
  constructor
  all_goals (rw [hr.cell (by omega)]; simp)

theorem make_pairs (n : Nat) (hn : n ≤ 4194304) (w : World) :
    (Instr.makeSlice 55 (.int .i64 (n : Int)) (.int .i64 (n : Int))).run Tryz.prog w = .ok (.slice (some ⟨w.heap.size, 0, none⟩) n n) (w.alloc (.cells (madeCells PZ.cells (n * 11)) 127)) := by
  obtain ⟨i, hi, hz, hs, hb⟩ := info_parts infoPair
  have := run_make (P := Tryz.prog) w 55 127 i _ Tryz.underlying55 hi hz .i64 .i64 n n (by omega) (Int.le_refl _) (by rw [hb]; omega) (by omega)
  simp only [Int.toNat_natCast, hs] at this
  exact this
theorem made_pairs (w : World) (m : Nat) : ∃ g, (w.alloc (.cells (madeCells PZ.cells m) 127)).rowIs w.heap.size 127 m g := by
  have h := World.rowIs_alloc w (madeCells PZ.cells m) 127 (fun i => ((madeCells PZ.cells m)[i]?).getD undef) (fun i hi => by rw [Array.getElem?_eq_getElem hi]; rfl)
  rw [size_madeCells] at h
  exact ⟨_, h⟩

set_option maxRecDepth 100000 in
set_option maxHeartbeats 2000000 in
theorem toPairS_any (a : Option Addr) (n cap : Nat) (f : Nat → Pr) (w : World) (hA : PAt w a n f) (hn : n ≤ 4194304) :
    Calls Tryz.prog 209 #[.slice a n cap] w fun e w' => (e = .returned (.slice (some ⟨w.heap.size, 0, none⟩) n n) ∧ PAt w' (some ⟨w.heap.size, 0, none⟩) n f) ∧ Below w.heap.size w w' := by
  have hmk := make_pairs n hn
  have HG := hide (made_pairs w (n * 11))
  have HA := hide hA
  clear hA
  go_enter Tryz.func209, Tryz.ntmps209
  go_wp2
  clear hmk
  go_loopw [4] (fun i wr => ∃ (k : Nat), k ≤ n ∧ i = .int .i64 k ∧ Below w.heap.size w wr ∧ (∃ g, wr.rowIs w.heap.size 127 (n * 11) g) ∧ ∀ j, j < k → PCell wr w.heap.size (j * 11) (f j)) (fun i _ => n - (intOf i).toNat)
  case atStart => exact ⟨0, by omega, rfl, (Below.refl _ _).alloc (Nat.le_refl _) _, unhide HG, fun j hj => by omega⟩
  case round =>
    clear HG
    obtain ⟨k, hk, rfl, hb, ⟨g, hrow⟩, hall⟩ := hrel
    by_cases hkn : k < n
    · obtain ⟨b, off, rfl, hbl, hcs⟩ := (unhide HA).resolve_left (by omega)
      obtain ⟨e0, e1, e2, e3, e4, e5, e6, e7, e8, e9, e10⟩ := (hcs k hkn).keep (fun q => hb.cell (p := ⟨b, q, none⟩) hbl)
      have hrl := World.rowIs.lt hrow
      have HB := hide hb
      have HR := hide hrow
      have HALL := hide hall
      clear hcs hb hrow hall
      go_wp2_with fail
      refine (toPair_any (f k) _).mono ?_
      rintro e w1 ⟨rfl, hb1⟩
      have hrow1 := World.rowIs.of_block (unhide HR) (hb1.block _ hrl)
      have d0 := hrow1.cell (i := k * 11) (by omega)
      have f0 := hrow1.frozen (k * 11)
      have d1 := hrow1.cell (i := k * 11 + 1) (by omega)
      have f1 := hrow1.frozen (k * 11 + 1)
      have d2 := hrow1.cell (i := k * 11 + 2) (by omega)
      have f2 := hrow1.frozen (k * 11 + 2)
      have d3 := hrow1.cell (i := k * 11 + 3) (by omega)
      have f3 := hrow1.frozen (k * 11 + 3)
      have d4 := hrow1.cell (i := k * 11 + 4) (by omega)
      have f4 := hrow1.frozen (k * 11 + 4)
      have d5 := hrow1.cell (i := k * 11 + 5) (by omega)
      have f5 := hrow1.frozen (k * 11 + 5)
      have d6 := hrow1.cell (i := k * 11 + 6) (by omega)
      have f6 := hrow1.frozen (k * 11 + 6)
      have d7 := hrow1.cell (i := k * 11 + 7) (by omega)
      have f7 := hrow1.frozen (k * 11 + 7)
      have d8 := hrow1.cell (i := k * 11 + 8) (by omega)
      have f8 := hrow1.frozen (k * 11 + 8)
      have d9 := hrow1.cell (i := k * 11 + 9) (by omega)
      have f9 := hrow1.frozen (k * 11 + 9)
      have d10 := hrow1.cell (i := k * 11 + 10) (by omega)
      have f10 := hrow1.frozen (k * 11 + 10)
      obtain ⟨hg', hpc⟩ := set11_row hrow1 (o := k * 11) (by omega) (f k)
      have HN : Hid (∀ j, j < k → PCell w1 w.heap.size (j * 11) (f j)) := hide (fun j hj => (unhide HALL j hj).keepAt (fun q _ => World.cell?_of_block (hb1.block _ hrl)))
      have HG' := hide hg'
      have HPC := hide hpc
      have HB1 := hide ((unhide HB).trans (hb1.mono (unhide HB).size))
      clear hb1 hrow1 hg' hpc e0 e1 e2 e3 e4 e5 e6 e7 e8 e9 e10
      go_wp2_with fail
      go_roundw
      case rel =>
        refine ⟨k + 1, by omega, by go_num, ?_, unhide HG', fun j hj => ?_⟩
        · repeat (refine Below.setCell ?_ (by exact Nat.le_refl _) _)
          exact unhide HB1
        · by_cases e : j = k
          · subst e; exact unhide HPC
          · exact (unhide HN j (by omega)).keepAt (fun q hq => set11_other (f k) (by omega))
      case measure => simp [intOf]; omega
    · have hkn' : k = n := by omega
      subst hkn'
      have HALL := hide hall
      have HB := hide hb
      have hrl := World.rowIs.lt hrow
      clear hall hb hrow
      go_wp2_with fail
      go_ret
      exact ⟨⟨rfl, .inr ⟨_, 0, rfl, hrl, fun i hi => by rw [Nat.zero_add]; exact unhide HALL i hi⟩⟩, unhide HB⟩

set_option maxRecDepth 100000 in
set_option maxHeartbeats 2000000 in
theorem toIntS_any (a : Option Addr) (n cap : Nat) (f : Nat → Int) (w : World) (hA : IAt w a n f) (hn : n ≤ 4194304) :
    Calls Tryz.prog 210 #[.slice a n cap] w fun e w' => (e = .returned (.slice (some ⟨w.heap.size, 0, none⟩) n n) ∧ IAt w' (some ⟨w.heap.size, 0, none⟩) n f) ∧ Below w.heap.size w w' := by
  have hmk := make_ints n hn
  have HG := hide (made_zeros w n)
  have HA := hide hA
  clear hA
  go_enter Tryz.func210, Tryz.ntmps210
  go_wp2
  clear hmk
  go_loopw [4] (fun i wr => ∃ (k : Nat) (g : Nat → Value), k ≤ n ∧ i = .int .i64 k ∧ Below w.heap.size w wr ∧ wr.rowIs w.heap.size 3 n g ∧ ∀ j, j < k → g j = .int .i64 (f j)) (fun i _ => n - (intOf i).toNat)
  case atStart => exact ⟨0, _, by omega, rfl, (Below.refl _ _).alloc (Nat.le_refl _) _, unhide HG, fun j hj => by omega⟩
  case round =>
    clear HG
    obtain ⟨k, g, hk, rfl, hb, hrow, hall⟩ := hrel
    by_cases hkn : k < n
    · obtain ⟨b, off, rfl, hbl, hcs⟩ := (unhide HA).resolve_left (by omega)
      have e0 := (hb.cell (p := ⟨b, off + k, none⟩) hbl).trans (hcs k hkn)
      have hrl := World.rowIs.lt hrow
      have d0 := hrow.cell hkn
      have f0 := hrow.frozen k
      have HN : Hid ((wr.setCell ⟨w.heap.size, k, none⟩ (.int .i64 (f k))).rowIs w.heap.size 3 n (fun i => if i = k then .int .i64 (f k) else g i) ∧ ∀ j, j < k + 1 → (fun i => if i = k then .int .i64 (f k) else g i) j = .int .i64 (f j)) := hide ⟨hrow.set k _, fun j hj => by
        by_cases e : j = k
        · subst e; simp
        · simp only [e, if_false]; exact hall j (by omega)⟩
      have HB := hide hb
      clear hcs hb hrow hall
      go_wp2_with fail
      go_roundw
      case rel => exact ⟨k + 1, _, by omega, by go_num, (unhide HB).setCell (by exact Nat.le_refl _) _, (unhide HN).1, (unhide HN).2⟩
      case measure => simp [intOf]; omega
    · have hkn' : k = n := by omega
      subst hkn'
      have HALL := hide (⟨hrow, hall⟩ : wr.rowIs w.heap.size 3 k g ∧ ∀ j, j < k → g j = .int .i64 (f j))
      have HB := hide hb
      have hrl := World.rowIs.lt hrow
      clear hall hb hrow
      go_wp2_with fail
      go_ret
      exact ⟨⟨rfl, .inr ⟨_, 0, rfl, hrl, fun i hi => by rw [Nat.zero_add, (unhide HALL).1.cell hi, (unhide HALL).2 i hi]⟩⟩, unhide HB⟩
end Go.Proofs.YtfceeijdmilieaaGreatDoor

namespace Go.Proofs.YtfceeijdmilieaaGreatDoor
open Go.RowKit
set_option linter.unusedVariables false
attribute [local go_sem] run_store_float run_equalIn_float

theorem PAt.setOther {w : World} {s o n q : Nat} {f : Nat → Pr} {v : Value} (h : PAt w (some ⟨s, o, none⟩) n f) {b : Nat} (hb : s ≠ b) : PAt (w.setCell ⟨b, q, none⟩ v) (some ⟨s, o, none⟩) n f := by
  rcases h with h | ⟨b', off, e, hlt, hc⟩
  · exact .inl h
  · cases e
    exact .inr ⟨s, o, rfl, by simpa using hlt, fun i hi => (hc i hi).keep (fun q => cell_set_block (Ne.symm hb))⟩
theorem IAt.setOther {w : World} {s o n q : Nat} {f : Nat → Int} {v : Value} (h : IAt w (some ⟨s, o, none⟩) n f) {b : Nat} (hb : s ≠ b) : IAt (w.setCell ⟨b, q, none⟩ v) (some ⟨s, o, none⟩) n f := by
  rcases h with h | ⟨b', off, e, hlt, hc⟩
  · exact .inl h
  · cases e
    exact .inr ⟨s, o, rfl, by simpa using hlt, fun i hi => (cell_set_block (Ne.symm hb)).trans (hc i hi)⟩

set_option maxRecDepth 100000 in
set_option maxHeartbeats 2000000 in
theorem toDict_any (la : Option Addr) (lc : Nat) (ia : Option Addr) (ic : Nat) (xa : Option Addr) (xc : Nat) (d : Dc) (w : World) (hD : DAt w la ia xa d) (hS : Small d) :
    Calls Tryz.prog 174 #[Dv la lc ia ic xa xc d] w fun e w' => (∃ s0 s1 s2, e = .returned (Dv (some ⟨s0, 0, none⟩) d.n (some ⟨s1, 0, none⟩) d.m (some ⟨s2, 0, none⟩) d.x d) ∧ DAt w' (some ⟨s0, 0, none⟩) (some ⟨s1, 0, none⟩) (some ⟨s2, 0, none⟩) d) ∧ Below w.heap.size w w' := by
  have HD := hide hD
  have HS := hide hS
  clear hD hS
  have hb0 : Below w.heap.size w (((w.alloc (.cells #[.slice la d.n lc, .slice ia d.m ic, .slice xa d.x xc, .int .i64 d.used, .int .i64 d.live, .int .i64 d.turns] 185)).alloc (.cells #[.slice none 0 0, .slice none 0 0, .slice none 0 0, .int .i64 0, .int .i64 0, .int .i64 0] 91)).alloc (.cells #[.slice none 0 0, .slice none 0 0, .slice none 0 0, .int .i64 0, .int .i64 0, .int .i64 0] 91)) := (((Below.refl _ _).alloc (Nat.le_refl _) _).alloc (by simp) _).alloc (by simp; omega) _
  have HB0 := hide hb0
  clear hb0
  go_enter Tryz.func174, Tryz.ntmps174
  go_wp2_with fail
  refine (toPairS_any la d.n lc d.L _ ((unhide HD).below (unhide HB0)).log (unhide HS).n).mono ?_
  rintro e w1 ⟨⟨rfl, hP⟩, hb1⟩
  obtain ⟨hc1, hf1⟩ := bcell hb1
  have hz1 := hb1.size
  simp at hz1 hP
  have y0 : w.heap.size < w1.heap.size := by omega
  have y1 : w.heap.size + 1 < w1.heap.size := by omega
  have y2 : w.heap.size + 1 + 1 < w1.heap.size := by omega
  have HB1 := hide ((unhide HB0).trans (hb1.mono (unhide HB0).size))
  have HP1 := hide hP
  clear hb1 hP
  have HBs1 : Hid (∀ v, Below w.heap.size w (w1.setCell ⟨w.heap.size + 1 + 1, 0, none⟩ v)) := hide (fun v => (unhide HB1).setCell (by show w.heap.size ≤ w.heap.size + 1 + 1; omega) _)
  go_wp2_with fail
  refine (toIntS_any ia d.m ic d.I _ ((unhide HD).below (unhide HBs1 _)).ints (unhide HS).m).mono ?_
  rintro e w2 ⟨⟨rfl, hI⟩, hb2⟩
  obtain ⟨hc2, hf2⟩ := bcell hb2
  have hz2 := hb2.size
  simp at hz2 hI
  have z0 : w.heap.size < w2.heap.size := by omega
  have z1 : w.heap.size + 1 < w2.heap.size := by omega
  have z2 : w.heap.size + 1 + 1 < w2.heap.size := by omega
  have HB2 := hide ((unhide HBs1 _).trans (hb2.mono (unhide HBs1 _).size))
  have HP2 := hide (PAt.below (PAt.setOther (q := 0) (v := .slice (some ⟨w.heap.size + 1 + 1 + 1, 0, none⟩) d.n d.n) (unhide HP1) (show w.heap.size + 1 + 1 + 1 ≠ w.heap.size + 1 + 1 by omega)) hb2 rfl)
  have HI2 := hide hI
  clear hb2 hI
  have HBs2 : Hid (∀ v, Below w.heap.size w (w2.setCell ⟨w.heap.size + 1 + 1, 1, none⟩ v)) := hide (fun v => (unhide HB2).setCell (by show w.heap.size ≤ w.heap.size + 1 + 1; omega) _)
  go_wp2_with fail
  refine (toIntS_any xa d.x xc d.X _ ((unhide HD).below (unhide HBs2 _)).index (unhide HS).x).mono ?_
  rintro e w3 ⟨⟨rfl, hX⟩, hb3⟩
  obtain ⟨hc3, hf3⟩ := bcell hb3
  have hz3 := hb3.size
  simp at hz3 hX
  have x0 : w.heap.size < w3.heap.size := by omega
  have x1 : w.heap.size + 1 < w3.heap.size := by omega
  have x2 : w.heap.size + 1 + 1 < w3.heap.size := by omega
  have HB3 := hide ((unhide HBs2 _).trans (hb3.mono (unhide HBs2 _).size))
  have HP3 := hide (PAt.below (PAt.setOther (q := 1) (v := .slice (some ⟨w1.heap.size, 0, none⟩) d.m d.m) (unhide HP2) (show w.heap.size + 1 + 1 + 1 ≠ w.heap.size + 1 + 1 by omega)) hb3 rfl)
  have HI3 := hide (IAt.below (IAt.setOther (q := 1) (v := .slice (some ⟨w1.heap.size, 0, none⟩) d.m d.m) (unhide HI2) (show w1.heap.size ≠ w.heap.size + 1 + 1 by omega)) hb3 rfl)
  have HX3 := hide hX
  clear hb3 hX
  have g1 : w1.heap.size ≠ w.heap.size + 1 + 1 := by omega
  have g2 : w1.heap.size ≠ w.heap.size + 1 := by omega
  have g3 : w2.heap.size ≠ w.heap.size + 1 + 1 := by omega
  have g4 : w2.heap.size ≠ w.heap.size + 1 := by omega
  go_wp2
  refine bodyPost_ret (v := Dv (some ⟨w.heap.size + 1 + 1 + 1, 0, none⟩) d.n (some ⟨w1.heap.size, 0, none⟩) d.m (some ⟨w2.heap.size, 0, none⟩) d.x d) (by simp [results, Tryz.results174, go_sem, hc1, hc2, hc3, y1, z1]) rfl ⟨⟨_, _, _, rfl, ?_, ?_, ?_⟩, ?_⟩
  · repeat (refine PAt.setOther ?_ (by omega))
    exact unhide HP3
  · repeat (refine IAt.setOther ?_ (by omega))
    exact unhide HI3
  · repeat (refine IAt.setOther ?_ (by omega))
    exact unhide HX3
  · repeat (refine Below.setCell ?_ (by first | (show w.heap.size ≤ w.heap.size + 1; omega) | (show w.heap.size ≤ w.heap.size + 1 + 1; omega)) _)
    exact unhide HB3

set_option maxRecDepth 100000 in
set_option maxHeartbeats 2000000 in
theorem eqPair_self (p : Pr) (w : World) :
    Calls Tryz.prog 58 #[PV p, PV p] w fun e w' => e = .returned (.bool true) ∧ Below w.heap.size w w' := by
  go_enter Tryz.func58, Tryz.ntmps58
  go_wp2_with fail
  refine (eqValue_self p.key.kind p.key.num p.key.flt p.key.str p.key.ref _).mono ?_
  rintro e w1 ⟨rfl, hb1⟩
  obtain ⟨hc1, hf1⟩ := bcell hb1
  have hz1 := hb1.size
  simp at hz1
  have y0 : w.heap.size < w1.heap.size := by omega
  have y1 : w.heap.size + 1 < w1.heap.size := by omega
  have HB1 : Hid (Below w.heap.size w w1) := hide ((((Below.refl _ _).alloc (Nat.le_refl _) _).alloc (by simp) _).trans (hb1.mono (by simp; omega)))
  clear hb1
  go_wp2_with fail
  refine (eqValue_self p.val.kind p.val.num p.val.flt p.val.str p.val.ref _).mono ?_
  rintro e w2 ⟨rfl, hb2⟩
  obtain ⟨hc2, hf2⟩ := bcell hb2
  have HB2 := hide ((unhide HB1).trans (hb2.mono (unhide HB1).size))
  clear hb2
  go_wp2
  go_ret
  exact ⟨rfl, unhide HB2⟩

set_option maxRecDepth 100000 in
set_option maxHeartbeats 2000000 in
theorem eqPairS_same (a a' : Option Addr) (n cap cap' : Nat) (f : Nat → Pr) (w : World) (hA : PAt w a n f) (hB : PAt w a' n f) (hn : n ≤ 4194304) :
    Calls Tryz.prog 19 #[.slice a n cap, .slice a' n cap'] w fun e w' => e = .returned (.bool true) ∧ Below w.heap.size w w' := by
  have HA := hide hA
  have HB := hide hB
  clear hA hB
  go_enter Tryz.func19, Tryz.ntmps19
  go_wp2
  go_loopw [5] (fun i wr => ∃ (k : Nat), k ≤ n ∧ i = .int .i64 k ∧ Below w.heap.size w wr) (fun i _ => n - (intOf i).toNat)
  case atStart => exact ⟨0, by omega, rfl, Below.refl _ _⟩
  case round =>
    obtain ⟨k, hk, rfl, hb⟩ := hrel
    by_cases hlt : k < n
    · obtain ⟨b, off, rfl, hbl, hcs⟩ := (unhide HA).resolve_left (by omega)
      obtain ⟨b', off', rfl, hbl', hcs'⟩ := (unhide HB).resolve_left (by omega)
      obtain ⟨e0, e1, e2, e3, e4, e5, e6, e7, e8, e9, e10⟩ := (hcs k hlt).keep (fun q => hb.cell (p := ⟨b, q, none⟩) hbl)
      obtain ⟨d0, d1, d2, d3, d4, d5, d6, d7, d8, d9, d10⟩ := (hcs' k hlt).keep (fun q => hb.cell (p := ⟨b', q, none⟩) hbl')
      have hx : b < wr.heap.size := Nat.lt_of_lt_of_le hbl hb.size
      have hx' : b' < wr.heap.size := Nat.lt_of_lt_of_le hbl' hb.size
      have HBW := hide hb
      clear hb hcs hcs'
      go_wp2_with fail
      refine wp_region_quiet (C := fun w' => Below wr.heap.size wr w') (by kernel_rfl) (by kernel_rfl) ((Below.refl _ _).drew) ?_
      show wpQuiet _ _ _ _ [_, _, _, _, _, _, _, _, _, _] _
      refine wpQuiet_step (fun K hK => ?_)
      go_simp
      refine ⟨_, fun w' hw' => rfl, hK _ ?_⟩
      clear hK K
      refine wpQuiet_step (fun K hK => ?_)
      go_simp
      refine ⟨_, fun w' hw' => rfl, hK _ ?_⟩
      clear hK K
      refine wpQuiet_step (fun K hK => ?_)
      go_simp
      refine ⟨_, fun w' hw' => rfl, hK _ ?_⟩
      clear hK K
      refine wpQuiet_step (fun K hK => ?_)
      go_simp
      apply Exists.intro
      refine And.intro (fun w' hw' => ?_) (hK _ ?_)
      · obtain ⟨hc', hf'⟩ := bcell hw'
        go_simp
        first | rfl | exact ⟨rfl, rfl⟩ | exact ⟨rfl⟩
      clear hK K
      refine wpQuiet_step (fun K hK => ?_)
      go_simp
      refine ⟨_, fun w' hw' => rfl, hK _ ?_⟩
      clear hK K
      refine wpQuiet_step (fun K hK => ?_)
      go_simp
      refine ⟨_, fun w' hw' => rfl, hK _ ?_⟩
      clear hK K
      refine wpQuiet_step (fun K hK => ?_)
      go_simp
      refine ⟨_, fun w' hw' => rfl, hK _ ?_⟩
      clear hK K
      refine wpQuiet_step (fun K hK => ?_)
      go_simp
      apply Exists.intro
      refine And.intro (fun w' hw' => ?_) (hK _ ?_)
      · obtain ⟨hc', hf'⟩ := bcell hw'
        go_simp
        first | rfl | exact ⟨rfl, rfl⟩ | exact ⟨rfl⟩
      clear hK K
      refine wpQuiet_step (fun K hK => ?_)
      go_simp
      apply Exists.intro
      refine And.intro (fun w' hw' => ?_) (hK _ ?_)
      · refine (eqPair_self (f k) _).mono ?_
        rintro e w'' ⟨rfl, hb⟩
        exact ⟨rfl, hw'.trans (hb.mono hw'.size)⟩
      clear hK K
      refine wpQuiet_step (fun K hK => ?_)
      go_simp
      refine ⟨_, fun w' hw' => rfl, hK _ ?_⟩
      clear hK K
      refine wpQuiet_nil ?_
      intro w2 hw2
      have HB2 := hide ((unhide HBW).trans (hw2.mono (unhide HBW).size))
      clear hw2 e0 e1 e2 e3 e4 e5 e6 e7 e8 e9 e10 d0 d1 d2 d3 d4 d5 d6 d7 d8 d9 d10
      go_wp2
      go_roundw
      case rel => exact ⟨k + 1, by omega, by go_num, unhide HB2⟩
      case measure => simp [intOf]; omega
    · have : k = n := by omega
      subst this
      have HB2 := hide hb
      clear hb
      go_wp2
      go_ret
      exact ⟨rfl, unhide HB2⟩

set_option maxRecDepth 100000 in
set_option maxHeartbeats 2000000 in
theorem eqIntS_same (a a' : Option Addr) (n cap cap' : Nat) (f : Nat → Int) (w : World) (hA : IAt w a n f) (hB : IAt w a' n f) (hn : n ≤ 4194304) :
    Calls Tryz.prog 218 #[.slice a n cap, .slice a' n cap'] w fun e w' => e = .returned (.bool true) ∧ Below w.heap.size w w' := by
  have HA := hide hA
  have HB := hide hB
  clear hA hB
  go_enter Tryz.func218, Tryz.ntmps218
  go_wp2
  go_loopw [5] (fun i wr => ∃ (k : Nat), k ≤ n ∧ i = .int .i64 k ∧ Below w.heap.size w wr) (fun i _ => n - (intOf i).toNat)
  case atStart => exact ⟨0, by omega, rfl, Below.refl _ _⟩
  case round =>
    obtain ⟨k, hk, rfl, hb⟩ := hrel
    by_cases hlt : k < n
    · obtain ⟨b, off, rfl, hbl, hcs⟩ := (unhide HA).resolve_left (by omega)
      obtain ⟨b', off', rfl, hbl', hcs'⟩ := (unhide HB).resolve_left (by omega)
      have e0 := (hb.cell (p := ⟨b, off + k, none⟩) hbl).trans (hcs k hlt)
      have d0 := (hb.cell (p := ⟨b', off' + k, none⟩) hbl').trans (hcs' k hlt)
      have hx : b < wr.heap.size := Nat.lt_of_lt_of_le hbl hb.size
      have hx' : b' < wr.heap.size := Nat.lt_of_lt_of_le hbl' hb.size
      have hd : (f k != f k) = false := by simp
      have HBW := hide hb
      clear hb hcs hcs'
      go_wp2_with fail
      go_quiet (fail)
      go_wp2
      go_roundw
      case rel => exact ⟨k + 1, by omega, by go_num, below_drewN' (unhide HBW) _⟩
      case measure => simp [intOf]; omega
    · have : k = n := by omega
      subst this
      have HB2 := hide hb
      clear hb
      go_wp2
      go_ret
      exact ⟨rfl, unhide HB2⟩

set_option maxRecDepth 100000 in
set_option maxHeartbeats 2000000 in
theorem eqDict_same (la la' ia ia' xa xa' : Option Addr) (lc lc' ic ic' xc xc' : Nat) (d : Dc) (w : World) (hA : DAt w la ia xa d) (hB : DAt w la' ia' xa' d) (hS : Small d) :
    Calls Tryz.prog 183 #[Dv la lc ia ic xa xc d, Dv la' lc' ia' ic' xa' xc' d] w fun e w' => e = .returned (.bool true) ∧ Below w.heap.size w w' := by
  have HA := hide hA
  have HB := hide hB
  have HS := hide hS
  clear hA hB hS
  have hb0 : Below w.heap.size w ((w.alloc (.cells #[.slice la d.n lc, .slice ia d.m ic, .slice xa d.x xc, .int .i64 d.used, .int .i64 d.live, .int .i64 d.turns] 91)).alloc (.cells #[.slice la' d.n lc', .slice ia' d.m ic', .slice xa' d.x xc', .int .i64 d.used, .int .i64 d.live, .int .i64 d.turns] 91)) := ((Below.refl _ _).alloc (Nat.le_refl _) _).alloc (by simp) _
  have HB0 := hide hb0
  clear hb0
  go_enter Tryz.func183, Tryz.ntmps183
  go_wp2_with fail
  refine (eqPairS_same la la' d.n lc lc' d.L _ ((unhide HA).below (unhide HB0)).log ((unhide HB).below (unhide HB0)).log (unhide HS).n).mono ?_
  rintro e w1 ⟨rfl, hb1⟩
  obtain ⟨hc1, hf1⟩ := bcell hb1
  have hz1 := hb1.size
  simp at hz1
  have y0 : w.heap.size < w1.heap.size := by omega
  have y1 : w.heap.size + 1 < w1.heap.size := by omega
  have HB1 := hide ((unhide HB0).trans (hb1.mono (unhide HB0).size))
  clear hb1
  go_wp2_with fail
  refine (eqIntS_same ia ia' d.m ic ic' d.I _ ((unhide HA).below (unhide HB1)).ints ((unhide HB).below (unhide HB1)).ints (unhide HS).m).mono ?_
  rintro e w2 ⟨rfl, hb2⟩
  obtain ⟨hc2, hf2⟩ := bcell hb2
  have z0 := Nat.lt_of_lt_of_le y0 hb2.size
  have z1 := Nat.lt_of_lt_of_le y1 hb2.size
  have HB2 := hide ((unhide HB1).trans (hb2.mono (unhide HB1).size))
  clear hb2
  go_wp2_with fail
  refine (eqIntS_same xa xa' d.x xc xc' d.X _ ((unhide HA).below (unhide HB2)).index ((unhide HB).below (unhide HB2)).index (unhide HS).x).mono ?_
  rintro e w3 ⟨rfl, hb3⟩
  obtain ⟨hc3, hf3⟩ := bcell hb3
  have HB3 := hide ((unhide HB2).trans (hb3.mono (unhide HB2).size))
  clear hb3
  go_wp2
  go_ret
  exact ⟨rfl, unhide HB3⟩
end Go.Proofs.YtfceeijdmilieaaGreatDoor
