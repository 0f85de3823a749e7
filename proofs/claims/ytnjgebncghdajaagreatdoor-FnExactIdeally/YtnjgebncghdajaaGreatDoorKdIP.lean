/-
  KdI.
-/
import Derived.Test.YtnjgebncghdajaaGreatDoorAcGP
import Derived.Test.YtnjgebncghdajaaGreatDoorKdEP
namespace Go.Proofs.YtnjgebncghdajaaGreatDoor
open Go.RowKit
set_option linter.unusedVariables false
set_option linter.unusedSimpArgs false
attribute [local go_sem] run_store_float run_equalIn_float

/-- Acts that came in: a row anywhere. -/
def LAt (w : World) (a : Option Addr) (n : Nat) (f : Nat → Ac) : Prop :=
  n = 0 ∨ ∃ b off, a = some ⟨b, off, none⟩ ∧ b < w.heap.size ∧ ∀ i, i < n → ∀ j u, (acL (f i))[j]? = some u → w.cell? ⟨b, off + i * 14 + j, none⟩ = some u
theorem LAt.below {w w' : World} {a : Option Addr} {n : Nat} {f : Nat → Ac} (h : LAt w a n f) (hb : Below w.heap.size w w') : LAt w' a n f := by
  rcases h with h | ⟨b, off, e, hl, hc⟩
  · exact .inl h
  · exact .inr ⟨b, off, e, Nat.lt_of_lt_of_le hl hb.size, fun i hi j u hu => (hb.cell (p := ⟨b, off + i * 14 + j, none⟩) hl).trans (hc i hi j u hu)⟩
abbrev AcZ : Value := .agg #[.int .i64 0, .int .i64 0, .int .i64 0, .int .i64 0, .int .i64 0, .int .i64 0, .float .f64 0, .string ⟨#[]⟩, .int .i64 0, .int .i64 0, .int .i64 0, .float .f64 0, .string ⟨#[]⟩, .int .i64 0]
theorem infoAct : (Tryz.prog.info? 48).map (fun i => (i.zero, i.size, i.bytes)) = some (some AcZ, 14, 128) := by kernel_rfl
theorem make_acts (n : Nat) (hn : n ≤ 1048576) (w : World) :
    (Instr.makeSlice 29 (.int .i64 (n : Int)) (.int .i64 (n : Int))).run Tryz.prog w = .ok (.slice (some ⟨w.heap.size, 0, none⟩) n n) (w.alloc (.cells (madeCells AcZ.cells (n * 14)) 48)) := by
  obtain ⟨i, hi, hz, hs, hb⟩ := info_parts infoAct
  have := run_make (P := Tryz.prog) w 29 48 i _ Tryz.underlying29 hi hz .i64 .i64 n n (by omega) (Int.le_refl _) (by rw [hb]; omega) (by omega)
  simp only [Int.toNat_natCast, hs] at this
  exact this
theorem made_acts (w : World) (m : Nat) : ∃ g, (w.alloc (.cells (madeCells AcZ.cells m) 48)).rowIs w.heap.size 48 m g := by
  have h := World.rowIs_alloc w (madeCells AcZ.cells m) 48 (fun i => ((madeCells AcZ.cells m)[i]?).getD undef) (fun i hi => by rw [Array.getElem?_eq_getElem hi]; rfl)
  rw [size_madeCells] at h
  exact ⟨_, h⟩
def acC (f : Nat → Ac) (j : Nat) : Value := ((acL (f (j / 14)))[j % 14]?).getD undef
theorem acC_at (f : Nat → Ac) (k i : Nat) (hi : i < 14) : acC f (k * 14 + i) = ((acL (f k))[i]?).getD undef := by
  unfold acC
  rw [show (k * 14 + i) / 14 = k by omega, show (k * 14 + i) % 14 = i by omega]

set_option maxRecDepth 100000 in
set_option maxHeartbeats 8000000 in
theorem toActS_any (a : Option Addr) (n cap : Nat) (f : Nat → Ac) (w : World) (hA : LAt w a n f) (hn : n ≤ 1048576) :
    Calls Tryz.prog 6 #[.slice a n cap] w fun e w' => (e = .returned (.slice (some ⟨w.heap.size, 0, none⟩) n n) ∧ ∃ g, w'.rowIs w.heap.size 48 (n * 14) g ∧ ∀ j, j < n * 14 → g j = acC f j) ∧ Below w.heap.size w w' := by
  have hmk := make_acts n hn
  have HG := hide (made_acts w (n * 14))
  have HA := hide hA
  clear hA
  go_enter Tryz.func6, Tryz.ntmps6
  go_wp2
  clear hmk
  go_loopw [4] (fun i wr => ∃ (k : Nat) (g : Nat → Value), k ≤ n ∧ i = .int .i64 k ∧ Below w.heap.size w wr ∧ wr.rowIs w.heap.size 48 (n * 14) g ∧ ∀ j, j < k * 14 → g j = acC f j) (fun i _ => n - (intOf i).toNat)
  case atStart =>
    obtain ⟨g, hg⟩ := unhide HG
    exact ⟨0, g, by omega, rfl, (Below.refl _ _).alloc (Nat.le_refl _) _, hg, fun j hj => by omega⟩
  case round =>
    clear HG
    obtain ⟨k, g, hk, rfl, hb, hrow, hall⟩ := hrel
    by_cases hkn : k < n
    · obtain ⟨b, off, rfl, hbl, hcs⟩ := (unhide HA).resolve_left (by omega)
      have ec : ∀ j u, (acL (f k))[j]? = some u → wr.cell? ⟨b, off + k * 14 + j, none⟩ = some u := fun j u hu => (hb.cell (p := ⟨b, off + k * 14 + j, none⟩) hbl).trans (hcs k hkn j u hu)
      have e0 := ec 0 _ rfl
      have e1 := ec 1 _ rfl
      have e2 := ec 2 _ rfl
      have e3 := ec 3 _ rfl
      have e4 := ec 4 _ rfl
      have e5 := ec 5 _ rfl
      have e6 := ec 6 _ rfl
      have e7 := ec 7 _ rfl
      have e8 := ec 8 _ rfl
      have e9 := ec 9 _ rfl
      have e10 := ec 10 _ rfl
      have e11 := ec 11 _ rfl
      have e12 := ec 12 _ rfl
      have e13 := ec 13 _ rfl
      rw [Nat.add_zero] at e0
      have hx : b < wr.heap.size := Nat.lt_of_lt_of_le hbl hb.size
      have hrl := World.rowIs.lt hrow
      have HB := hide hb
      have HR := hide hrow
      have HALL := hide hall
      clear hcs hb hrow hall ec
      go_wp2_with fail
      refine (toAct_any (f k) _).mono ?_
      rintro e w1 ⟨rfl, hb1⟩
      have hrow1 := World.rowIs.of_block (unhide HR) (hb1.block _ hrl)
      have hl1 := hrow1.lt
      have d0 := hrow1.cell (i := k * 14) (by omega)
      have f0 := hrow1.frozen (k * 14)
      have d1 := hrow1.cell (i := k * 14 + 1) (by omega)
      have f1 := hrow1.frozen (k * 14 + 1)
      have d2 := hrow1.cell (i := k * 14 + 2) (by omega)
      have f2 := hrow1.frozen (k * 14 + 2)
      have d3 := hrow1.cell (i := k * 14 + 3) (by omega)
      have f3 := hrow1.frozen (k * 14 + 3)
      have d4 := hrow1.cell (i := k * 14 + 4) (by omega)
      have f4 := hrow1.frozen (k * 14 + 4)
      have d5 := hrow1.cell (i := k * 14 + 5) (by omega)
      have f5 := hrow1.frozen (k * 14 + 5)
      have d6 := hrow1.cell (i := k * 14 + 6) (by omega)
      have f6 := hrow1.frozen (k * 14 + 6)
      have d7 := hrow1.cell (i := k * 14 + 7) (by omega)
      have f7 := hrow1.frozen (k * 14 + 7)
      have d8 := hrow1.cell (i := k * 14 + 8) (by omega)
      have f8 := hrow1.frozen (k * 14 + 8)
      have d9 := hrow1.cell (i := k * 14 + 9) (by omega)
      have f9 := hrow1.frozen (k * 14 + 9)
      have d10 := hrow1.cell (i := k * 14 + 10) (by omega)
      have f10 := hrow1.frozen (k * 14 + 10)
      have d11 := hrow1.cell (i := k * 14 + 11) (by omega)
      have f11 := hrow1.frozen (k * 14 + 11)
      have d12 := hrow1.cell (i := k * 14 + 12) (by omega)
      have f12 := hrow1.frozen (k * 14 + 12)
      have d13 := hrow1.cell (i := k * 14 + 13) (by omega)
      have f13 := hrow1.frozen (k * 14 + 13)
      have HN := hide (((((((((((((((hrow1.set (k * 14) (.int .i64 (f k).op)).set (k * 14 + 1) (.int .i64 (f k).t)).set (k * 14 + 2) (.int .i64 (f k).site)).set (k * 14 + 3) (.int .i64 (f k).n)).set (k * 14 + 4) (.int .i64 (f k).k.kind)).set (k * 14 + 5) (.int .i64 (f k).k.num)).set (k * 14 + 6) (.float .f64 (f k).k.flt)).set (k * 14 + 7) (.string (f k).k.str)).set (k * 14 + 8) (.int .i64 (f k).k.ref)).set (k * 14 + 9) (.int .i64 (f k).v.kind)).set (k * 14 + 10) (.int .i64 (f k).v.num)).set (k * 14 + 11) (.float .f64 (f k).v.flt)).set (k * 14 + 12) (.string (f k).v.str)).set (k * 14 + 13) (.int .i64 (f k).v.ref)))
      have HB1 := hide ((unhide HB).trans (hb1.mono (unhide HB).size))
      clear hb1 hrow1 e0 e1 e2 e3 e4 e5 e6 e7 e8 e9 e10 e11 e12 e13
      go_wp2_with fail
      go_roundw
      case rel =>
        refine ⟨k + 1, _, by omega, by go_num, ?_, unhide HN, fun j hj => ?_⟩
        · repeat (refine Below.setCell ?_ (by exact Nat.le_refl _) _)
          exact unhide HB1
        · by_cases hj' : j < k * 14
          · have hne : ∀ i, i < 14 → j ≠ k * 14 + i := fun i _ => by omega
            simp only [show j ≠ k * 14 by omega, hne 1 (by omega), hne 2 (by omega), hne 3 (by omega), hne 4 (by omega), hne 5 (by omega), hne 6 (by omega), hne 7 (by omega), hne 8 (by omega), hne 9 (by omega), hne 10 (by omega), hne 11 (by omega), hne 12 (by omega), hne 13 (by omega), if_false]
            exact unhide HALL j hj'
          · obtain ⟨i, hi, rfl⟩ : ∃ i, i < 14 ∧ j = k * 14 + i := ⟨j - k * 14, by omega, by omega⟩
            rw [acC_at _ k i hi]
            rcases (by omega : i = 0 ∨ i = 1 ∨ i = 2 ∨ i = 3 ∨ i = 4 ∨ i = 5 ∨ i = 6 ∨ i = 7 ∨ i = 8 ∨ i = 9 ∨ i = 10 ∨ i = 11 ∨ i = 12 ∨ i = 13) with rfl | rfl | rfl | rfl | rfl | rfl | rfl | rfl | rfl | rfl | rfl | rfl | rfl | rfl <;> simp [acL]
      case measure => simp [intOf]; omega
    · have hkn' : k = n := by omega
      subst hkn'
      have HALL := hide (And.intro hrow hall)
      have HB := hide hb
      clear hall hb hrow
      go_wp2_with fail
      go_ret
      exact ⟨⟨rfl, g, unhide HALL⟩, unhide HB⟩

theorem szA_rng (a : Ac) (left : Int) (h : 0 ≤ left) : szA a left = -1 ∨ (0 ≤ szA a left ∧ szA a left ≤ left) := by
  unfold szA
  split
  · exact .inl rfl
  · split
    · exact .inl rfl
    · right; omega
set_option maxRecDepth 100000 in
set_option maxHeartbeats 4000000 in
theorem szActS_any (a : Option Addr) (n cap : Nat) (f : Nat → Ac) (w : World) (hA : LAt w a n f) (hm : n ≤ maxLen) (hk : ∀ i, i < n → (f i).k.str.size ≤ maxLen ∧ (f i).v.str.size ≤ maxLen) :
    Calls Tryz.prog 4 #[.slice a n cap, .int .i64 1048576] w fun e w' => (∃ r : Int, e = .returned (.int .i64 r) ∧ (r = -1 ∨ (0 ≤ r ∧ n ≤ 1048576))) ∧ Below w.heap.size w w' := by
  have hm' : n ≤ 9223372036854775807 := by simpa [maxLen] using hm
  have HA := hide hA
  have HK := hide hk
  have hwr : IntKind.i64.wrap (1048576 - (n : Int)) = 1048576 - (n : Int) := by rw [IntKind.wrap_i64]; omega
  clear hA hk hm
  by_cases hb : 1048576 < n
  · have d0 : decide (1048576 - (n : Int) < 0) = true := by simp; omega
    have d1 : decide ((1048576 : Int) < (n : Int)) = true := by simp; omega
    clear hb
    go_enter Tryz.func4, Tryz.ntmps4
    go_wp2
    go_ret
    exact ⟨⟨-1, rfl, .inl rfl⟩, Below.refl _ _⟩
  · have hn : n ≤ 1048576 := by omega
    have d0 : decide (1048576 - (n : Int) < 0) = false := by simp; omega
    have d1 : decide ((1048576 : Int) < (n : Int)) = false := by simp; omega
    clear hb
    go_enter Tryz.func4, Tryz.ntmps4
    go_wp2
    clear hwr
    go_loopw [1, 5] (fun q i wr => ∃ (k : Nat) (z : Int), k ≤ n ∧ i = .int .i64 k ∧ q = .int .i64 z ∧ 0 ≤ z ∧ z ≤ 1048576 ∧ Below w.heap.size w wr) (fun _ i _ => n - (intOf i).toNat)
    case atStart => exact ⟨0, _, by omega, rfl, rfl, by omega, by omega, Below.refl _ _⟩
    case round =>
      obtain ⟨k, z, hk, rfl, rfl, hz0, hz1, hb⟩ := hrel
      by_cases hkn : k < n
      · obtain ⟨b, off, rfl, hbl, hcs⟩ := (unhide HA).resolve_left (by omega)
        have ec : ∀ j u, (acL (f k))[j]? = some u → wr.cell? ⟨b, off + k * 14 + j, none⟩ = some u := fun j u hu => (hb.cell (p := ⟨b, off + k * 14 + j, none⟩) hbl).trans (hcs k hkn j u hu)
        have e0 := ec 0 _ rfl
        have e1 := ec 1 _ rfl
        have e2 := ec 2 _ rfl
        have e3 := ec 3 _ rfl
        have e4 := ec 4 _ rfl
        have e5 := ec 5 _ rfl
        have e6 := ec 6 _ rfl
        have e7 := ec 7 _ rfl
        have e8 := ec 8 _ rfl
        have e9 := ec 9 _ rfl
        have e10 := ec 10 _ rfl
        have e11 := ec 11 _ rfl
        have e12 := ec 12 _ rfl
        have e13 := ec 13 _ rfl
        rw [Nat.add_zero] at e0
        have hx : b < wr.heap.size := Nat.lt_of_lt_of_le hbl hb.size
        have HB := hide hb
        clear hcs hb ec
        have HSZ := hide (szAct_any (f k) z wr ((unhide HK) k hkn).1 ((unhide HK) k hkn).2 hz0 hz1)
        go_wp2_with fail
        refine (unhide HSZ).mono ?_
        rintro e w1 ⟨rfl, hb1⟩
        have HB1 := hide ((unhide HB).trans (hb1.mono (unhide HB).size))
        clear hb1 e0 e1 e2 e3 e4 e5 e6 e7 e8 e9 e10 e11 e12 e13
        rcases szA_rng (f k) z hz0 with h | ⟨h1, h2⟩
        · rw [h]
          clear h
          go_wp2
          go_ret
          exact ⟨⟨-1, rfl, .inl rfl⟩, unhide HB1⟩
        · generalize szA (f k) z = y at *
          have dy : decide (y < 0) = false := by simp; omega
          go_wp2
          go_roundw
          case rel => exact ⟨k + 1, y, by omega, by go_num, rfl, h1, by omega, unhide HB1⟩
          case measure => simp [intOf]; omega
      · have hkn' : k = n := by omega
        subst hkn'
        have HB := hide hb
        clear hb
        go_wp2
        go_ret
        exact ⟨⟨z, rfl, .inr ⟨hz0, hn⟩⟩, unhide HB⟩
end Go.Proofs.YtnjgebncghdajaaGreatDoor
