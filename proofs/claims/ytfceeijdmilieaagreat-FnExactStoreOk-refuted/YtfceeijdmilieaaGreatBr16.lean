/-
  DmA, DmB, DmC.
-/
import Derived.Test.YtfceeijdmilieaaGreatBr15
import Derived.Test.YtfceeijdmilieaaGreatDkMP
namespace Go.Proofs.YtfceeijdmilieaaGreat
open Go.RowKit
set_option linter.unusedVariables false
attribute [local go_sem] run_store_float run_equalIn_float

/-- All but one block lie as they lay. -/
structure Bt (b : Nat) (w w' : World) : Prop where
  os : w'.os = w.os
  tape : w'.tape = w.tape
  output : w'.output = w.output
  size : w.heap.size ≤ w'.heap.size
  block : ∀ k, k < w.heap.size → k ≠ b → w'.heap[k]? = w.heap[k]?
theorem Bt.refl (b : Nat) (w : World) : Bt b w w := ⟨rfl, rfl, rfl, Nat.le_refl _, fun _ _ _ => rfl⟩
theorem Bt.trans {b : Nat} {u v w : World} (h : Bt b u v) (k : Bt b v w) : Bt b u w :=
  ⟨k.os.trans h.os, k.tape.trans h.tape, k.output.trans h.output, Nat.le_trans h.size k.size, fun i hi hn => (k.block i (Nat.lt_of_lt_of_le hi h.size) hn).trans (h.block i hi hn)⟩
theorem Bt.of {b : Nat} {w w' : World} (h : Below w.heap.size w w') : Bt b w w' := ⟨h.os, h.tape, h.output, h.size, fun k hk _ => h.block k hk⟩
theorem Bt.set (b o : Nat) (w : World) (v : Value) : Bt b w (w.setCell ⟨b, o, none⟩ v) := ⟨rfl, rfl, rfl, by simp [World.setCell], fun k _ hn => Deep.blk_setCell_other _ _ _ _ (by exact hn)⟩
theorem Bt.below {b B : Nat} {w w' : World} (h : Bt b w w') (hb : B ≤ b) (hB : B ≤ w.heap.size) : Below B w w' := ⟨h.os, h.tape, h.output, h.size, fun k hk => h.block k (by omega) (by omega)⟩

end Go.Proofs.YtfceeijdmilieaaGreat
namespace Go.Proofs.YtfceeijdmilieaaGreat
open Go.RowKit
set_option linter.unusedVariables false
attribute [local go_sem] run_store_float run_equalIn_float

theorem fself (k : Int) (h0 : 0 ≤ k) (hk : k < 9007199254740992) : (FloatKind.f64.format.order (floatOfInt .f64 k) (floatOfInt .f64 k) != some .eq) = false := by
  obtain ⟨q, l, hr, hl, hv⟩ := Fl.nearest_whole (decide (k < 0)) k.natAbs (Fl.fits_small (by omega))
  have hx : Ieee.double.read (floatOfInt .f64 k) = .number (decide (k < 0)) q l := hr
  show (!(Ieee.double.order _ _ == some .eq)) = false
  rw [Fl.ord_of hx hx hl hl, Fl.cmp_eq]; simp

/-- What a marked pair is. -/
def mkP (s i : Nat) : Pr :=
  ⟨⟨(s : Int) + 11 * i, (s : Int) + 11 * i + 1, floatOfInt .f64 ((s : Int) + 11 * i + 1 + 1), mark (s + 11 * i + 3), (s : Int) + 11 * i + 1 + 1 + 1 + 1⟩,
   ⟨(s : Int) + 11 * i + 1 + 1 + 1 + 1 + 1, (s : Int) + 11 * i + 1 + 1 + 1 + 1 + 1 + 1, floatOfInt .f64 ((s : Int) + 11 * i + 1 + 1 + 1 + 1 + 1 + 1 + 1), mark (s + 11 * i + 8), (s : Int) + 11 * i + 1 + 1 + 1 + 1 + 1 + 1 + 1 + 1 + 1⟩, (s : Int) + 11 * i + 1 + 1 + 1 + 1 + 1 + 1 + 1 + 1 + 1 + 1⟩
/-- A cell of a row of pairs. -/
def pcell (f : Nat → Pr) (j : Nat) : Value := ((prL (f (j / 11)))[j % 11]?).getD undef
theorem pcell_at (f : Nat → Pr) (k i : Nat) (hi : i < 11) : pcell f (k * 11 + i) = ((prL (f k))[i]?).getD undef := by
  unfold pcell
  rw [show (k * 11 + i) / 11 = k by omega, show (k * 11 + i) % 11 = i by omega]
theorem pcells {w : World} {b N n : Nat} {g : Nat → Value} {f : Nat → Pr} (h : w.rowIs b 136 N g) (hN : n * 11 ≤ N) (hg : ∀ j, j < n * 11 → g j = pcell f j) {i : Nat} (hi : i < n) : PCell w b (i * 11) (f i) := by
  have e : ∀ j, j < 11 → w.cell? ⟨b, i * 11 + j, none⟩ = some (((prL (f i))[j]?).getD undef) := fun j hj => by
    rw [h.cell (i := i * 11 + j) (by omega), hg _ (by omega), pcell_at f i j hj]
  exact ⟨e 0 (by omega), e 1 (by omega), e 2 (by omega), e 3 (by omega), e 4 (by omega), e 5 (by omega), e 6 (by omega), e 7 (by omega), e 8 (by omega), e 9 (by omega), e 10 (by omega)⟩

end Go.Proofs.YtfceeijdmilieaaGreat
namespace Go.Proofs.YtfceeijdmilieaaGreat
open Go.RowKit
set_option linter.unusedVariables false
attribute [local go_sem] run_store_float run_equalIn_float

theorem row_set {w : World} {s N b q : Nat} {t : TypeId} {g : Nat → Value} {v : Value} (h : w.rowIs s t N g) (hb : s ≠ b) : (w.setCell ⟨b, q, none⟩ v).rowIs s t N g := World.rowIs.of_block h (Deep.blk_setCell_other _ _ _ _ (by exact hb))
/-- The rows of a dict that was made. -/
structure ToR (B : Nat) (w : World) (s0 s1 s2 : Nat) (d : Dc) : Prop where
  b0 : B ≤ s0
  b1 : B ≤ s1
  b2 : B ≤ s2
  n01 : s0 ≠ s1
  n02 : s0 ≠ s2
  n12 : s1 ≠ s2
  r0 : ∃ g, w.rowIs s0 136 (d.n * 11) g
  r1 : ∃ g, w.rowIs s1 3 d.m g
  r2 : ∃ g, w.rowIs s2 3 d.x g
theorem ToR.keep {B : Nat} {w w' : World} {s0 s1 s2 : Nat} {d : Dc} (h : ToR B w s0 s1 s2 d) (hk : ∀ q, q < w.heap.size → w'.heap[q]? = w.heap[q]?) : ToR B w' s0 s1 s2 d :=
  ⟨h.b0, h.b1, h.b2, h.n01, h.n02, h.n12, h.r0.imp fun g r => World.rowIs.of_block r (hk _ (World.rowIs.lt r)), h.r1.imp fun g r => World.rowIs.of_block r (hk _ (World.rowIs.lt r)), h.r2.imp fun g r => World.rowIs.of_block r (hk _ (World.rowIs.lt r))⟩
theorem ToR.lt {B : Nat} {w : World} {s0 s1 s2 : Nat} {d : Dc} (h : ToR B w s0 s1 s2 d) : s0 < w.heap.size ∧ s1 < w.heap.size ∧ s2 < w.heap.size := by
  obtain ⟨_, r0⟩ := h.r0
  obtain ⟨_, r1⟩ := h.r1
  obtain ⟨_, r2⟩ := h.r2
  exact ⟨World.rowIs.lt r0, World.rowIs.lt r1, World.rowIs.lt r2⟩

set_option maxRecDepth 100000 in
set_option maxHeartbeats 2000000 in
theorem toPairS_row (a : Option Addr) (n cap : Nat) (f : Nat → Pr) (w : World) (hA : PAt w a n f) (hn : n ≤ 4194304) :
    Calls Tryz.prog 72 #[.slice a n cap] w fun e w' => (e = .returned (.slice (some ⟨w.heap.size, 0, none⟩) n n) ∧ PAt w' (some ⟨w.heap.size, 0, none⟩) n f ∧ ∃ g, w'.rowIs w.heap.size 136 (n * 11) g) ∧ Below w.heap.size w w' := by
  have hmk := make_pairs n hn
  have HG := hide (made_pairs w (n * 11))
  have HA := hide hA
  clear hA
  go_enter Tryz.func72, Tryz.ntmps72
  go_wp2
  clear hmk
  go_loopw [4] (fun i wr => ∃ (k : Nat), k ≤ n ∧ i = .int .i64 k ∧ Below w.heap.size w wr ∧ (∃ g, wr.rowIs w.heap.size 136 (n * 11) g) ∧ ∀ j, j < k → PCell wr w.heap.size (j * 11) (f j)) (fun i _ => n - (intOf i).toNat)
  case atStart => exact ⟨0, by omega, rfl, (Below.refl _ _).alloc (Nat.le_refl _) _, unhide HG, fun j hj => by omega⟩
  case round =>
    clear HG
    obtain ⟨k, hk, rfl, hb, ⟨g, hrow⟩, hall⟩ := hrel
    by_cases hkn : k < n
    · obtain ⟨b, off, rfl, hbl, hcs⟩ := (unhide HA).resolve_left (by omega)
      obtain ⟨e0, e1, e2, e3, e4, e5, e6, e7, e8, e9, e10⟩ := (hcs k hkn).keep (fun q => hb.cell (p := ⟨b, q, none⟩) hbl)
      have hrl := World.rowIs.lt hrow
      have HB := hide hb
      have HR := hide hrow
      have HALL := hide hall
      clear hcs hb hrow hall
      go_wp2_with fail
      refine (toPair_any (f k) _).mono ?_
      rintro e w1 ⟨rfl, hb1⟩
      have hrow1 := World.rowIs.of_block (unhide HR) (hb1.block _ hrl)
      have d0 := hrow1.cell (i := k * 11) (by omega)
      have f0 := hrow1.frozen (k * 11)
      have d1 := hrow1.cell (i := k * 11 + 1) (by omega)
      have f1 := hrow1.frozen (k * 11 + 1)
      have d2 := hrow1.cell (i := k * 11 + 2) (by omega)
      have f2 := hrow1.frozen (k * 11 + 2)
      have d3 := hrow1.cell (i := k * 11 + 3) (by omega)
      have f3 := hrow1.frozen (k * 11 + 3)
      have d4 := hrow1.cell (i := k * 11 + 4) (by omega)
      have f4 := hrow1.frozen (k * 11 + 4)
      have d5 := hrow1.cell (i := k * 11 + 5) (by omega)
      have f5 := hrow1.frozen (k * 11 + 5)
      have d6 := hrow1.cell (i := k * 11 + 6) (by omega)
      have f6 := hrow1.frozen (k * 11 + 6)
      have d7 := hrow1.cell (i := k * 11 + 7) (by omega)
      have f7 := hrow1.frozen (k * 11 + 7)
      have d8 := hrow1.cell (i := k * 11 + 8) (by omega)
      have f8 := hrow1.frozen (k * 11 + 8)
      have d9 := hrow1.cell (i := k * 11 + 9) (by omega)
      have f9 := hrow1.frozen (k * 11 + 9)
      have d10 := hrow1.cell (i := k * 11 + 10) (by omega)
      have f10 := hrow1.frozen (k * 11 + 10)
      obtain ⟨hg', hpc⟩ := set11_row hrow1 (o := k * 11) (by omega) (f k)
      have HN : Hid (∀ j, j < k → PCell w1 w.heap.size (j * 11) (f j)) := hide (fun j hj => (unhide HALL j hj).keepAt (fun q _ => World.cell?_of_block (hb1.block _ hrl)))
      have HG' := hide hg'
      have HPC := hide hpc
      have HB1 := hide ((unhide HB).trans (hb1.mono (unhide HB).size))
      clear hb1 hrow1 hg' hpc e0 e1 e2 e3 e4 e5 e6 e7 e8 e9 e10
      go_wp2_with fail
      go_roundw
      case rel =>
        refine ⟨k + 1, by omega, by go_num, ?_, unhide HG', fun j hj => ?_⟩
        · repeat (refine Below.setCell ?_ (by exact Nat.le_refl _) _)
          exact unhide HB1
        · by_cases e : j = k
          · subst e; exact unhide HPC
          · exact (unhide HN j (by omega)).keepAt (fun q hq => set11_other (f k) (by omega))
      case measure => simp [intOf]; omega
    · have hkn' : k = n := by omega
      subst hkn'
      have HALL := hide hall
      have HB := hide hb
      have hrl := World.rowIs.lt hrow
      have HRW := hide hrow
      clear hall hb hrow
      go_wp2_with fail
      go_ret
      exact ⟨⟨rfl, .inr ⟨_, 0, rfl, hrl, fun i hi => by rw [Nat.zero_add]; exact unhide HALL i hi⟩, _, unhide HRW⟩, unhide HB⟩

set_option maxRecDepth 100000 in
set_option maxHeartbeats 2000000 in
theorem toIntS_row (a : Option Addr) (n cap : Nat) (f : Nat → Int) (w : World) (hA : IAt w a n f) (hn : n ≤ 4194304) :
    Calls Tryz.prog 73 #[.slice a n cap] w fun e w' => (e = .returned (.slice (some ⟨w.heap.size, 0, none⟩) n n) ∧ IAt w' (some ⟨w.heap.size, 0, none⟩) n f ∧ ∃ g, w'.rowIs w.heap.size 3 n g) ∧ Below w.heap.size w w' := by
  have hmk := make_ints n hn
  have HG := hide (made_zeros w n)
  have HA := hide hA
  clear hA
  go_enter Tryz.func73, Tryz.ntmps73
  go_wp2
  clear hmk
  go_loopw [4] (fun i wr => ∃ (k : Nat) (g : Nat → Value), k ≤ n ∧ i = .int .i64 k ∧ Below w.heap.size w wr ∧ wr.rowIs w.heap.size 3 n g ∧ ∀ j, j < k → g j = .int .i64 (f j)) (fun i _ => n - (intOf i).toNat)
  case atStart => exact ⟨0, _, by omega, rfl, (Below.refl _ _).alloc (Nat.le_refl _) _, unhide HG, fun j hj => by omega⟩
  case round =>
    clear HG
    obtain ⟨k, g, hk, rfl, hb, hrow, hall⟩ := hrel
    by_cases hkn : k < n
    · obtain ⟨b, off, rfl, hbl, hcs⟩ := (unhide HA).resolve_left (by omega)
      have e0 := (hb.cell (p := ⟨b, off + k, none⟩) hbl).trans (hcs k hkn)
      have hrl := World.rowIs.lt hrow
      have d0 := hrow.cell hkn
      have f0 := hrow.frozen k
      have HN : Hid ((wr.setCell ⟨w.heap.size, k, none⟩ (.int .i64 (f k))).rowIs w.heap.size 3 n (fun i => if i = k then .int .i64 (f k) else g i) ∧ ∀ j, j < k + 1 → (fun i => if i = k then .int .i64 (f k) else g i) j = .int .i64 (f j)) := hide ⟨hrow.set k _, fun j hj => by
        by_cases e : j = k
        · subst e; simp
        · simp only [e, if_false]; exact hall j (by omega)⟩
      have HB := hide hb
      clear hcs hb hrow hall
      go_wp2_with fail
      go_roundw
      case rel => exact ⟨k + 1, _, by omega, by go_num, (unhide HB).setCell (by exact Nat.le_refl _) _, (unhide HN).1, (unhide HN).2⟩
      case measure => simp [intOf]; omega
    · have hkn' : k = n := by omega
      subst hkn'
      have HALL := hide (⟨hrow, hall⟩ : wr.rowIs w.heap.size 3 k g ∧ ∀ j, j < k → g j = .int .i64 (f j))
      have HB := hide hb
      have hrl := World.rowIs.lt hrow
      clear hall hb hrow
      go_wp2_with fail
      go_ret
      exact ⟨⟨rfl, .inr ⟨_, 0, rfl, hrl, fun i hi => by rw [Nat.zero_add, (unhide HALL).1.cell hi, (unhide HALL).2 i hi]⟩, _, (unhide HALL).1⟩, unhide HB⟩
set_option maxRecDepth 100000 in
set_option maxHeartbeats 2000000 in
theorem toDict_row (la : Option Addr) (lc : Nat) (ia : Option Addr) (ic : Nat) (xa : Option Addr) (xc : Nat) (d : Dc) (w : World) (hD : DAt w la ia xa d) (hS : Small d) :
    Calls Tryz.prog 52 #[Dv la lc ia ic xa xc d] w fun e w' => (∃ s0 s1 s2, e = .returned (Dv (some ⟨s0, 0, none⟩) d.n (some ⟨s1, 0, none⟩) d.m (some ⟨s2, 0, none⟩) d.x d) ∧ DAt w' (some ⟨s0, 0, none⟩) (some ⟨s1, 0, none⟩) (some ⟨s2, 0, none⟩) d ∧ ToR w.heap.size w' s0 s1 s2 d) ∧ Below w.heap.size w w' := by
  have HD := hide hD
  have HS := hide hS
  clear hD hS
  have hb0 : Below w.heap.size w (((w.alloc (.cells #[.slice la d.n lc, .slice ia d.m ic, .slice xa d.x xc, .int .i64 d.used, .int .i64 d.live, .int .i64 d.turns] 73)).alloc (.cells #[.slice none 0 0, .slice none 0 0, .slice none 0 0, .int .i64 0, .int .i64 0, .int .i64 0] 49)).alloc (.cells #[.slice none 0 0, .slice none 0 0, .slice none 0 0, .int .i64 0, .int .i64 0, .int .i64 0] 49)) := (((Below.refl _ _).alloc (Nat.le_refl _) _).alloc (by simp) _).alloc (by simp; omega) _
  have HB0 := hide hb0
  clear hb0
  go_enter Tryz.func52, Tryz.ntmps52
  go_wp2_with fail
  refine (toPairS_row la d.n lc d.L _ ((unhide HD).below (unhide HB0)).log (unhide HS).n).mono ?_
  rintro e w1 ⟨⟨rfl, hP, hPR⟩, hb1⟩
  obtain ⟨hc1, hf1⟩ := bcell hb1
  have hz1 := hb1.size
  simp at hz1 hP hPR
  obtain ⟨g0, hPR⟩ := hPR
  have y0 : w.heap.size < w1.heap.size := by omega
  have y1 : w.heap.size + 1 < w1.heap.size := by omega
  have y2 : w.heap.size + 1 + 1 < w1.heap.size := by omega
  have HB1 := hide ((unhide HB0).trans (hb1.mono (unhide HB0).size))
  have HP1 := hide hP
  have HPR1 := hide hPR
  clear hb1 hP hPR
  have HBs1 : Hid (∀ v, Below w.heap.size w (w1.setCell ⟨w.heap.size + 1 + 1, 0, none⟩ v)) := hide (fun v => (unhide HB1).setCell (by show w.heap.size ≤ w.heap.size + 1 + 1; omega) _)
  go_wp2_with fail
  refine (toIntS_row ia d.m ic d.I _ ((unhide HD).below (unhide HBs1 _)).ints (unhide HS).m).mono ?_
  rintro e w2 ⟨⟨rfl, hI, hIR⟩, hb2⟩
  obtain ⟨hc2, hf2⟩ := bcell hb2
  have hz2 := hb2.size
  simp at hz2 hI hIR
  obtain ⟨gi, hIR⟩ := hIR
  have z0 : w.heap.size < w2.heap.size := by omega
  have z1 : w.heap.size + 1 < w2.heap.size := by omega
  have z2 : w.heap.size + 1 + 1 < w2.heap.size := by omega
  have HB2 := hide ((unhide HBs1 _).trans (hb2.mono (unhide HBs1 _).size))
  have HP2 := hide (PAt.below (PAt.setOther (q := 0) (v := .slice (some ⟨w.heap.size + 1 + 1 + 1, 0, none⟩) d.n d.n) (unhide HP1) (show w.heap.size + 1 + 1 + 1 ≠ w.heap.size + 1 + 1 by omega)) hb2 rfl)
  have HI2 := hide hI
  have HPR2 := hide (World.rowIs.of_block (row_set (q := 0) (v := .slice (some ⟨w.heap.size + 1 + 1 + 1, 0, none⟩) d.n d.n) (unhide HPR1) (show w.heap.size + 1 + 1 + 1 ≠ w.heap.size + 1 + 1 by omega)) (hb2.block _ (by have := World.rowIs.lt (unhide HPR1); simpa using this)))
  have HIR2 := hide hIR
  clear hb2 hI hIR
  have HBs2 : Hid (∀ v, Below w.heap.size w (w2.setCell ⟨w.heap.size + 1 + 1, 1, none⟩ v)) := hide (fun v => (unhide HB2).setCell (by show w.heap.size ≤ w.heap.size + 1 + 1; omega) _)
  go_wp2_with fail
  refine (toIntS_row xa d.x xc d.X _ ((unhide HD).below (unhide HBs2 _)).index (unhide HS).x).mono ?_
  rintro e w3 ⟨⟨rfl, hX, hXR⟩, hb3⟩
  obtain ⟨hc3, hf3⟩ := bcell hb3
  have hz3 := hb3.size
  simp at hz3 hX hXR
  obtain ⟨gx, hXR⟩ := hXR
  have x0 : w.heap.size < w3.heap.size := by omega
  have x1 : w.heap.size + 1 < w3.heap.size := by omega
  have x2 : w.heap.size + 1 + 1 < w3.heap.size := by omega
  have HB3 := hide ((unhide HBs2 _).trans (hb3.mono (unhide HBs2 _).size))
  have HP3 := hide (PAt.below (PAt.setOther (q := 1) (v := .slice (some ⟨w1.heap.size, 0, none⟩) d.m d.m) (unhide HP2) (show w.heap.size + 1 + 1 + 1 ≠ w.heap.size + 1 + 1 by omega)) hb3 rfl)
  have HI3 := hide (IAt.below (IAt.setOther (q := 1) (v := .slice (some ⟨w1.heap.size, 0, none⟩) d.m d.m) (unhide HI2) (show w1.heap.size ≠ w.heap.size + 1 + 1 by omega)) hb3 rfl)
  have HX3 := hide hX
  have HPR3 := hide (World.rowIs.of_block (row_set (q := 1) (v := .slice (some ⟨w1.heap.size, 0, none⟩) d.m d.m) (unhide HPR2) (show w.heap.size + 1 + 1 + 1 ≠ w.heap.size + 1 + 1 by omega)) (hb3.block _ (by have := World.rowIs.lt (unhide HPR2); simpa using this)))
  have HIR3 := hide (World.rowIs.of_block (row_set (q := 1) (v := .slice (some ⟨w1.heap.size, 0, none⟩) d.m d.m) (unhide HIR2) (show w1.heap.size ≠ w.heap.size + 1 + 1 by omega)) (hb3.block _ (by have := World.rowIs.lt (unhide HIR2); simpa using this)))
  have HXR3 := hide hXR
  have hpl : w.heap.size + 1 + 1 + 1 < w1.heap.size := World.rowIs.lt (unhide HPR1)
  have hil : w1.heap.size < w2.heap.size := World.rowIs.lt (unhide HIR2)
  clear hb3 hX hXR
  have g1 : w1.heap.size ≠ w.heap.size + 1 + 1 := by omega
  have g2 : w1.heap.size ≠ w.heap.size + 1 := by omega
  have g3 : w2.heap.size ≠ w.heap.size + 1 + 1 := by omega
  have g4 : w2.heap.size ≠ w.heap.size + 1 := by omega
  go_wp2
  refine bodyPost_ret (v := Dv (some ⟨w.heap.size + 1 + 1 + 1, 0, none⟩) d.n (some ⟨w1.heap.size, 0, none⟩) d.m (some ⟨w2.heap.size, 0, none⟩) d.x d) (by simp [results, Tryz.results52, go_sem, hc1, hc2, hc3, y1, z1]) rfl ⟨⟨_, _, _, rfl, ⟨?_, ?_, ?_⟩, ⟨by omega, by omega, by omega, by omega, by omega, by omega, ⟨g0, ?_⟩, ⟨gi, ?_⟩, ⟨gx, ?_⟩⟩⟩, ?_⟩
  · repeat (refine PAt.setOther ?_ (by omega))
    exact unhide HP3
  · repeat (refine IAt.setOther ?_ (by omega))
    exact unhide HI3
  · repeat (refine IAt.setOther ?_ (by omega))
    exact unhide HX3
  · repeat (refine row_set ?_ (by omega))
    exact unhide HPR3
  · repeat (refine row_set ?_ (by omega))
    exact unhide HIR3
  · repeat (refine row_set ?_ (by omega))
    exact unhide HXR3
  · repeat (refine Below.setCell ?_ (by first | (show w.heap.size ≤ w.heap.size + 1; omega) | (show w.heap.size ≤ w.heap.size + 1 + 1; omega)) _)
    exact unhide HB3

/-- All but three blocks lie as they lay. -/
structure Bt3 (a b c : Nat) (w w' : World) : Prop where
  os : w'.os = w.os
  tape : w'.tape = w.tape
  output : w'.output = w.output
  size : w.heap.size ≤ w'.heap.size
  block : ∀ k, k < w.heap.size → k ≠ a → k ≠ b → k ≠ c → w'.heap[k]? = w.heap[k]?
theorem Bt3.below {a b c B : Nat} {w w' : World} (h : Bt3 a b c w w') (ha : B ≤ a) (hb : B ≤ b) (hc : B ≤ c) (hB : B ≤ w.heap.size) : Below B w w' := ⟨h.os, h.tape, h.output, h.size, fun k hk => h.block k (by omega) (by omega) (by omega) (by omega)⟩

/-- The pairs of an answer. -/
def PrV (f : Nat → Pr) (n : Nat) (w : World) (v : Value) (lo hi : Nat) : Prop :=
  (n = 0 ∧ v = .slice none 0 0) ∨ ∃ b cp N g, v = .slice (some ⟨b, 0, none⟩) n cp ∧ lo ≤ b ∧ b < hi ∧ w.rowIs b 136 N g ∧ n * 11 ≤ N ∧ ∀ j, j < n * 11 → g j = pcell f j
theorem PrV.keep {f : Nat → Pr} {n : Nat} {w w' : World} {v : Value} {lo hi : Nat} (h : PrV f n w v lo hi) (hk : ∀ b, lo ≤ b → b < hi → w'.heap[b]? = w.heap[b]?) : PrV f n w' v lo hi := by
  rcases h with h | ⟨b, cp, N, g, h1, h2, h3, h4, h5, h6⟩
  · exact .inl h
  · exact .inr ⟨b, cp, N, g, h1, h2, h3, World.rowIs.of_block h4 (hk b h2 h3), h5, h6⟩
theorem PrV.below {f : Nat → Pr} {n : Nat} {w w' : World} {v : Value} {lo hi B : Nat} (h : PrV f n w v lo hi) (hb : Below B w w') (hB : hi ≤ B) : PrV f n w' v lo hi := h.keep fun b _ h2 => hb.block b (by omega)
theorem PrV.of {f : Nat → Pr} {n B : Nat} {w : World} {v : Value} (h : POwn w B v n f) : PrV f n w v B w.heap.size := by
  have hlt := h.lt
  obtain ⟨hl, ⟨hv, h0⟩ | ⟨g', cap, cur, hv, hb, hblk, h1, h2, h3, h4⟩⟩ := h
  · exact .inl ⟨h0, hv⟩
  · subst hv
    refine .inr ⟨g', cap, cap * 11, fun j => (cur[j]?).getD undef, rfl, hb, (hlt g' rfl).2, ⟨cur, hblk, h3, fun i hi => by simp [Array.getElem?_eq_getElem (show i < cur.size by omega)]⟩, by omega, fun j hj => ?_⟩
    have h5 := pL_get (f := f) (n := n) (i := j / 11) (j := j % 11) (by omega) (by omega)
    rw [show j / 11 * 11 + j % 11 = j by omega, ← h4, List.getElem?_take, if_pos hj, Array.getElem?_toList] at h5
    show (cur[j]?).getD undef = _
    rw [h5]
    rfl
theorem PrV.at {f : Nat → Pr} {n : Nat} {w : World} {v : Value} {lo hi : Nat} (h : PrV f n w v lo hi) : ∃ a cp, v = .slice a n cp ∧ PAt w a n f := by
  rcases h with ⟨h0, rfl⟩ | ⟨b, cp, N, g, h1, h2, h3, h4, h5, h6⟩
  · subst h0; exact ⟨_, _, rfl, .inl rfl⟩
  · exact ⟨_, _, h1, .inr ⟨b, 0, rfl, World.rowIs.lt h4, fun i hi => by rw [Nat.zero_add]; exact pcells h4 h5 h6 hi⟩⟩
theorem eqPrV {f : Nat → Pr} {n : Nat} {w : World} {v v' : Value} {lo hi lo' hi' : Nat} (h : PrV f n w v lo hi) (h' : PrV f n w v' lo' hi') (hn : n ≤ 4194304) :
    Calls Tryz.prog 76 #[v, v'] w fun e w' => e = .returned (.bool true) ∧ Below w.heap.size w w' := by
  obtain ⟨a, cp, rfl, hA⟩ := h.at
  obtain ⟨a', cp', rfl, hA'⟩ := h'.at
  exact eqPairS_same a a' n cp cp' f w hA hA' hn
end Go.Proofs.YtfceeijdmilieaaGreat
