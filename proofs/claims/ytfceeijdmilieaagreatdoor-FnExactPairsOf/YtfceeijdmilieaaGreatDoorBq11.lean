/-
  FoA, FoB.
-/
import Derived.Test.YtfceeijdmilieaaGreatDoorHide
import Derived.WalkKit
import Derived.WalkSpells
import Derived.WalkLawsBesides
import Derived.Below
import Derived.Deep.OwnRows
import Derived.Deep.QuietTactic
import Derived.BigQuiet
namespace Go.Proofs.YtfceeijdmilieaaGreatDoor
open Go.RowKit
set_option linter.unusedVariables false

/-- A shape. -/
structure Shp where
  parent : Int
  key : ByteArray
  count : Int
instance : Inhabited Shp := ⟨⟨0, ⟨#[]⟩, 0⟩⟩

abbrev Sh (p : Int) (k : ByteArray) (c : Int) : Value := .agg #[.int .i64 p, .string k, .int .i64 c]

/-- A row of n shapes at an address: nil where there is none. -/
def ShAt (w : World) (a : Option Addr) (n : Nat) (f : Nat → Shp) : Prop :=
  n = 0 ∨ ∃ b off, a = some ⟨b, off, none⟩ ∧ b < w.heap.size ∧ ∀ i, i < n → w.cell? ⟨b, off + i * 3, none⟩ = some (.int .i64 (f i).parent) ∧ w.cell? ⟨b, off + i * 3 + 1, none⟩ = some (.string (f i).key) ∧ w.cell? ⟨b, off + i * 3 + 2, none⟩ = some (.int .i64 (f i).count)

theorem ShAt.below {w w' : World} {B : Nat} {a : Option Addr} {n : Nat} {f : Nat → Shp} (h : ShAt w a n f) (hb : Below B w w') (hB : B = w.heap.size) : ShAt w' a n f := by
  subst hB
  rcases h with h | ⟨b, off, e, hlt, hc⟩
  · exact .inl h
  · refine .inr ⟨b, off, e, Nat.lt_of_lt_of_le hlt hb.size, fun i hi => ?_⟩
    obtain ⟨h0, h1, h2⟩ := hc i hi
    exact ⟨(hb.cell (by exact hlt)).trans h0, (hb.cell (by exact hlt)).trans h1, (hb.cell (by exact hlt)).trans h2⟩

set_option maxHeartbeats 400000 in
theorem szShape_any (p : Int) (k : ByteArray) (c : Int) (left : Int) (w : World) (hs : k.size ≤ maxLen) (h0 : 0 ≤ left) (h1 : left ≤ 1048576) :
    Calls Tryz.prog 169 #[Sh p k c, .int .i64 left] w fun e w' => e = .returned (.int .i64 (if left < k.size then -1 else left - k.size)) ∧ Below w.heap.size w w' := by
  unfold maxLen at hs
  by_cases h : left < k.size
  · rw [if_pos h]
    go_enter Tryz.func169, Tryz.ntmps169
    go_wp2
    go_ret
    exact ⟨by simp, (Below.refl _ _).alloc (Nat.le_refl _) _⟩
  · rw [if_neg h]
    go_enter Tryz.func169, Tryz.ntmps169
    go_wp2
    go_ret
    exact ⟨by simp, (Below.refl _ _).alloc (Nat.le_refl _) _⟩

set_option maxHeartbeats 400000 in
theorem toShape_any (p : Int) (k : ByteArray) (c : Int) (w : World) :
    Calls Tryz.prog 172 #[Sh p k c] w fun e w' => e = .returned (Sh p k c) ∧ Below w.heap.size w w' := by
  go_enter Tryz.func172, Tryz.ntmps172
  go_wp2
  exact bodyPost_ret (v := Sh p k c) (by simp [results, Tryz.results172, go_sem]) rfl ⟨rfl, (((Below.refl _ _).alloc (Nat.le_refl _) _).alloc (by simp) _).alloc (by simp; omega) _⟩

set_option maxHeartbeats 1000000 in
theorem eqShape_any (p q : Int) (k l : ByteArray) (c d : Int) (w : World) :
    Calls Tryz.prog 181 #[Sh p k c, Sh q l d] w fun e w' => e = .returned (.bool (p == q && (k.toList == l.toList) && c == d)) ∧ Below w.heap.size w w' := by
  go_enter Tryz.func181, Tryz.ntmps181
  go_wp2
  all_goals (go_ret; refine ⟨by simp_all, ((Below.refl _ _).alloc (Nat.le_refl _) _).alloc (by simp) _⟩)

/-- What a row of shapes weighs at most. -/
def Light (n : Nat) (f : Nat → Shp) : Prop := n ≤ 1048576 ∧ ∀ i, i < n → (f i).key.size ≤ 1048576

set_option maxHeartbeats 1000000 in
theorem szShapeS_any (a : Option Addr) (n cap : Nat) (f : Nat → Shp) (w : World) (hA : ShAt w a n f) (hn : n ≤ maxLen) (hk : ∀ i, i < n → (f i).key.size ≤ maxLen) :
    Calls Tryz.prog 111 #[.slice a n cap, .int .i64 1048576] w fun e w' => (∃ r : Int, e = .returned (.int .i64 r) ∧ (r = -1 ∨ 0 ≤ r ∧ r ≤ 1048576 ∧ Light n f)) ∧ Below w.heap.size w w' := by
  unfold maxLen at hn
  by_cases h : (1048576 : Int) < n
  · go_enter Tryz.func111, Tryz.ntmps111
    go_wp2
    go_ret
    exact ⟨⟨-1, by simp, .inl rfl⟩, Below.refl _ _⟩
  rcases hA with rfl | ⟨b, off, rfl, hlt, hc⟩
  · go_enter Tryz.func111, Tryz.ntmps111
    go_wp2
    go_loopw [1, 5] (fun l i wr => i = .int .i64 0 ∧ l = .int .i64 1048576 ∧ wr = w) (fun _ i _ => 0)
    case atStart => simp
    case round =>
      obtain ⟨rfl, rfl, rfl⟩ := hrel
      go_wp2
      go_ret
      exact ⟨⟨1048576, by simp, .inr ⟨by omega, by omega, by omega, fun i hi => by omega⟩⟩, Below.refl _ _⟩
  have HC := hide hc
  have HK := hide hk
  clear hc hk
  go_enter Tryz.func111, Tryz.ntmps111
  go_wp2
  go_loopw [1, 5] (fun l i wr => ∃ (k : Nat) (left : Int), k ≤ n ∧ i = .int .i64 k ∧ l = .int .i64 left ∧ 0 ≤ left ∧ left ≤ 1048576 ∧ Below w.heap.size w wr ∧ ∀ j, j < k → (f j).key.size ≤ 1048576) (fun _ i _ => n - (intOf i).toNat)
  case atStart => exact ⟨0, 1048576 - n, by omega, rfl, by simp, by omega, by omega, Below.refl _ _, fun j hj => by omega⟩
  case round =>
    obtain ⟨k, left, hk, rfl, rfl, hl0, hl1, hb, hall⟩ := hrel
    have c0 : k < n → wr.cell? ⟨b, off + k * 3, none⟩ = some (.int .i64 (f k).parent) := fun h => (hb.cell (by exact hlt)).trans (unhide HC k h).1
    have c1 : k < n → wr.cell? ⟨b, off + k * 3 + 1, none⟩ = some (.string (f k).key) := fun h => (hb.cell (by exact hlt)).trans (unhide HC k h).2.1
    have c2 : k < n → wr.cell? ⟨b, off + k * 3 + 2, none⟩ = some (.int .i64 (f k).count) := fun h => (hb.cell (by exact hlt)).trans (unhide HC k h).2.2
    have HB := hide hb
    have HALL := hide hall
    clear hb hall
    go_wp2_with (go_at_call 169; refine (szShape_any (f k).parent (f k).key (f k).count left _ (unhide HK k (by omega)) (by omega) (by omega)).mono ?_; rintro e w1 ⟨rfl, hb1⟩)
    · have hb1' : Below w.heap.size w w1 := (unhide HB).trans (hb1.mono (unhide HB).size)
      go_ret
      exact ⟨⟨-1, by simp, .inl rfl⟩, hb1'⟩
    · have hlt : k < n := by assumption
      have hge : 0 ≤ if left < ((f k).key.size : Int) then -1 else left - ((f k).key.size : Int) := by assumption
      have hsz : ¬ left < ((f k).key.size : Int) := fun h => by rw [if_pos h] at hge; omega
      have hb1' : Below w.heap.size w w1 := (unhide HB).trans (hb1.mono (unhide HB).size)
      go_roundw
      case rel =>
        refine ⟨k + 1, left - (f k).key.size, by omega, by go_num, by rw [if_neg hsz], by omega, by omega, hb1', fun j hj => ?_⟩
        by_cases e : j = k
        · subst e; omega
        · exact (unhide HALL) j (by omega)
      case measure => simp [intOf]; omega
    · have : k = n := by omega
      subst this
      go_ret
      exact ⟨⟨left, by simp, .inr ⟨hl0, hl1, by omega, unhide HALL⟩⟩, unhide HB⟩
end Go.Proofs.YtfceeijdmilieaaGreatDoor
namespace Go.Proofs.YtfceeijdmilieaaGreatDoor
open Go.RowKit
set_option linter.unusedVariables false

/-- Cell j of a row of shapes. -/
def cellOf (f : Nat → Shp) (j : Nat) : Value :=
  if j % 3 = 0 then .int .i64 (f (j / 3)).parent else if j % 3 = 1 then .string (f (j / 3)).key else .int .i64 (f (j / 3)).count

theorem cellOf0 (f : Nat → Shp) (i : Nat) : cellOf f (i * 3) = .int .i64 (f i).parent := by
  have h1 : i * 3 % 3 = 0 := by omega
  have h2 : i * 3 / 3 = i := by omega
  simp [cellOf]
theorem cellOf1 (f : Nat → Shp) (i : Nat) : cellOf f (i * 3 + 1) = .string (f i).key := by
  have h1 : (i * 3 + 1) % 3 = 1 := by omega
  have h2 : (i * 3 + 1) / 3 = i := by omega
  simp [cellOf, h1, h2]
theorem cellOf2 (f : Nat → Shp) (i : Nat) : cellOf f (i * 3 + 2) = .int .i64 (f i).count := by
  have h1 : (i * 3 + 2) % 3 = 2 := by omega
  have h2 : (i * 3 + 2) / 3 = i := by omega
  simp [cellOf, h1, h2]

/-- n shapes in the first cells of block b. -/
def ShRow (w : World) (b n : Nat) (f : Nat → Shp) : Prop := ∃ (N : Nat) (g : Nat → Value), n * 3 ≤ N ∧ w.rowIs b 149 N g ∧ ∀ j, j < n * 3 → g j = cellOf f j

theorem ShRow.lt {w : World} {b n : Nat} {f : Nat → Shp} (h : ShRow w b n f) : b < w.heap.size := by obtain ⟨_, _, _, h, _⟩ := h; exact h.lt
theorem ShRow.cells {w : World} {b n : Nat} {f : Nat → Shp} (h : ShRow w b n f) {i : Nat} (hi : i < n) :
    w.cell? ⟨b, i * 3, none⟩ = some (.int .i64 (f i).parent) ∧ w.cell? ⟨b, i * 3 + 1, none⟩ = some (.string (f i).key) ∧ w.cell? ⟨b, i * 3 + 2, none⟩ = some (.int .i64 (f i).count) := by
  obtain ⟨N, g, hN, hr, hg⟩ := h
  exact ⟨by rw [hr.cell (by omega), hg _ (by omega), cellOf0], by rw [hr.cell (by omega), hg _ (by omega), cellOf1], by rw [hr.cell (by omega), hg _ (by omega), cellOf2]⟩
theorem ShRow.of_block {w w' : World} {b n : Nat} {f : Nat → Shp} (h : ShRow w b n f) (e : w'.heap[b]? = w.heap[b]?) : ShRow w' b n f := by
  obtain ⟨N, g, hN, hr, hg⟩ := h
  exact ⟨N, g, hN, hr.of_block e, hg⟩
theorem ShRow.below {w w' : World} {B b n : Nat} {f : Nat → Shp} (h : ShRow w b n f) (hb : Below B w w') (hB : b < B) : ShRow w' b n f := h.of_block (hb.block b hB)
theorem ShRow.alloc {w : World} {b n : Nat} {f : Nat → Shp} (h : ShRow w b n f) (o : Obj) : ShRow (w.alloc o) b n f := h.of_block (Deep.blk_alloc_lt _ _ _ h.lt)
theorem ShRow.setOther {w : World} {b n : Nat} {f : Nat → Shp} (h : ShRow w b n f) {a : Addr} (ha : b ≠ a.block) (v : Value) : ShRow (w.setCell a v) b n f := h.of_block (Deep.blk_setCell_other _ _ _ _ ha)
theorem ShRow.at {w : World} {b n : Nat} {f : Nat → Shp} (h : ShRow w b n f) : ShAt w (some ⟨b, 0, none⟩) n f :=
  .inr ⟨b, 0, rfl, h.lt, fun i hi => by simpa using h.cells hi⟩

theorem infoShape : (Tryz.prog.info? 149).map (fun i => (i.zero, i.size, i.bytes)) = some (some (Sh 0 ⟨#[]⟩ 0), 3, 32) := by kernel_rfl

theorem make_shapes (n : Nat) (hn : n ≤ 1048576) (w : World) :
    (Instr.makeSlice 23 (.int .i64 (n : Int)) (.int .i64 (n : Int))).run Tryz.prog w = .ok (.slice (some ⟨w.heap.size, 0, none⟩) n n) (w.alloc (.cells (madeCells (Sh 0 ⟨#[]⟩ 0).cells (n * 3)) 149)) := by
  obtain ⟨i, hi, hzz⟩ := Option.map_eq_some_iff.1 infoShape
  simp only [Prod.mk.injEq] at hzz
  obtain ⟨hz, hs, hb⟩ := hzz
  have := run_make (P := Tryz.prog) w 23 149 i _ Tryz.underlying23 hi hz .i64 .i64 n n (by omega) (Int.le_refl _) (by rw [hb]; omega) (by omega)
  simp only [Int.toNat_natCast, hs] at this
  exact this

theorem made_row (w : World) (m : Nat) : ∃ g, (w.alloc (.cells (madeCells (Sh 0 ⟨#[]⟩ 0).cells m) 149)).rowIs w.heap.size 149 m g := by
  have h := World.rowIs_alloc w (madeCells (Sh 0 ⟨#[]⟩ 0).cells m) 149 (fun i => ((madeCells (Sh 0 ⟨#[]⟩ 0).cells m)[i]?).getD undef) (fun i hi => by rw [Array.getElem?_eq_getElem hi]; rfl)
  rw [size_madeCells] at h
  exact ⟨_, h⟩

/-- One shape more stored. -/
theorem row_step {w : World} {b n k : Nat} {g : Nat → Value} {f : Nat → Shp} (h : w.rowIs b 149 (n * 3) g) (hall : ∀ j, j < k * 3 → g j = cellOf f j) :
    ∃ g', (((w.setCell ⟨b, k * 3, none⟩ (.int .i64 (f k).parent)).setCell ⟨b, k * 3 + 1, none⟩ (.string (f k).key)).setCell ⟨b, k * 3 + 2, none⟩ (.int .i64 (f k).count)).rowIs b 149 (n * 3) g' ∧ ∀ j, j < (k + 1) * 3 → g' j = cellOf f j := by
  refine ⟨_, ((h.set _ _).set _ _).set _ _, fun j hj => ?_⟩
  by_cases e2 : j = k * 3 + 2
  · subst e2; simp [cellOf2]
  · by_cases e1 : j = k * 3 + 1
    · subst e1; simp [cellOf1]
    · by_cases e0 : j = k * 3
      · subst e0; simp [cellOf0]
      · simp only [e0, e1, e2, if_false]
        exact hall j (by omega)

set_option maxHeartbeats 1000000 in
theorem toShapeS_any (a : Option Addr) (n cap : Nat) (f : Nat → Shp) (w : World) (hA : ShAt w a n f) (hn : n ≤ 1048576) :
    Calls Tryz.prog 116 #[.slice a n cap] w fun e w' => e = .returned (.slice (some ⟨w.heap.size, 0, none⟩) n n) ∧ Below w.heap.size w w' ∧ ShRow w' w.heap.size n f := by
  have hmk := make_shapes n hn
  obtain ⟨g0, hg0⟩ := made_row w (n * 3)
  have HG := hide hg0
  clear hg0
  rcases hA with hz | ⟨b, off, rfl, hlt, hc⟩
  · have HZ := hide hz
    clear hz
    go_enter Tryz.func116, Tryz.ntmps116
    go_wp2
    go_loopw [4] (fun i wr => i = .int .i64 0 ∧ wr = w.alloc (.cells (madeCells (Sh 0 ⟨#[]⟩ 0).cells (n * 3)) 149)) (fun _ _ => 0)
    case atStart => exact ⟨rfl, rfl⟩
    case round =>
      obtain ⟨rfl, rfl⟩ := hrel
      have hz' : ¬ 0 < n := by have := unhide HZ; omega
      go_wp2
      go_ret
      exact ⟨rfl, (Below.refl _ _).alloc (Nat.le_refl _) _, n * 3, _, Nat.le_refl _, unhide HG, fun i hi => by have := unhide HZ; omega⟩
  have HC := hide hc
  clear hc
  go_enter Tryz.func116, Tryz.ntmps116
  go_wp2
  go_loopw [4] (fun i wr => ∃ (k : Nat) (g : Nat → Value), k ≤ n ∧ i = .int .i64 k ∧ Below w.heap.size w wr ∧ wr.rowIs w.heap.size 149 (n * 3) g ∧ ∀ j, j < k * 3 → g j = cellOf f j) (fun i _ => n - (intOf i).toNat)
  case atStart => exact ⟨0, g0, by omega, rfl, (Below.refl _ _).alloc (Nat.le_refl _) _, unhide HG, fun j hj => by omega⟩
  case round =>
    obtain ⟨k, g, hk, rfl, hb, hrow, hall⟩ := hrel
    have c0 : k < n → wr.cell? ⟨b, off + k * 3, none⟩ = some (.int .i64 (f k).parent) := fun h => (hb.cell (by exact hlt)).trans (unhide HC k h).1
    have c1 : k < n → wr.cell? ⟨b, off + k * 3 + 1, none⟩ = some (.string (f k).key) := fun h => (hb.cell (by exact hlt)).trans (unhide HC k h).2.1
    have c2 : k < n → wr.cell? ⟨b, off + k * 3 + 2, none⟩ = some (.int .i64 (f k).count) := fun h => (hb.cell (by exact hlt)).trans (unhide HC k h).2.2
    have hrl := World.rowIs.lt hrow
    have HB := hide hb
    have HR := hide hrow
    have HALL := hide hall
    clear hb hall hrow
    go_wp2_with (go_at_call 172; refine (toShape_any (f k).parent (f k).key (f k).count _).mono ?_; rintro e w1 ⟨rfl, hb1⟩; have hrow1 := World.rowIs.of_block (unhide HR) (hb1.block _ hrl); have d0 := hrow1.cell (i := k * 3) (by omega); have d1 := hrow1.cell (i := k * 3 + 1) (by omega); have d2 := hrow1.cell (i := k * 3 + 2) (by omega); have e0 := hrow1.frozen (k * 3); have e1 := hrow1.frozen (k * 3 + 1); have e2 := hrow1.frozen (k * 3 + 2); have HR1 := hide hrow1; clear hrow1)
    · have hb1' : Below w.heap.size w w1 := (unhide HB).trans (hb1.mono (unhide HB).size)
      obtain ⟨g', hg', hall'⟩ := row_step (f := f) (unhide HR1) (unhide HALL)
      go_roundw
      case rel => exact ⟨k + 1, g', by omega, by go_num, ((hb1'.setCell (by exact Nat.le_refl _) _).setCell (by exact Nat.le_refl _) _).setCell (by exact Nat.le_refl _) _, hg', hall'⟩
      case measure => simp [intOf]; omega
    · have : k = n := by omega
      subst this
      go_ret
      exact ⟨rfl, unhide HB, _, _, Nat.le_refl _, unhide HR, unhide HALL⟩

set_option maxHeartbeats 1000000 in
theorem toForest_any (a : Option Addr) (n cap : Nat) (f : Nat → Shp) (w : World) (hA : ShAt w a n f) (hn : n ≤ 1048576) :
    Calls Tryz.prog 54 #[.agg #[.slice a n cap]] w fun e w' => (∃ m, e = .returned (.agg #[.slice (some ⟨m, 0, none⟩) n n]) ∧ w.heap.size ≤ m ∧ ShRow w' m n f) ∧ Below w.heap.size w w' := by
  have HA := hide hA
  clear hA
  go_enter Tryz.func54, Tryz.ntmps54
  go_wp2_with (go_at_call 116; refine (toShapeS_any a n cap f _ ((unhide HA).below (((Below.refl w.heap.size w).alloc (Nat.le_refl _) _ |>.alloc (by simp) _).alloc (by simp; omega) _) rfl) hn).mono ?_; rintro e w1 ⟨rfl, hb1, hr1⟩; obtain ⟨hc1, hf1⟩ := bcell hb1; have HB1 := hide hb1; have HR1 := hide hr1; clear hb1 hr1)
  have hb : Below w.heap.size w w1 := (((Below.refl w.heap.size w).alloc (Nat.le_refl _) _ |>.alloc (by simp) _).alloc (by simp; omega) _).trans ((unhide HB1).mono (by simp; omega))
  have hr : ShRow w1 (w.heap.size + 1 + 1 + 1) n f := by simpa using unhide HR1
  have hx : w1.cell? ⟨w.heap.size + 1, 0, none⟩ = some (.slice none 0 0) := by rw [hc1 _ _ (by simp)]; simp [go_sem]
  clear hc1 hf1
  refine bodyPost_ret (v := .agg #[.slice (some ⟨w.heap.size + 1 + 1 + 1, 0, none⟩) n n]) (by simp [results, Tryz.results54, go_sem, hx]) rfl ⟨⟨_, rfl, by omega, ?_⟩, ?_⟩
  · exact ShRow.setOther (ShRow.setOther hr (by simp) _) (by simp; omega) _
  · exact (hb.setCell (by show _ ≤ w.heap.size + 1 + 1; omega) _).setCell (by show _ ≤ w.heap.size + 1; omega) _

set_option maxHeartbeats 1000000 in
theorem szForest_any (a : Option Addr) (n cap : Nat) (f : Nat → Shp) (w : World) (hA : ShAt w a n f) (hn : n ≤ maxLen) (hk : ∀ i, i < n → (f i).key.size ≤ maxLen) :
    Calls Tryz.prog 50 #[.agg #[.slice a n cap], .int .i64 1048576] w fun e w' => (∃ r : Int, e = .returned (.int .i64 r) ∧ (r = -1 ∨ 0 ≤ r ∧ r ≤ 1048576 ∧ Light n f)) ∧ Below w.heap.size w w' := by
  have HA := hide hA
  have HK := hide hk
  clear hA hk
  go_enter Tryz.func50, Tryz.ntmps50
  go_wp2_with (go_at_call 111; refine (szShapeS_any a n cap f _ ((unhide HA).below ((Below.refl w.heap.size w).alloc (Nat.le_refl _) _) rfl) hn (unhide HK)).mono ?_; rintro e w1 ⟨⟨r, rfl, hr⟩, hb1⟩; have HR := hide hr; have HB := hide hb1; clear hr hb1)
  all_goals (have hb : Below w.heap.size w w1 := ((Below.refl w.heap.size w).alloc (Nat.le_refl _) _).trans ((unhide HB).mono (by simp)); go_ret)
  · exact ⟨⟨-1, by simp, .inl rfl⟩, hb⟩
  · refine ⟨⟨r, by simp, ?_⟩, hb⟩
    rcases unhide HR with rfl | h
    · simp_all
    · exact .inr h

/-- Two rows of shapes, the same. -/
def same3 (n : Nat) (f g : Nat → Shp) : Prop := ∀ i, i < n → (f i).parent = (g i).parent ∧ (f i).key.toList = (g i).key.toList ∧ (f i).count = (g i).count

set_option maxHeartbeats 1000000 in
theorem eqShapeS_same (b b' n cap cap' : Nat) (f g : Nat → Shp) (w : World) (hA : ShRow w b n f) (hB : ShRow w b' n g) (hn : n ≤ 1048576) (hs : same3 n f g) :
    Calls Tryz.prog 122 #[.slice (some ⟨b, 0, none⟩) n cap, .slice (some ⟨b', 0, none⟩) n cap'] w fun e w' => e = .returned (.bool true) ∧ Below w.heap.size w w' := by
  have hl := hA.lt
  have hl' := hB.lt
  have HA := hide hA
  have HB := hide hB
  have HS := hide hs
  clear hA hB hs
  go_enter Tryz.func122, Tryz.ntmps122
  go_wp2
  go_loopw [5] (fun i wr => ∃ (k : Nat), k ≤ n ∧ i = .int .i64 k ∧ Below w.heap.size w wr) (fun i _ => n - (intOf i).toNat)
  case atStart => exact ⟨0, by omega, rfl, Below.refl _ _⟩
  case round =>
    obtain ⟨k, hk, rfl, hb⟩ := hrel
    go_wp2
    · have hlt : k < n := by assumption
      obtain ⟨c0, c1, c2⟩ := ((unhide HA).below hb hl).cells hlt
      obtain ⟨d0, d1, d2⟩ := ((unhide HB).below hb hl').cells hlt
      have hx : b < wr.heap.size := Nat.lt_of_lt_of_le hl hb.size
      have hx' : b' < wr.heap.size := Nat.lt_of_lt_of_le hl' hb.size
      have HBW := hide hb
      clear hb
      refine wp_region_quiet (C := fun w' => Below wr.heap.size wr w') (by kernel_rfl) (by kernel_rfl) ((Below.refl _ _).drew) ?_
      show wpQuiet _ _ _ _ [_, _, _, _, _, _, _, _, _, _] _
      refine wpQuiet_step (fun K hK => ?_)
      go_simp
      refine ⟨_, fun w' hw' => rfl, hK _ ?_⟩
      clear hK K
      refine wpQuiet_step (fun K hK => ?_)
      go_simp
      refine ⟨_, fun w' hw' => rfl, hK _ ?_⟩
      clear hK K
      refine wpQuiet_step (fun K hK => ?_)
      go_simp
      refine ⟨_, fun w' hw' => rfl, hK _ ?_⟩
      clear hK K
      refine wpQuiet_step (fun K hK => ?_)
      go_simp
      apply Exists.intro
      refine And.intro (fun w' hw' => ?_) (hK _ ?_)
      · obtain ⟨hc', hf'⟩ := bcell hw'
        go_simp
        first | rfl | exact ⟨rfl, rfl⟩ | exact ⟨rfl⟩
      clear hK K
      refine wpQuiet_step (fun K hK => ?_)
      go_simp
      refine ⟨_, fun w' hw' => rfl, hK _ ?_⟩
      clear hK K
      refine wpQuiet_step (fun K hK => ?_)
      go_simp
      refine ⟨_, fun w' hw' => rfl, hK _ ?_⟩
      clear hK K
      refine wpQuiet_step (fun K hK => ?_)
      go_simp
      refine ⟨_, fun w' hw' => rfl, hK _ ?_⟩
      clear hK K
      refine wpQuiet_step (fun K hK => ?_)
      go_simp
      apply Exists.intro
      refine And.intro (fun w' hw' => ?_) (hK _ ?_)
      · obtain ⟨hc', hf'⟩ := bcell hw'
        go_simp
        first | rfl | exact ⟨rfl, rfl⟩ | exact ⟨rfl⟩
      clear hK K
      refine wpQuiet_step (fun K hK => ?_)
      go_simp
      apply Exists.intro
      refine And.intro (fun w' hw' => ?_) (hK _ ?_)
      · refine (eqShape_any (f k).parent (g k).parent (f k).key (g k).key (f k).count (g k).count _).mono ?_
        rintro e w'' ⟨rfl, hb⟩
        exact ⟨rfl, hw'.trans (hb.mono hw'.size)⟩
      clear hK K
      refine wpQuiet_step (fun K hK => ?_)
      go_simp
      refine ⟨_, fun w' hw' => rfl, hK _ ?_⟩
      clear hK K
      refine wpQuiet_nil ?_
      intro w2 hw2
      have hb2 : Below w.heap.size w w2 := (unhide HBW).trans (hw2.mono (unhide HBW).size)
      obtain ⟨s0, s1, s2⟩ := unhide HS k hlt
      have HB2 := hide hb2
      clear hw2 hb2 c0 c1 c2 d0 d1 d2
      rw [s0, s1, s2]
      simp only [beq_self_eq_true, Bool.and_self]
      go_wp2
      go_roundw
      case rel => exact ⟨k + 1, by omega, by go_num, unhide HB2⟩
      case measure => simp [intOf]; omega
    · have : k = n := by omega
      subst this
      go_ret
      exact ⟨rfl, hb⟩

set_option maxHeartbeats 1000000 in
theorem eqForest_same (b b' n cap cap' : Nat) (f g : Nat → Shp) (w : World) (hA : ShRow w b n f) (hB : ShRow w b' n g) (hn : n ≤ 1048576) (hs : same3 n f g) :
    Calls Tryz.prog 59 #[.agg #[.slice (some ⟨b, 0, none⟩) n cap], .agg #[.slice (some ⟨b', 0, none⟩) n cap']] w fun e w' => e = .returned (.bool true) ∧ Below w.heap.size w w' := by
  have hl := hA.lt
  have hl' := hB.lt
  have HA := hide hA
  have HB := hide hB
  have HS := hide hs
  clear hA hB hs
  go_enter Tryz.func59, Tryz.ntmps59
  go_wp2_with fail
  have hb0 : Below w.heap.size w ((w.alloc (.cells #[.slice (some ⟨b, 0, none⟩) n cap] 25)).alloc (.cells #[.slice (some ⟨b', 0, none⟩) n cap'] 25)) := ((Below.refl _ _).alloc (Nat.le_refl _) _).alloc (by simp) _
  refine (eqShapeS_same b b' n cap cap' f g _ ((unhide HA).below hb0 hl) ((unhide HB).below hb0 hl') hn (unhide HS)).mono ?_
  rintro e w1 ⟨rfl, hb1⟩
  have HB1 := hide (hb0.trans (hb1.mono hb0.size))
  clear hb0 hb1
  go_wp2
  go_ret
  exact ⟨rfl, unhide HB1⟩
end Go.Proofs.YtfceeijdmilieaaGreatDoor
