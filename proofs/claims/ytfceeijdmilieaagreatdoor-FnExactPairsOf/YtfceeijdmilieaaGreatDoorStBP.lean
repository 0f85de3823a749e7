/-
  StB.
-/
import Derived.Test.YtfceeijdmilieaaGreatDoorStAP
import Derived.Test.YtfceeijdmilieaaGreatDoorBq16
namespace Go.Proofs.YtfceeijdmilieaaGreatDoor
open Go.RowKit
set_option linter.unusedVariables false
attribute [local go_sem] run_store_float run_equalIn_float

theorem set5V_other {w : World} {b o q : Nat} (p : Vl) (h : q < o ∨ o + 5 ≤ q) : (((((w.setCell ⟨b, o, none⟩ (.int .i64 p.kind)).setCell ⟨b, o + 1, none⟩ (.int .i64 p.num)).setCell ⟨b, o + 2, none⟩ (.float .f64 p.flt)).setCell ⟨b, o + 3, none⟩ (.string p.str)).setCell ⟨b, o + 4, none⟩ (.int .i64 p.ref)).cell? ⟨b, q, none⟩ = w.cell? ⟨b, q, none⟩ := by
  exact (cell_set_other (by omega)).trans ((cell_set_other (by omega)).trans ((cell_set_other (by omega)).trans ((cell_set_other (by omega)).trans (cell_set_other (by omega)))))
theorem set5V_block {w : World} {b b' o q : Nat} (p : Vl) (h : b ≠ b') : (((((w.setCell ⟨b, o, none⟩ (.int .i64 p.kind)).setCell ⟨b, o + 1, none⟩ (.int .i64 p.num)).setCell ⟨b, o + 2, none⟩ (.float .f64 p.flt)).setCell ⟨b, o + 3, none⟩ (.string p.str)).setCell ⟨b, o + 4, none⟩ (.int .i64 p.ref)).cell? ⟨b', q, none⟩ = w.cell? ⟨b', q, none⟩ := by
  exact (cell_set_block h).trans ((cell_set_block h).trans ((cell_set_block h).trans ((cell_set_block h).trans (cell_set_block h))))
theorem set5V_heap {w : World} {b b' o : Nat} (p : Vl) (h : b' ≠ b) : (((((w.setCell ⟨b, o, none⟩ (.int .i64 p.kind)).setCell ⟨b, o + 1, none⟩ (.int .i64 p.num)).setCell ⟨b, o + 2, none⟩ (.float .f64 p.flt)).setCell ⟨b, o + 3, none⟩ (.string p.str)).setCell ⟨b, o + 4, none⟩ (.int .i64 p.ref)).heap[b']? = w.heap[b']? := by
  exact (Deep.blk_setCell_other _ _ _ _ (by exact h)).trans ((Deep.blk_setCell_other _ _ _ _ (by exact h)).trans ((Deep.blk_setCell_other _ _ _ _ (by exact h)).trans ((Deep.blk_setCell_other _ _ _ _ (by exact h)).trans (Deep.blk_setCell_other _ _ _ _ (by exact h)))))
theorem set5V_row {w : World} {b o N : Nat} {ty : TypeId} {g : Nat → Value} (p : Vl) (h : w.rowIs b ty N g) (ho : o + 5 ≤ N) : (∃ g', (((((w.setCell ⟨b, o, none⟩ (.int .i64 p.kind)).setCell ⟨b, o + 1, none⟩ (.int .i64 p.num)).setCell ⟨b, o + 2, none⟩ (.float .f64 p.flt)).setCell ⟨b, o + 3, none⟩ (.string p.str)).setCell ⟨b, o + 4, none⟩ (.int .i64 p.ref)).rowIs b ty N g') ∧ VCell (((((w.setCell ⟨b, o, none⟩ (.int .i64 p.kind)).setCell ⟨b, o + 1, none⟩ (.int .i64 p.num)).setCell ⟨b, o + 2, none⟩ (.float .f64 p.flt)).setCell ⟨b, o + 3, none⟩ (.string p.str)).setCell ⟨b, o + 4, none⟩ (.int .i64 p.ref)) b o p := by
  have hr := (((((h.set (o) (.int .i64 p.kind)).set (o + 1) (.int .i64 p.num)).set (o + 2) (.float .f64 p.flt)).set (o + 3) (.string p.str)).set (o + 4) (.int .i64 p.ref))
  refine ⟨⟨_, hr⟩, ?_⟩
  constructor
  all_goals (rw [hr.cell (by omega)]; simp)
theorem set5S_other {w : World} {b o q : Nat} (p : Si) (h : q < o ∨ o + 5 ≤ q) : (((((w.setCell ⟨b, o, none⟩ (.string p.key)).setCell ⟨b, o + 1, none⟩ (.int .i64 p.shape)).setCell ⟨b, o + 2, none⟩ (.int .i64 p.place)).setCell ⟨b, o + 3, none⟩ (.int .i64 p.hits)).setCell ⟨b, o + 4, none⟩ (.int .i64 p.misses)).cell? ⟨b, q, none⟩ = w.cell? ⟨b, q, none⟩ := by
  exact (cell_set_other (by omega)).trans ((cell_set_other (by omega)).trans ((cell_set_other (by omega)).trans ((cell_set_other (by omega)).trans (cell_set_other (by omega)))))
theorem set5S_block {w : World} {b b' o q : Nat} (p : Si) (h : b ≠ b') : (((((w.setCell ⟨b, o, none⟩ (.string p.key)).setCell ⟨b, o + 1, none⟩ (.int .i64 p.shape)).setCell ⟨b, o + 2, none⟩ (.int .i64 p.place)).setCell ⟨b, o + 3, none⟩ (.int .i64 p.hits)).setCell ⟨b, o + 4, none⟩ (.int .i64 p.misses)).cell? ⟨b', q, none⟩ = w.cell? ⟨b', q, none⟩ := by
  exact (cell_set_block h).trans ((cell_set_block h).trans ((cell_set_block h).trans ((cell_set_block h).trans (cell_set_block h))))
theorem set5S_heap {w : World} {b b' o : Nat} (p : Si) (h : b' ≠ b) : (((((w.setCell ⟨b, o, none⟩ (.string p.key)).setCell ⟨b, o + 1, none⟩ (.int .i64 p.shape)).setCell ⟨b, o + 2, none⟩ (.int .i64 p.place)).setCell ⟨b, o + 3, none⟩ (.int .i64 p.hits)).setCell ⟨b, o + 4, none⟩ (.int .i64 p.misses)).heap[b']? = w.heap[b']? := by
  exact (Deep.blk_setCell_other _ _ _ _ (by exact h)).trans ((Deep.blk_setCell_other _ _ _ _ (by exact h)).trans ((Deep.blk_setCell_other _ _ _ _ (by exact h)).trans ((Deep.blk_setCell_other _ _ _ _ (by exact h)).trans (Deep.blk_setCell_other _ _ _ _ (by exact h)))))
theorem set5S_row {w : World} {b o N : Nat} {ty : TypeId} {g : Nat → Value} (p : Si) (h : w.rowIs b ty N g) (ho : o + 5 ≤ N) : (∃ g', (((((w.setCell ⟨b, o, none⟩ (.string p.key)).setCell ⟨b, o + 1, none⟩ (.int .i64 p.shape)).setCell ⟨b, o + 2, none⟩ (.int .i64 p.place)).setCell ⟨b, o + 3, none⟩ (.int .i64 p.hits)).setCell ⟨b, o + 4, none⟩ (.int .i64 p.misses)).rowIs b ty N g') ∧ SCl (((((w.setCell ⟨b, o, none⟩ (.string p.key)).setCell ⟨b, o + 1, none⟩ (.int .i64 p.shape)).setCell ⟨b, o + 2, none⟩ (.int .i64 p.place)).setCell ⟨b, o + 3, none⟩ (.int .i64 p.hits)).setCell ⟨b, o + 4, none⟩ (.int .i64 p.misses)) b o p := by
  have hr := (((((h.set (o) (.string p.key)).set (o + 1) (.int .i64 p.shape)).set (o + 2) (.int .i64 p.place)).set (o + 3) (.int .i64 p.hits)).set (o + 4) (.int .i64 p.misses))
  refine ⟨⟨_, hr⟩, ?_⟩
  constructor
  all_goals (rw [hr.cell (by omega)]; simp)
theorem set8T_other {w : World} {b o q : Nat} (va : Option Addr) (vc : Nat) (la : Option Addr) (lc : Nat) (ia : Option Addr) (ic : Nat) (xa : Option Addr) (xc : Nat) (t : Tb) (h : q < o ∨ o + 8 ≤ q) : ((((((((w.setCell ⟨b, o, none⟩ (.int .i64 t.shape)).setCell ⟨b, o + 1, none⟩ (.slice va t.nv vc)).setCell ⟨b, o + 2, none⟩ (.slice la t.d.n lc)).setCell ⟨b, o + 3, none⟩ (.slice ia t.d.m ic)).setCell ⟨b, o + 4, none⟩ (.slice xa t.d.x xc)).setCell ⟨b, o + 5, none⟩ (.int .i64 t.d.used)).setCell ⟨b, o + 6, none⟩ (.int .i64 t.d.live)).setCell ⟨b, o + 7, none⟩ (.int .i64 t.d.turns)).cell? ⟨b, q, none⟩ = w.cell? ⟨b, q, none⟩ := by
  exact (cell_set_other (by omega)).trans ((cell_set_other (by omega)).trans ((cell_set_other (by omega)).trans ((cell_set_other (by omega)).trans ((cell_set_other (by omega)).trans ((cell_set_other (by omega)).trans ((cell_set_other (by omega)).trans (cell_set_other (by omega))))))))
theorem set8T_block {w : World} {b b' o q : Nat} (va : Option Addr) (vc : Nat) (la : Option Addr) (lc : Nat) (ia : Option Addr) (ic : Nat) (xa : Option Addr) (xc : Nat) (t : Tb) (h : b ≠ b') : ((((((((w.setCell ⟨b, o, none⟩ (.int .i64 t.shape)).setCell ⟨b, o + 1, none⟩ (.slice va t.nv vc)).setCell ⟨b, o + 2, none⟩ (.slice la t.d.n lc)).setCell ⟨b, o + 3, none⟩ (.slice ia t.d.m ic)).setCell ⟨b, o + 4, none⟩ (.slice xa t.d.x xc)).setCell ⟨b, o + 5, none⟩ (.int .i64 t.d.used)).setCell ⟨b, o + 6, none⟩ (.int .i64 t.d.live)).setCell ⟨b, o + 7, none⟩ (.int .i64 t.d.turns)).cell? ⟨b', q, none⟩ = w.cell? ⟨b', q, none⟩ := by
  exact (cell_set_block h).trans ((cell_set_block h).trans ((cell_set_block h).trans ((cell_set_block h).trans ((cell_set_block h).trans ((cell_set_block h).trans ((cell_set_block h).trans (cell_set_block h)))))))
theorem set8T_heap {w : World} {b b' o : Nat} (va : Option Addr) (vc : Nat) (la : Option Addr) (lc : Nat) (ia : Option Addr) (ic : Nat) (xa : Option Addr) (xc : Nat) (t : Tb) (h : b' ≠ b) : ((((((((w.setCell ⟨b, o, none⟩ (.int .i64 t.shape)).setCell ⟨b, o + 1, none⟩ (.slice va t.nv vc)).setCell ⟨b, o + 2, none⟩ (.slice la t.d.n lc)).setCell ⟨b, o + 3, none⟩ (.slice ia t.d.m ic)).setCell ⟨b, o + 4, none⟩ (.slice xa t.d.x xc)).setCell ⟨b, o + 5, none⟩ (.int .i64 t.d.used)).setCell ⟨b, o + 6, none⟩ (.int .i64 t.d.live)).setCell ⟨b, o + 7, none⟩ (.int .i64 t.d.turns)).heap[b']? = w.heap[b']? := by
  exact (Deep.blk_setCell_other _ _ _ _ (by exact h)).trans ((Deep.blk_setCell_other _ _ _ _ (by exact h)).trans ((Deep.blk_setCell_other _ _ _ _ (by exact h)).trans ((Deep.blk_setCell_other _ _ _ _ (by exact h)).trans ((Deep.blk_setCell_other _ _ _ _ (by exact h)).trans ((Deep.blk_setCell_other _ _ _ _ (by exact h)).trans ((Deep.blk_setCell_other _ _ _ _ (by exact h)).trans (Deep.blk_setCell_other _ _ _ _ (by exact h))))))))
theorem set8T_row {w : World} {b o N : Nat} {ty : TypeId} {g : Nat → Value} (va : Option Addr) (vc : Nat) (la : Option Addr) (lc : Nat) (ia : Option Addr) (ic : Nat) (xa : Option Addr) (xc : Nat) (t : Tb) (h : w.rowIs b ty N g) (ho : o + 8 ≤ N) : (∃ g', ((((((((w.setCell ⟨b, o, none⟩ (.int .i64 t.shape)).setCell ⟨b, o + 1, none⟩ (.slice va t.nv vc)).setCell ⟨b, o + 2, none⟩ (.slice la t.d.n lc)).setCell ⟨b, o + 3, none⟩ (.slice ia t.d.m ic)).setCell ⟨b, o + 4, none⟩ (.slice xa t.d.x xc)).setCell ⟨b, o + 5, none⟩ (.int .i64 t.d.used)).setCell ⟨b, o + 6, none⟩ (.int .i64 t.d.live)).setCell ⟨b, o + 7, none⟩ (.int .i64 t.d.turns)).rowIs b ty N g') ∧ TCell ((((((((w.setCell ⟨b, o, none⟩ (.int .i64 t.shape)).setCell ⟨b, o + 1, none⟩ (.slice va t.nv vc)).setCell ⟨b, o + 2, none⟩ (.slice la t.d.n lc)).setCell ⟨b, o + 3, none⟩ (.slice ia t.d.m ic)).setCell ⟨b, o + 4, none⟩ (.slice xa t.d.x xc)).setCell ⟨b, o + 5, none⟩ (.int .i64 t.d.used)).setCell ⟨b, o + 6, none⟩ (.int .i64 t.d.live)).setCell ⟨b, o + 7, none⟩ (.int .i64 t.d.turns)) b o va vc la lc ia ic xa xc t := by
  have hr := ((((((((h.set (o) (.int .i64 t.shape)).set (o + 1) (.slice va t.nv vc)).set (o + 2) (.slice la t.d.n lc)).set (o + 3) (.slice ia t.d.m ic)).set (o + 4) (.slice xa t.d.x xc)).set (o + 5) (.int .i64 t.d.used)).set (o + 6) (.int .i64 t.d.live)).set (o + 7) (.int .i64 t.d.turns))
  refine ⟨⟨_, hr⟩, ?_⟩
  constructor
  all_goals (rw [hr.cell (by omega)]; simp)

theorem infoValue : (Tryz.prog.info? 32).map (fun i => (i.zero, i.size, i.bytes)) = some (some (V 0 0 0 ⟨#[]⟩ 0), 5, 48) := by kernel_rfl
theorem make_Value (n : Nat) (hn : n ≤ 1048576) (w : World) :
    (Instr.makeSlice 88 (.int .i64 (n : Int)) (.int .i64 (n : Int))).run Tryz.prog w = .ok (.slice (some ⟨w.heap.size, 0, none⟩) n n) (w.alloc (.cells (madeCells ((V 0 0 0 ⟨#[]⟩ 0) : Value).cells (n * 5)) 32)) := by
  obtain ⟨i, hi, hz, hs, hb⟩ := info_parts infoValue
  have := run_make (P := Tryz.prog) w 88 32 i _ Tryz.underlying88 hi hz .i64 .i64 n n (by omega) (Int.le_refl _) (by rw [hb]; omega) (by omega)
  simp only [Int.toNat_natCast, hs] at this
  exact this
theorem made_Value (w : World) (m : Nat) : ∃ g, (w.alloc (.cells (madeCells ((V 0 0 0 ⟨#[]⟩ 0) : Value).cells m) 32)).rowIs w.heap.size 32 m g := by
  have h := World.rowIs_alloc w (madeCells ((V 0 0 0 ⟨#[]⟩ 0) : Value).cells m) 32 (fun i => ((madeCells ((V 0 0 0 ⟨#[]⟩ 0) : Value).cells m)[i]?).getD undef) (fun i hi => by rw [Array.getElem?_eq_getElem hi]; rfl)
  rw [size_madeCells] at h
  exact ⟨_, h⟩

theorem infoSite : (Tryz.prog.info? 80).map (fun i => (i.zero, i.size, i.bytes)) = some (some (.agg #[.string ⟨#[]⟩, .int .i64 0, .int .i64 0, .int .i64 0, .int .i64 0]), 5, 48) := by kernel_rfl
theorem make_Site (n : Nat) (hn : n ≤ 1048576) (w : World) :
    (Instr.makeSlice 27 (.int .i64 (n : Int)) (.int .i64 (n : Int))).run Tryz.prog w = .ok (.slice (some ⟨w.heap.size, 0, none⟩) n n) (w.alloc (.cells (madeCells ((.agg #[.string ⟨#[]⟩, .int .i64 0, .int .i64 0, .int .i64 0, .int .i64 0]) : Value).cells (n * 5)) 80)) := by
  obtain ⟨i, hi, hz, hs, hb⟩ := info_parts infoSite
  have := run_make (P := Tryz.prog) w 27 80 i _ Tryz.underlying27 hi hz .i64 .i64 n n (by omega) (Int.le_refl _) (by rw [hb]; omega) (by omega)
  simp only [Int.toNat_natCast, hs] at this
  exact this
theorem made_Site (w : World) (m : Nat) : ∃ g, (w.alloc (.cells (madeCells ((.agg #[.string ⟨#[]⟩, .int .i64 0, .int .i64 0, .int .i64 0, .int .i64 0]) : Value).cells m) 80)).rowIs w.heap.size 80 m g := by
  have h := World.rowIs_alloc w (madeCells ((.agg #[.string ⟨#[]⟩, .int .i64 0, .int .i64 0, .int .i64 0, .int .i64 0]) : Value).cells m) 80 (fun i => ((madeCells ((.agg #[.string ⟨#[]⟩, .int .i64 0, .int .i64 0, .int .i64 0, .int .i64 0]) : Value).cells m)[i]?).getD undef) (fun i hi => by rw [Array.getElem?_eq_getElem hi]; rfl)
  rw [size_madeCells] at h
  exact ⟨_, h⟩

theorem infoTable : (Tryz.prog.info? 93).map (fun i => (i.zero, i.size, i.bytes)) = some (some (.agg #[.int .i64 0, .slice none 0 0, .slice none 0 0, .slice none 0 0, .slice none 0 0, .int .i64 0, .int .i64 0, .int .i64 0]), 8, 128) := by kernel_rfl
theorem make_Table (n : Nat) (hn : n ≤ 1048576) (w : World) :
    (Instr.makeSlice 26 (.int .i64 (n : Int)) (.int .i64 (n : Int))).run Tryz.prog w = .ok (.slice (some ⟨w.heap.size, 0, none⟩) n n) (w.alloc (.cells (madeCells ((.agg #[.int .i64 0, .slice none 0 0, .slice none 0 0, .slice none 0 0, .slice none 0 0, .int .i64 0, .int .i64 0, .int .i64 0]) : Value).cells (n * 8)) 93)) := by
  obtain ⟨i, hi, hz, hs, hb⟩ := info_parts infoTable
  have := run_make (P := Tryz.prog) w 26 93 i _ Tryz.underlying26 hi hz .i64 .i64 n n (by omega) (Int.le_refl _) (by rw [hb]; omega) (by omega)
  simp only [Int.toNat_natCast, hs] at this
  exact this
theorem made_Table (w : World) (m : Nat) : ∃ g, (w.alloc (.cells (madeCells ((.agg #[.int .i64 0, .slice none 0 0, .slice none 0 0, .slice none 0 0, .slice none 0 0, .int .i64 0, .int .i64 0, .int .i64 0]) : Value).cells m) 93)).rowIs w.heap.size 93 m g := by
  have h := World.rowIs_alloc w (madeCells ((.agg #[.int .i64 0, .slice none 0 0, .slice none 0 0, .slice none 0 0, .slice none 0 0, .int .i64 0, .int .i64 0, .int .i64 0]) : Value).cells m) 93 (fun i => ((madeCells ((.agg #[.int .i64 0, .slice none 0 0, .slice none 0 0, .slice none 0 0, .slice none 0 0, .int .i64 0, .int .i64 0, .int .i64 0]) : Value).cells m)[i]?).getD undef) (fun i hi => by rw [Array.getElem?_eq_getElem hi]; rfl)
  rw [size_madeCells] at h
  exact ⟨_, h⟩

/-- Rows that fill a block. -/
def VRow (w : World) (b n : Nat) (f : Nat → Vl) : Prop := (∃ g, w.rowIs b 32 (n * 5) g) ∧ ∀ i, i < n → VCell w b (i * 5) (f i)
def SRow (w : World) (b n : Nat) (f : Nat → Si) : Prop := (∃ g, w.rowIs b 80 (n * 5) g) ∧ ∀ i, i < n → SCl w b (i * 5) (f i)
theorem VRow.of_block {w w' : World} {b n : Nat} {f : Nat → Vl} (h : VRow w b n f) (e : w'.heap[b]? = w.heap[b]?) : VRow w' b n f :=
  ⟨h.1.imp fun g r => World.rowIs.of_block r e, fun i hi => (h.2 i hi).keep (fun q => World.cell?_of_block e)⟩
theorem SRow.of_block {w w' : World} {b n : Nat} {f : Nat → Si} (h : SRow w b n f) (e : w'.heap[b]? = w.heap[b]?) : SRow w' b n f :=
  ⟨h.1.imp fun g r => World.rowIs.of_block r e, fun i hi => (h.2 i hi).keep (fun q => World.cell?_of_block e)⟩
theorem VRow.lt {w : World} {b n : Nat} {f : Nat → Vl} (h : VRow w b n f) : b < w.heap.size := by obtain ⟨⟨g, r⟩, _⟩ := h; exact World.rowIs.lt r
theorem SRow.lt {w : World} {b n : Nat} {f : Nat → Si} (h : SRow w b n f) : b < w.heap.size := by obtain ⟨⟨g, r⟩, _⟩ := h; exact World.rowIs.lt r
theorem VRow.at {w : World} {b n : Nat} {f : Nat → Vl} (h : VRow w b n f) : VAt w (some ⟨b, 0, none⟩) n f := .inr ⟨b, 0, rfl, h.lt, fun i hi => by rw [Nat.zero_add]; exact h.2 i hi⟩
theorem SRow.at {w : World} {b n : Nat} {f : Nat → Si} (h : SRow w b n f) : SiAt w (some ⟨b, 0, none⟩) n f := .inr ⟨b, 0, rfl, h.lt, fun i hi => by rw [Nat.zero_add]; exact h.2 i hi⟩

set_option maxRecDepth 100000 in
set_option maxHeartbeats 2000000 in
theorem toValueS_row (a : Option Addr) (n cap : Nat) (f : Nat → Vl) (w : World) (hA : VAt w a n f) (hn : n ≤ 1048576) :
    Calls Tryz.prog 173 #[.slice a n cap] w fun e w' => (e = .returned (.slice (some ⟨w.heap.size, 0, none⟩) n n) ∧ VRow w' w.heap.size n f) ∧ Below w.heap.size w w' := by
  have hmk := make_Value n hn
  have HG := hide (made_Value w (n * 5))
  have HA := hide hA
  clear hA
  go_enter Tryz.func173, Tryz.ntmps173
  go_wp2
  clear hmk
  go_loopw [4] (fun i wr => ∃ (k : Nat), k ≤ n ∧ i = .int .i64 k ∧ Below w.heap.size w wr ∧ (∃ g, wr.rowIs w.heap.size 32 (n * 5) g) ∧ ∀ j, j < k → VCell wr w.heap.size (j * 5) (f j)) (fun i _ => n - (intOf i).toNat)
  case atStart => exact ⟨0, by omega, rfl, (Below.refl _ _).alloc (Nat.le_refl _) _, unhide HG, fun j hj => by omega⟩
  case round =>
    clear HG
    obtain ⟨k, hk, rfl, hb, ⟨g, hrow⟩, hall⟩ := hrel
    by_cases hkn : k < n
    · obtain ⟨b, off, rfl, hbl, hcs⟩ := (unhide HA).resolve_left (by omega)
      obtain ⟨e0, e1, e2, e3, e4⟩ := (hcs k hkn).keep (fun q => hb.cell (p := ⟨b, q, none⟩) hbl)
      have hrl := World.rowIs.lt hrow
      have HB := hide hb
      have HR := hide hrow
      have HALL := hide hall
      clear hcs hb hrow hall
      go_wp2_with fail
      refine (toValue_any (f k).kind (f k).num (f k).flt (f k).str (f k).ref _).mono ?_
      rintro e w1 ⟨rfl, hb1⟩
      have hrow1 := World.rowIs.of_block (unhide HR) (hb1.block _ hrl)
      have d0 := hrow1.cell (i := k * 5) (by omega)
      have f0 := hrow1.frozen (k * 5)
      have d1 := hrow1.cell (i := k * 5 + 1) (by omega)
      have f1 := hrow1.frozen (k * 5 + 1)
      have d2 := hrow1.cell (i := k * 5 + 2) (by omega)
      have f2 := hrow1.frozen (k * 5 + 2)
      have d3 := hrow1.cell (i := k * 5 + 3) (by omega)
      have f3 := hrow1.frozen (k * 5 + 3)
      have d4 := hrow1.cell (i := k * 5 + 4) (by omega)
      have f4 := hrow1.frozen (k * 5 + 4)
      obtain ⟨hg', hpc⟩ := set5V_row (f k) hrow1 (o := k * 5) (by omega)
      have HN : Hid (∀ j, j < k → VCell w1 w.heap.size (j * 5) (f j)) := hide (fun j hj => (unhide HALL j hj).keepAt (fun q _ => World.cell?_of_block (hb1.block _ hrl)))
      have HG' := hide hg'
      have HPC := hide hpc
      have HB1 := hide ((unhide HB).trans (hb1.mono (unhide HB).size))
      clear hb1 hrow1 hg' hpc e0 e1 e2 e3 e4
      go_wp2_with fail
      go_roundw
      case rel =>
        refine ⟨k + 1, by omega, by go_num, ?_, unhide HG', fun j hj => ?_⟩
        · repeat (refine Below.setCell ?_ (by exact Nat.le_refl _) _)
          exact unhide HB1
        · by_cases e : j = k
          · subst e; exact unhide HPC
          · exact (unhide HN j (by omega)).keepAt (fun q hq => set5V_other (f k) (by omega))
      case measure => simp [intOf]; omega
    · have hkn' : k = n := by omega
      subst hkn'
      have HALL := hide hall
      have HB := hide hb
      have HR := hide hrow
      clear hall hb hrow
      go_wp2_with fail
      go_ret
      exact ⟨⟨rfl, ⟨_, unhide HR⟩, unhide HALL⟩, unhide HB⟩

set_option maxHeartbeats 1000000 in
theorem toSite_any (s : Si) (w : World) :
    Calls Tryz.prog 118 #[SV s] w fun e w' => e = .returned (SV s) ∧ Below w.heap.size w w' := by
  go_enter Tryz.func118, Tryz.ntmps118
  go_wp2
  exact bodyPost_ret (v := SV s) (by simp [results, Tryz.results118, go_sem]) rfl ⟨rfl, (((Below.refl _ _).alloc (Nat.le_refl _) _).alloc (by simp) _).alloc (by simp; omega) _⟩

set_option maxRecDepth 100000 in
set_option maxHeartbeats 2000000 in
theorem toSiteS_row (a : Option Addr) (n cap : Nat) (f : Nat → Si) (w : World) (hA : SiAt w a n f) (hn : n ≤ 1048576) :
    Calls Tryz.prog 56 #[.slice a n cap] w fun e w' => (e = .returned (.slice (some ⟨w.heap.size, 0, none⟩) n n) ∧ SRow w' w.heap.size n f) ∧ Below w.heap.size w w' := by
  have hmk := make_Site n hn
  have HG := hide (made_Site w (n * 5))
  have HA := hide hA
  clear hA
  go_enter Tryz.func56, Tryz.ntmps56
  go_wp2
  clear hmk
  go_loopw [4] (fun i wr => ∃ (k : Nat), k ≤ n ∧ i = .int .i64 k ∧ Below w.heap.size w wr ∧ (∃ g, wr.rowIs w.heap.size 80 (n * 5) g) ∧ ∀ j, j < k → SCl wr w.heap.size (j * 5) (f j)) (fun i _ => n - (intOf i).toNat)
  case atStart => exact ⟨0, by omega, rfl, (Below.refl _ _).alloc (Nat.le_refl _) _, unhide HG, fun j hj => by omega⟩
  case round =>
    clear HG
    obtain ⟨k, hk, rfl, hb, ⟨g, hrow⟩, hall⟩ := hrel
    by_cases hkn : k < n
    · obtain ⟨b, off, rfl, hbl, hcs⟩ := (unhide HA).resolve_left (by omega)
      obtain ⟨e0, e1, e2, e3, e4⟩ := (hcs k hkn).keep (fun q => hb.cell (p := ⟨b, q, none⟩) hbl)
      have hrl := World.rowIs.lt hrow
      have HB := hide hb
      have HR := hide hrow
      have HALL := hide hall
      clear hcs hb hrow hall
      go_wp2_with fail
      refine (toSite_any (f k) _).mono ?_
      rintro e w1 ⟨rfl, hb1⟩
      have hrow1 := World.rowIs.of_block (unhide HR) (hb1.block _ hrl)
      have d0 := hrow1.cell (i := k * 5) (by omega)
      have f0 := hrow1.frozen (k * 5)
      have d1 := hrow1.cell (i := k * 5 + 1) (by omega)
      have f1 := hrow1.frozen (k * 5 + 1)
      have d2 := hrow1.cell (i := k * 5 + 2) (by omega)
      have f2 := hrow1.frozen (k * 5 + 2)
      have d3 := hrow1.cell (i := k * 5 + 3) (by omega)
      have f3 := hrow1.frozen (k * 5 + 3)
      have d4 := hrow1.cell (i := k * 5 + 4) (by omega)
      have f4 := hrow1.frozen (k * 5 + 4)
      obtain ⟨hg', hpc⟩ := set5S_row (f k) hrow1 (o := k * 5) (by omega)
      have HN : Hid (∀ j, j < k → SCl w1 w.heap.size (j * 5) (f j)) := hide (fun j hj => (unhide HALL j hj).keepAt (fun q _ => World.cell?_of_block (hb1.block _ hrl)))
      have HG' := hide hg'
      have HPC := hide hpc
      have HB1 := hide ((unhide HB).trans (hb1.mono (unhide HB).size))
      clear hb1 hrow1 hg' hpc e0 e1 e2 e3 e4
      go_wp2_with fail
      go_roundw
      case rel =>
        refine ⟨k + 1, by omega, by go_num, ?_, unhide HG', fun j hj => ?_⟩
        · repeat (refine Below.setCell ?_ (by exact Nat.le_refl _) _)
          exact unhide HB1
        · by_cases e : j = k
          · subst e; exact unhide HPC
          · exact (unhide HN j (by omega)).keepAt (fun q hq => set5S_other (f k) (by omega))
      case measure => simp [intOf]; omega
    · have hkn' : k = n := by omega
      subst hkn'
      have HALL := hide hall
      have HB := hide hb
      have HR := hide hrow
      clear hall hb hrow
      go_wp2_with fail
      go_ret
      exact ⟨⟨rfl, ⟨_, unhide HR⟩, unhide HALL⟩, unhide HB⟩
end Go.Proofs.YtfceeijdmilieaaGreatDoor
