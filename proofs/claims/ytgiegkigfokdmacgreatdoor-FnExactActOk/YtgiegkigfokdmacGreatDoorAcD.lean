/-
  Acts: the table of deeds: a row of twenty cells that is made, filled and handed out.
-/
import Derived.Test.YtgiegkigfokdmacGreatDoorAcB
namespace Go.Proofs.YtgiegkigfokdmacGreatDoor
open Go.RowKit
set_option linter.unusedVariables false
theorem store_new {P : Program} (w : World) (cs : List Value) (t : TypeId) (i : Nat) (v u : Value) (hv : v.oneCell' = true) (hi : cs[i]? = some u) : (store ⟨w.heap.size, i, none⟩ v).run P (w.alloc (.cells cs.toArray t)) = .ok () (w.alloc (.cells (cs.set i v).toArray t)) := by
  have h := run_store P (w.alloc (.cells cs.toArray t)) ⟨w.heap.size, i, none⟩ v .plain hv
  rw [h]
  have h1 : (w.alloc (.cells cs.toArray t)).cell? ⟨w.heap.size, i, none⟩ = some u := by simp [go_sem, hi]
  have h2 : (w.alloc (.cells cs.toArray t)).frozen? ⟨w.heap.size, i, none⟩ = false := by simp [go_sem]
  have h3 : (w.alloc (.cells cs.toArray t)).setCell ⟨w.heap.size, i, none⟩ v = w.alloc (.cells (cs.set i v).toArray t) := by simp [go_sem]
  rw [h1, h2, h3]
  rfl
theorem storeCells_new {P : Program} (w : World) (t : TypeId) : ∀ (vs pre old : List Value), vs.length = old.length → (∀ v ∈ vs, v.oneCell' = true) →
    (storeCells ⟨w.heap.size, 0, none⟩ vs pre.length).run P (w.alloc (.cells (pre ++ old).toArray t)) = .ok () (w.alloc (.cells (pre ++ vs).toArray t))
  | [], pre, [], _, _ => by simp [storeCells]
  | v :: vs, pre, o :: old, hl, hv => by
    have h := store_new (P := P) w (pre ++ o :: old) t pre.length v o (hv v (by simp)) (by simp)
    have h2 := storeCells_new w t vs (pre ++ [v]) old (by simpa using hl) (fun x hx => hv x (by simp [hx])) (P := P)
    have e1 : (pre ++ o :: old).set pre.length v = (pre ++ [v]) ++ old := by simp
    rw [e1] at h
    have e2 : (⟨w.heap.size, 0, none⟩ : Addr).add pre.length = ⟨w.heap.size, pre.length, none⟩ := by
      cases pre <;> simp [Addr.add]
    unfold storeCells
    rw [e2]
    simp only [List.length_append, List.length_cons, List.length_nil, Nat.zero_add, List.append_assoc, List.cons_append, List.nil_append] at h h2 ⊢
    simp [go_sem, h, h2]
/-- What deeds answers. -/
def deedsV : Value := .agg #[.int .i64 0, .nilFunc, .int .i64 0, .func (.func 110) #[] #[], .int .i64 25, .func (.func 111) #[] #[], .int .i64 9, .func (.func 112) #[] #[], .int .i64 5, .func (.func 113) #[] #[], .int .i64 1, .func (.func 114) #[] #[], .int .i64 1, .func (.func 115) #[] #[], .int .i64 8, .func (.func 116) #[] #[], .int .i64 3, .func (.func 117) #[] #[], .int .i64 19, .func (.func 118) #[] #[]]

theorem sz_deeds (w : World) : (sizeOf 119).run Tryz.prog w = .ok 20 w := by kernel_rfl
set_option maxRecDepth 100000 in
theorem st_deeds (w : World) : (Instr.storeAt 119 (.pointer (some ⟨w.heap.size, 0, none⟩)) deedsV).run Tryz.prog (w.alloc (.cells #[.int .i64 0, .nilFunc, .int .i64 0, .nilFunc, .int .i64 0, .nilFunc, .int .i64 0, .nilFunc, .int .i64 0, .nilFunc, .int .i64 0, .nilFunc, .int .i64 0, .nilFunc, .int .i64 0, .nilFunc, .int .i64 0, .nilFunc, .int .i64 0, .nilFunc] 119)) = .ok () (w.alloc (.cells deedsV.cells 119)) := by
  have h := storeCells_new (P := Tryz.prog) w 119 deedsV.cells.toList [] [.int .i64 0, .nilFunc, .int .i64 0, .nilFunc, .int .i64 0, .nilFunc, .int .i64 0, .nilFunc, .int .i64 0, .nilFunc, .int .i64 0, .nilFunc, .int .i64 0, .nilFunc, .int .i64 0, .nilFunc, .int .i64 0, .nilFunc, .int .i64 0, .nilFunc] rfl (by unfold deedsV; intro v hv; simp [Value.cells] at hv; rcases hv with rfl | rfl | rfl | rfl | rfl | rfl | rfl | rfl | rfl | rfl | rfl | rfl | rfl | rfl | rfl | rfl | rfl | rfl | rfl | rfl <;> rfl)
  have hs := sz_deeds (w.alloc (.cells #[.int .i64 0, .nilFunc, .int .i64 0, .nilFunc, .int .i64 0, .nilFunc, .int .i64 0, .nilFunc, .int .i64 0, .nilFunc, .int .i64 0, .nilFunc, .int .i64 0, .nilFunc, .int .i64 0, .nilFunc, .int .i64 0, .nilFunc, .int .i64 0, .nilFunc] 119))
  unfold Instr.storeAt storeVar
  simp only [List.nil_append, List.length_nil] at h
  have hn : ¬ (deedsV.cells.size ≠ 20) := by decide
  simp only [Sem.run_bind]
  have hsa : ∀ w', (Instr.sureAddr (.pointer (some ⟨w.heap.size, 0, none⟩))).run Tryz.prog w' = .ok ⟨w.heap.size, 0, none⟩ w' := fun w' => by simp [go_sem]
  simp [hsa, hn, h]

theorem load_new {P : Program} (w : World) (cs : List Value) (t : TypeId) (i : Nat) (u : Value) (hi : cs[i]? = some u) : (load ⟨w.heap.size, i, none⟩).run P (w.alloc (.cells cs.toArray t)) = .ok u (w.alloc (.cells cs.toArray t)) := by
  simp [go_sem, hi]
theorem loadCells_new {P : Program} (w : World) (cs : List Value) (t : TypeId) : ∀ (n i : Nat) (acc : Array Value), i + n = cs.length →
    (loadCellsFrom ⟨w.heap.size, 0, none⟩ i n acc).run P (w.alloc (.cells cs.toArray t)) = .ok (acc ++ (cs.drop i).toArray) (w.alloc (.cells cs.toArray t))
  | 0, i, acc, h => by
    have : cs.drop i = [] := by simp; omega
    simp [loadCellsFrom, this]
  | n + 1, i, acc, h => by
    have hi : i < cs.length := by omega
    have hl := load_new (P := P) w cs t i cs[i] (by simp [hi])
    have h2 := loadCells_new w cs t n (i + 1) (acc.push cs[i]) (by omega) (P := P)
    have e2 : (⟨w.heap.size, 0, none⟩ : Addr).add i = ⟨w.heap.size, i, none⟩ := by
      cases i <;> simp [Addr.add]
    have e3 : acc ++ (cs.drop i).toArray = acc.push cs[i] ++ (cs.drop (i + 1)).toArray := by
      rw [List.drop_eq_getElem_cons hi]
      simp
    unfold loadCellsFrom
    rw [e2, e3]
    simp only [Sem.run_bind]
    rw [hl]
    simp [h2]

theorem wpList_store {P : Program} {ops : Array Oper} {Q : Exit → Act → World → Prop} {rest : List Oper} {o : Oper} {a : Act} {w : World} {t : TypeId} {x y : Operand} (hgd : o.guard = none) (ho : o.op = .store t x y) (w' : World) (hr : (Instr.storeAt t (a.eval x) (a.eval y)).run P w = .ok () w') (h : wpList P ops Q rest (a.put o.dst undef) w') : wpList P ops Q (o :: rest) a w :=
  wpList_plain hgd fun K hK => by
    have e : (execOp a.eval o).run P w = .ok .skip w' := by
      unfold execOp
      rw [ho]
      simp only [Sem.run_bind]
      rw [hr]
      rfl
    unfold Oper.wp
    rw [e]
    exact hK _ _ h

set_option maxRecDepth 100000 in
set_option maxHeartbeats 2000000 in
theorem deeds_any (w : World) :
    Calls Tryz.prog 62 #[] w fun e w' => e = .returned deedsV ∧ Below w.heap.size w w' := by
  go_enter Tryz.func62, Tryz.ntmps62
  go_wp2_with (first | (refine wpList_store rfl rfl _ (st_deeds w) ?_) | go_in)
  have hag : ∀ w', (isAgg 119).run Tryz.prog w' = .ok true w' := fun w' => by kernel_rfl
  have hs := sz_deeds
  have hlc : (loadCells ⟨w.heap.size, 0, none⟩ 20).run Tryz.prog (w.alloc (.cells deedsV.cells 119)) = .ok deedsV.cells (w.alloc (.cells deedsV.cells 119)) := by
    have h := loadCells_new (P := Tryz.prog) w deedsV.cells.toList 119 20 0 #[] (by decide)
    simpa [loadCells] using h
  refine bodyPost_ret (v := deedsV) ?_ rfl ⟨rfl, (Below.refl _ _).alloc (Nat.le_refl _) _⟩
  have hdc : Value.agg deedsV.cells = deedsV := rfl
  simp [results, Tryz.results62, Act.put, loadVar, hag, hs, hlc, asAddr, hdc]
end Go.Proofs.YtgiegkigfokdmacGreatDoor
