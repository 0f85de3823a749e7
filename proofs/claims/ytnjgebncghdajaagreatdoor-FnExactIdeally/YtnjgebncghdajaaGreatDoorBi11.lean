/-
  AcD, AcE.
-/
import Derived.Test.YtnjgebncghdajaaGreatDoorAcBP
import Derived.Test.YtnjgebncghdajaaGreatDoorAcAP
namespace Go.Proofs.YtnjgebncghdajaaGreatDoor
open Go.RowKit
set_option linter.unusedVariables false
theorem store_new {P : Program} (w : World) (cs : List Value) (t : TypeId) (i : Nat) (v u : Value) (hv : v.oneCell' = true) (hi : cs[i]? = some u) : (store ⟨w.heap.size, i, none⟩ v).run P (w.alloc (.cells cs.toArray t)) = .ok () (w.alloc (.cells (cs.set i v).toArray t)) := by
  have h := run_store P (w.alloc (.cells cs.toArray t)) ⟨w.heap.size, i, none⟩ v .plain hv
  rw [h]
  have h1 : (w.alloc (.cells cs.toArray t)).cell? ⟨w.heap.size, i, none⟩ = some u := by simp [go_sem, hi]
  have h2 : (w.alloc (.cells cs.toArray t)).frozen? ⟨w.heap.size, i, none⟩ = false := by simp [go_sem]
  have h3 : (w.alloc (.cells cs.toArray t)).setCell ⟨w.heap.size, i, none⟩ v = w.alloc (.cells (cs.set i v).toArray t) := by simp [go_sem]
  rw [h1, h2, h3]
  rfl
theorem storeCells_new {P : Program} (w : World) (t : TypeId) : ∀ (vs pre old : List Value), vs.length = old.length → (∀ v ∈ vs, v.oneCell' = true) →
    (storeCells ⟨w.heap.size, 0, none⟩ vs pre.length).run P (w.alloc (.cells (pre ++ old).toArray t)) = .ok () (w.alloc (.cells (pre ++ vs).toArray t))
  | [], pre, [], _, _ => by simp [storeCells]
  | v :: vs, pre, o :: old, hl, hv => by
    have h := store_new (P := P) w (pre ++ o :: old) t pre.length v o (hv v (by simp)) (by simp)
    have h2 := storeCells_new w t vs (pre ++ [v]) old (by simpa using hl) (fun x hx => hv x (by simp [hx])) (P := P)
    have e1 : (pre ++ o :: old).set pre.length v = (pre ++ [v]) ++ old := by simp
    rw [e1] at h
    have e2 : (⟨w.heap.size, 0, none⟩ : Addr).add pre.length = ⟨w.heap.size, pre.length, none⟩ := by
      cases pre <;> simp [Addr.add]
    unfold storeCells
    rw [e2]
    simp only [List.length_append, List.length_cons, List.length_nil, Nat.zero_add, List.append_assoc, List.cons_append, List.nil_append] at h h2 ⊢
    simp [go_sem, h, h2]
/-- What deeds answers. -/
def deedsV : Value := .agg #[.int .i64 0, .nilFunc, .int .i64 0, .func (.func 79) #[] #[], .int .i64 25, .func (.func 80) #[] #[], .int .i64 9, .func (.func 81) #[] #[], .int .i64 5, .func (.func 82) #[] #[], .int .i64 1, .func (.func 83) #[] #[], .int .i64 1, .func (.func 84) #[] #[], .int .i64 8, .func (.func 85) #[] #[], .int .i64 3, .func (.func 86) #[] #[], .int .i64 19, .func (.func 87) #[] #[]]

theorem sz_deeds (w : World) : (sizeOf 114).run Tryz.prog w = .ok 20 w := by kernel_rfl
set_option maxRecDepth 100000 in
theorem st_deeds (w : World) : (Instr.storeAt 114 (.pointer (some ⟨w.heap.size, 0, none⟩)) deedsV).run Tryz.prog (w.alloc (.cells #[.int .i64 0, .nilFunc, .int .i64 0, .nilFunc, .int .i64 0, .nilFunc, .int .i64 0, .nilFunc, .int .i64 0, .nilFunc, .int .i64 0, .nilFunc, .int .i64 0, .nilFunc, .int .i64 0, .nilFunc, .int .i64 0, .nilFunc, .int .i64 0, .nilFunc] 114)) = .ok () (w.alloc (.cells deedsV.cells 114)) := by
  have h := storeCells_new (P := Tryz.prog) w 114 deedsV.cells.toList [] [.int .i64 0, .nilFunc, .int .i64 0, .nilFunc, .int .i64 0, .nilFunc, .int .i64 0, .nilFunc, .int .i64 0, .nilFunc, .int .i64 0, .nilFunc, .int .i64 0, .nilFunc, .int .i64 0, .nilFunc, .int .i64 0, .nilFunc, .int .i64 0, .nilFunc] rfl (by unfold deedsV; intro v hv; simp [Value.cells] at hv; rcases hv with rfl | rfl | rfl | rfl | rfl | rfl | rfl | rfl | rfl | rfl | rfl | rfl | rfl | rfl | rfl | rfl | rfl | rfl | rfl | rfl <;> rfl)
  have hs := sz_deeds (w.alloc (.cells #[.int .i64 0, .nilFunc, .int .i64 0, .nilFunc, .int .i64 0, .nilFunc, .int .i64 0, .nilFunc, .int .i64 0, .nilFunc, .int .i64 0, .nilFunc, .int .i64 0, .nilFunc, .int .i64 0, .nilFunc, .int .i64 0, .nilFunc, .int .i64 0, .nilFunc] 114))
  unfold Instr.storeAt storeVar
  simp only [List.nil_append, List.length_nil] at h
  have hn : ¬ (deedsV.cells.size ≠ 20) := by decide
  simp only [Sem.run_bind]
  have hsa : ∀ w', (Instr.sureAddr (.pointer (some ⟨w.heap.size, 0, none⟩))).run Tryz.prog w' = .ok ⟨w.heap.size, 0, none⟩ w' := fun w' => by simp [go_sem]
  simp [hsa, hn, h]

theorem load_new {P : Program} (w : World) (cs : List Value) (t : TypeId) (i : Nat) (u : Value) (hi : cs[i]? = some u) : (load ⟨w.heap.size, i, none⟩).run P (w.alloc (.cells cs.toArray t)) = .ok u (w.alloc (.cells cs.toArray t)) := by
  simp [go_sem, hi]
theorem loadCells_new {P : Program} (w : World) (cs : List Value) (t : TypeId) : ∀ (n i : Nat) (acc : Array Value), i + n = cs.length →
    (loadCellsFrom ⟨w.heap.size, 0, none⟩ i n acc).run P (w.alloc (.cells cs.toArray t)) = .ok (acc ++ (cs.drop i).toArray) (w.alloc (.cells cs.toArray t))
  | 0, i, acc, h => by
    have : cs.drop i = [] := by simp; omega
    simp [loadCellsFrom, this]
  | n + 1, i, acc, h => by
    have hi : i < cs.length := by omega
    have hl := load_new (P := P) w cs t i cs[i] (by simp [hi])
    have h2 := loadCells_new w cs t n (i + 1) (acc.push cs[i]) (by omega) (P := P)
    have e2 : (⟨w.heap.size, 0, none⟩ : Addr).add i = ⟨w.heap.size, i, none⟩ := by
      cases i <;> simp [Addr.add]
    have e3 : acc ++ (cs.drop i).toArray = acc.push cs[i] ++ (cs.drop (i + 1)).toArray := by
      rw [List.drop_eq_getElem_cons hi]
      simp
    unfold loadCellsFrom
    rw [e2, e3]
    simp only [Sem.run_bind]
    rw [hl]
    simp [h2]

theorem wpList_store {P : Program} {ops : Array Oper} {Q : Exit → Act → World → Prop} {rest : List Oper} {o : Oper} {a : Act} {w : World} {t : TypeId} {x y : Operand} (hgd : o.guard = none) (ho : o.op = .store t x y) (w' : World) (hr : (Instr.storeAt t (a.eval x) (a.eval y)).run P w = .ok () w') (h : wpList P ops Q rest (a.put o.dst undef) w') : wpList P ops Q (o :: rest) a w :=
  wpList_plain hgd fun K hK => by
    have e : (execOp a.eval o).run P w = .ok .skip w' := by
      unfold execOp
      rw [ho]
      simp only [Sem.run_bind]
      rw [hr]
      rfl
    unfold Oper.wp
    rw [e]
    exact hK _ _ h

set_option maxRecDepth 100000 in
set_option maxHeartbeats 2000000 in
theorem deeds_any (w : World) :
    Calls Tryz.prog 62 #[] w fun e w' => e = .returned deedsV ∧ Below w.heap.size w w' := by
  go_enter Tryz.func62, Tryz.ntmps62
  go_wp2_with (first | (refine wpList_store rfl rfl _ (st_deeds w) ?_) | go_in)
  have hag : ∀ w', (isAgg 114).run Tryz.prog w' = .ok true w' := fun w' => by kernel_rfl
  have hs := sz_deeds
  have hlc : (loadCells ⟨w.heap.size, 0, none⟩ 20).run Tryz.prog (w.alloc (.cells deedsV.cells 114)) = .ok deedsV.cells (w.alloc (.cells deedsV.cells 114)) := by
    have h := loadCells_new (P := Tryz.prog) w deedsV.cells.toList 114 20 0 #[] (by decide)
    simpa [loadCells] using h
  refine bodyPost_ret (v := deedsV) ?_ rfl ⟨rfl, (Below.refl _ _).alloc (Nat.le_refl _) _⟩
  have hdc : Value.agg deedsV.cells = deedsV := rfl
  simp [results, Tryz.results62, Act.put, loadVar, hag, hs, hlc, asAddr, hdc]
end Go.Proofs.YtnjgebncghdajaaGreatDoor
namespace Go.Proofs.YtnjgebncghdajaaGreatDoor
open Go.RowKit
set_option linter.unusedVariables false

def nmI (op : Int) : Int := if op = 2 then 25 else if op = 3 then 9 else if op = 4 then 5 else if op = 5 then 1 else if op = 6 then 1 else if op = 7 then 8 else if op = 8 then 3 else if op = 9 then 19 else 0
def belowB (n lim nm : Int) : Bool := decide (0 ≤ n) && decide (n < if nm = 0 then 1 else lim)
def operB (v : Vl) (nm : Int) : Bool := v.ok && (nm != 0 || v.kind == 0)
abbrev bt (op m : Int) : Int := bits .and .i64 (nmI op) m
def implB (a : Ac) : Bool := belowB a.t 100 (bt a.op 1) && belowB a.site 50 (bt a.op 2) && belowB a.n 1000000000001 (bt a.op 4) && operB a.k (bt a.op 8) && operB a.v (bt a.op 16) && (a.op != 7 || a.k.kind == 4)

theorem bt1 : bt 1 1 = 0 ∧ bt 1 2 = 0 ∧ bt 1 4 = 0 ∧ bt 1 8 = 0 ∧ bt 1 16 = 0 := by decide
theorem bt2 : bt 2 1 = 1 ∧ bt 2 2 = 0 ∧ bt 2 4 = 0 ∧ bt 2 8 = 8 ∧ bt 2 16 = 16 := by decide
theorem bt3 : bt 3 1 = 1 ∧ bt 3 2 = 0 ∧ bt 3 4 = 0 ∧ bt 3 8 = 8 ∧ bt 3 16 = 0 := by decide
theorem bt4 : bt 4 1 = 1 ∧ bt 4 2 = 0 ∧ bt 4 4 = 4 ∧ bt 4 8 = 0 ∧ bt 4 16 = 0 := by decide
theorem bt5 : bt 5 1 = 1 ∧ bt 5 2 = 0 ∧ bt 5 4 = 0 ∧ bt 5 8 = 0 ∧ bt 5 16 = 0 := by decide
theorem bt6 : bt 6 1 = 1 ∧ bt 6 2 = 0 ∧ bt 6 4 = 0 ∧ bt 6 8 = 0 ∧ bt 6 16 = 0 := by decide
theorem bt7 : bt 7 1 = 0 ∧ bt 7 2 = 0 ∧ bt 7 4 = 0 ∧ bt 7 8 = 8 ∧ bt 7 16 = 0 := by decide
theorem bt8 : bt 8 1 = 1 ∧ bt 8 2 = 2 ∧ bt 8 4 = 0 ∧ bt 8 8 = 0 ∧ bt 8 16 = 0 := by decide
theorem bt9 : bt 9 1 = 1 ∧ bt 9 2 = 2 ∧ bt 9 4 = 0 ∧ bt 9 8 = 0 ∧ bt 9 16 = 16 := by decide

theorem implB1 (t s n : Int) (k v : Vl) : implB ⟨1, t, s, n, k, v⟩ = actB ⟨1, t, s, n, k, v⟩ := by
  obtain ⟨e1, e2, e3, e4, e5⟩ := bt1
  unfold implB actB rngB bareB belowB operB nonB
  simp only [e1, e2, e3, e4, e5]
  cases hk : k.ok <;> cases hv : v.ok <;> simp
  rw [Bool.eq_iff_iff]
  simp
  omega

theorem implB2 (t s n : Int) (k v : Vl) : implB ⟨2, t, s, n, k, v⟩ = actB ⟨2, t, s, n, k, v⟩ := by
  obtain ⟨e1, e2, e3, e4, e5⟩ := bt2
  unfold implB actB rngB bareB belowB operB nonB
  simp only [e1, e2, e3, e4, e5]
  cases hk : k.ok <;> cases hv : v.ok <;> simp
  rw [Bool.eq_iff_iff]
  simp
  omega

theorem implB3 (t s n : Int) (k v : Vl) : implB ⟨3, t, s, n, k, v⟩ = actB ⟨3, t, s, n, k, v⟩ := by
  obtain ⟨e1, e2, e3, e4, e5⟩ := bt3
  unfold implB actB rngB bareB belowB operB nonB
  simp only [e1, e2, e3, e4, e5]
  cases hk : k.ok <;> cases hv : v.ok <;> simp
  rw [Bool.eq_iff_iff]
  simp
  omega

theorem implB4 (t s n : Int) (k v : Vl) : implB ⟨4, t, s, n, k, v⟩ = actB ⟨4, t, s, n, k, v⟩ := by
  obtain ⟨e1, e2, e3, e4, e5⟩ := bt4
  unfold implB actB rngB bareB belowB operB nonB
  simp only [e1, e2, e3, e4, e5]
  cases hk : k.ok <;> cases hv : v.ok <;> simp
  rw [Bool.eq_iff_iff]
  simp
  omega

theorem implB5 (t s n : Int) (k v : Vl) : implB ⟨5, t, s, n, k, v⟩ = actB ⟨5, t, s, n, k, v⟩ := by
  obtain ⟨e1, e2, e3, e4, e5⟩ := bt5
  unfold implB actB rngB bareB belowB operB nonB
  simp only [e1, e2, e3, e4, e5]
  cases hk : k.ok <;> cases hv : v.ok <;> simp
  rw [Bool.eq_iff_iff]
  simp
  omega

theorem implB6 (t s n : Int) (k v : Vl) : implB ⟨6, t, s, n, k, v⟩ = actB ⟨6, t, s, n, k, v⟩ := by
  obtain ⟨e1, e2, e3, e4, e5⟩ := bt6
  unfold implB actB rngB bareB belowB operB nonB
  simp only [e1, e2, e3, e4, e5]
  cases hk : k.ok <;> cases hv : v.ok <;> simp
  rw [Bool.eq_iff_iff]
  simp
  omega

theorem implB7 (t s n : Int) (k v : Vl) : implB ⟨7, t, s, n, k, v⟩ = actB ⟨7, t, s, n, k, v⟩ := by
  obtain ⟨e1, e2, e3, e4, e5⟩ := bt7
  unfold implB actB rngB bareB belowB operB nonB
  simp only [e1, e2, e3, e4, e5]
  cases hk : k.ok <;> cases hv : v.ok <;> simp
  rw [Bool.eq_iff_iff]
  simp
  omega

theorem implB8 (t s n : Int) (k v : Vl) : implB ⟨8, t, s, n, k, v⟩ = actB ⟨8, t, s, n, k, v⟩ := by
  obtain ⟨e1, e2, e3, e4, e5⟩ := bt8
  unfold implB actB rngB bareB belowB operB nonB
  simp only [e1, e2, e3, e4, e5]
  cases hk : k.ok <;> cases hv : v.ok <;> simp
  rw [Bool.eq_iff_iff]
  simp
  omega

theorem implB9 (t s n : Int) (k v : Vl) : implB ⟨9, t, s, n, k, v⟩ = actB ⟨9, t, s, n, k, v⟩ := by
  obtain ⟨e1, e2, e3, e4, e5⟩ := bt9
  unfold implB actB rngB bareB belowB operB nonB
  simp only [e1, e2, e3, e4, e5]
  cases hk : k.ok <;> cases hv : v.ok <;> simp
  rw [Bool.eq_iff_iff]
  simp
  omega

theorem implB_eq (a : Ac) (h1 : 1 ≤ a.op) (h9 : a.op ≤ 9) : implB a = actB a := by
  obtain ⟨op, t, s, n, k, v⟩ := a
  have h1 : 1 ≤ op := h1
  have h9 : op ≤ 9 := h9
  rcases (by omega : op = 1 ∨ op = 2 ∨ op = 3 ∨ op = 4 ∨ op = 5 ∨ op = 6 ∨ op = 7 ∨ op = 8 ∨ op = 9) with rfl | rfl | rfl | rfl | rfl | rfl | rfl | rfl | rfl
  · exact implB1 t s n k v
  · exact implB2 t s n k v
  · exact implB3 t s n k v
  · exact implB4 t s n k v
  · exact implB5 t s n k v
  · exact implB6 t s n k v
  · exact implB7 t s n k v
  · exact implB8 t s n k v
  · exact implB9 t s n k v
end Go.Proofs.YtnjgebncghdajaaGreatDoor
