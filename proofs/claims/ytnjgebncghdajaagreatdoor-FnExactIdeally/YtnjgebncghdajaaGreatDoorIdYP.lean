/-
  IdY.
-/
import Derived.Test.YtnjgebncghdajaaGreatDoorIdRP
import Derived.Deep.RegionLaw
import Derived.Lib.SliceRun
namespace Go.Proofs.YtnjgebncghdajaaGreatDoor
open Go.RowKit
set_option linter.unusedVariables false
set_option linter.unusedSimpArgs false
attribute [local go_sem] run_store_float run_equalIn_float

theorem blk_setCells {g : Nat} {e : TypeId} : ∀ (vs : List Value) (o : Nat) (w : World) (cur : Array Value), w.heap[g]? = some (.cells cur e (0, 0)) → ∃ cur', (w.setCells g o vs).heap[g]? = some (.cells cur' e (0, 0)) ∧ cur'.size = cur.size
  | [], _, w, cur, h => ⟨cur, h, rfl⟩
  | v :: r, o, w, cur, h => by
    obtain ⟨cur', h1, h2⟩ := blk_setCells r (o + 1) _ _ (blk_set_same (j := o) h v)
    exact ⟨cur', h1, by rw [h2]; simp⟩
theorem setCells_os {g : Nat} : ∀ (vs : List Value) (o : Nat) (w : World), (w.setCells g o vs).os = w.os ∧ (w.setCells g o vs).tape = w.tape ∧ (w.setCells g o vs).output = w.output ∧ (w.setCells g o vs).heap.size = w.heap.size ∧ ∀ k, k ≠ g → (w.setCells g o vs).heap[k]? = w.heap[k]?
  | [], _, w => ⟨rfl, rfl, rfl, rfl, fun _ _ => rfl⟩
  | v :: r, o, w => by
    obtain ⟨h1, h2, h3, h4, h5⟩ := setCells_os (g := g) r (o + 1) (w.setCell ⟨g, o, none⟩ v)
    obtain ⟨s1, s2, s3, s4⟩ := set_os w ⟨g, o, none⟩ v
    exact ⟨h1.trans s1, h2.trans s2, h3.trans s3, h4.trans s4, fun k hk => (h5 k hk).trans (Deep.blk_setCell_other _ _ _ _ (by exact hk))⟩

/-- The pairs behind pair j. -/
def mvd (f : Nat → Pr) (n j : Nat) : List Value := (pL f n).drop ((j + 1) * 11)
theorem mvd_length (f : Nat → Pr) {n j : Nat} (h : j < n) : (mvd f n j).length = (n - (j + 1)) * 11 := by
  unfold mvd; rw [List.length_drop, pL_length]; omega
theorem mvd_get (f : Nat → Pr) (n j q : Nat) : (mvd f n j)[q]? = (pL f n)[(j + 1) * 11 + q]? := by
  unfold mvd; rw [List.getElem?_drop]
theorem pL_one (f : Nat → Pr) : ∀ n, ∀ u ∈ pL f n, u.oneCell' = true
  | 0, u, h => by cases h
  | n + 1, u, h => by
    rcases List.mem_append.1 h with h | h
    · exact pL_one f n u h
    · exact prL_one _ u h
abbrev PZL : List Value := [.int .i64 0, .int .i64 0, .float .f64 0, .string ⟨#[]⟩, .int .i64 0, .int .i64 0, .int .i64 0, .float .f64 0, .string ⟨#[]⟩, .int .i64 0, .int .i64 0]
theorem zvPair (w : World) : (zeroValue 95).run Tryz.prog w = .ok PZ w := by kernel_rfl
theorem clear_pair (w : World) (b o c : Nat) (ty : TypeId) (hc : ∀ j, j < 11 → (w.cell? ⟨b, o + j, none⟩).isSome = true) (hf : ∀ j, j < 11 → w.frozen? ⟨b, o + j, none⟩ = false) :
    (Builtin.clear_ #[70] ty #[.slice (some ⟨b, o, none⟩) 1 c]).run Tryz.prog w = .ok (.tuple #[]) (w.setCells b o PZL) := by
  have hst := run_storeCells_cells (P := Tryz.prog) b o PZL 0 w (by simpa using hc) (by simpa using hf) (by simp [Value.oneCell'])
  simp only [Nat.add_zero] at hst
  have hzc : (Builtin.zeroCells PZ.cells 1).toList = PZL := by
    apply List.ext_getElem?
    intro q
    rcases (by omega : q = 0 ∨ q = 1 ∨ q = 2 ∨ q = 3 ∨ q = 4 ∨ q = 5 ∨ q = 6 ∨ q = 7 ∨ q = 8 ∨ q = 9 ∨ q = 10 ∨ 11 ≤ q) with rfl | rfl | rfl | rfl | rfl | rfl | rfl | rfl | rfl | rfl | rfl | h
    all_goals first | (simp [Builtin.zeroCells, Value.cells]; done) | (rw [List.getElem?_eq_none (by simp [Builtin.zeroCells, Value.cells]; omega), List.getElem?_eq_none (by simpa using h)])
  simp [Builtin.clear_, run_underlying Tryz.underlying70, zvPair, hzc, hst]

/-- The row behind it all. -/
theorem del_row {w : World} {B g n cp j : Nat} {f : Nat → Pr} (hO : POwn w B (.slice (some ⟨g, 0, none⟩) n cp) n f) (hj : j < n) :
    POwn ((w.setCells g (j * 11) (mvd f n j)).setCells g ((n - 1) * 11) PZL) B (.slice (some ⟨g, 0, none⟩) (n - 1) cp) (n - 1) (fun q => if q < j then f q else f (q + 1)) := by
  have hml := mvd_length f hj
  have hall : ∀ q, q < n * 11 → (w.cell? ⟨g, q, none⟩).isSome = true := fun q hq => by
    rw [World.ownsRow.cellAt hO q hq]
    rw [List.getElem?_eq_getElem (by rw [pL_length]; exact hq)]; rfl
  have hcell := fun q hq => World.ownsRow.cellAt hO q hq
  rcases hO.2 with ⟨hn, _⟩ | ⟨g', cap, cur, hv, hb, hg, h1, h2, h3, h4⟩
  · cases hn
  cases hv
  obtain ⟨cur1, k1, k2⟩ := blk_setCells (mvd f n j) (j * 11) w cur hg
  obtain ⟨cur2, k3, k4⟩ := blk_setCells PZL ((n - 1) * 11) _ cur1 k1
  refine ⟨by rw [pL_length], .inr ⟨g, cp, cur2, rfl, hb, k3, by omega, h2, by rw [k4, k2, h3], ?_⟩⟩
  apply List.ext_getElem?
  intro q
  by_cases hq : q < (n - 1) * 11
  · rw [List.getElem?_take, if_pos hq]
    obtain ⟨i, r, rfl, hr, hi⟩ : ∃ i r, q = i * 11 + r ∧ r < 11 ∧ i < n - 1 := ⟨q / 11, q % 11, by omega, by omega, by omega⟩
    rw [pL_get hi hr, Array.getElem?_toList, ← cell_of_row _ g (i * 11 + r) _ _ _ k3, World.cell?_setCells_out g PZL _ _ _ (fun _ _ => .inl hq)]
    by_cases hij : i < j
    · rw [if_pos hij, World.cell?_setCells_out g _ _ _ _ (fun _ _ => .inl (by show i * 11 + r < j * 11; omega)), hcell _ (by omega), pL_get (by omega) hr]
    · rw [if_neg hij]
      have hd : i * 11 + r - j * 11 < (mvd f n j).length := by rw [hml]; omega
      have := World.cell?_setCells_in g (mvd f n j) (j * 11) w (fun t ht => hall _ (by rw [hml] at ht; omega)) _ hd
      rw [show j * 11 + (i * 11 + r - j * 11) = i * 11 + r by omega] at this
      rw [this, ← List.getElem?_eq_getElem hd, mvd_get, show (j + 1) * 11 + (i * 11 + r - j * 11) = (i + 1) * 11 + r by omega, pL_get (by omega) hr]
  · rw [List.getElem?_eq_none (by rw [List.length_take]; omega), List.getElem?_eq_none (by rw [pL_length]; omega)]

set_option maxRecDepth 1000000 in
set_option maxHeartbeats 8000000 in
theorem delete_any (B g n cp j : Nat) (f : Nat → Pr) (w : World) (hO : POwn w B (.slice (some ⟨g, 0, none⟩) n cp) n f) (hj : j < n) (hn : n ≤ 500) :
    Calls Tryz.prog 67 #[.slice (some ⟨g, 0, none⟩) n cp, .int .i64 j, .int .i64 ((j : Int) + 1)] w fun e w' => e = .returned (.slice (some ⟨g, 0, none⟩) (n - 1) cp) ∧ POwn w' B (.slice (some ⟨g, 0, none⟩) (n - 1) cp) (n - 1) (fun q => if q < j then f q else f (q + 1)) ∧ (w'.os = w.os ∧ w'.tape = w.tape ∧ w'.output = w.output ∧ w'.heap.size = w.heap.size) ∧ ∀ k, k ≠ g → w'.heap[k]? = w.heap[k]? := by
  obtain ⟨i0, hi0, hz0, hz1, hz2⟩ := info_parts infoPair
  have hcap : n ≤ cp ∧ cp ≤ maxLen := by
    rcases hO.2 with ⟨hn, _⟩ | ⟨g', cap, cur, hv, hb, hg, h1, h2, h3, h4⟩
    · cases hn
    · cases hv; exact ⟨h1, h2⟩
  obtain ⟨hc1, hc2⟩ := hcap
  have hc3 : cp ≤ 9223372036854775807 := by simpa [maxLen] using hc2
  have hml := mvd_length f hj
  have hcell : ∀ q, q < n * 11 → w.cell? ⟨g, q, none⟩ = (pL f n)[q]? := fun q hq => World.ownsRow.cellAt hO q hq
  have hfz := World.ownsRow.frozenAt hO
  obtain ⟨A, hA, hnews⟩ : ∃ A : Addr, (if cp = j + 1 then some (⟨g, 0, none⟩ : Addr) else some ⟨g, (j + 1) * 11, none⟩) = some A ∧ Hid (∀ q u, (mvd f n j)[q]? = some u → w.drew.cell? (A.add q) = some u) := by
    by_cases h : cp = j + 1
    · refine ⟨⟨g, 0, none⟩, by simp [h], fun q u hu => ?_⟩
      have h0 : (mvd f n j).length = 0 := by rw [hml]; omega
      rw [List.length_eq_zero_iff.1 h0] at hu
      simp at hu
    · refine ⟨⟨g, (j + 1) * 11, none⟩, by simp [h], fun q u hu => ?_⟩
      have hq : q < (n - (j + 1)) * 11 := by
        have := (List.getElem?_eq_some_iff.1 hu).1
        rwa [hml] at this
      rw [mvd_get] at hu
      rw [Addr.add_lit]
      exact (hcell _ (by omega)).trans hu
  have s1 : Hid ((mvd f n j).length = (n - (j + 1)) * 11) := hml
  have s2 : Hid (∀ u ∈ mvd f n j, u.oneCell' = true) := fun u hu => pL_one f n u (List.mem_of_mem_drop hu)
  have hsome : ∀ q, q < n * 11 → (w.cell? ⟨g, q, none⟩).isSome = true := fun q hq => by
    rw [hcell q hq, List.getElem?_eq_getElem (by rw [pL_length]; exact hq)]; rfl
  have s3 : Hid (∀ q, q < (mvd f n j).length → (w.drew.cell? ⟨g, 0 + j * 11 + q, none⟩).isSome = true ∧ w.drew.frozen? ⟨g, 0 + j * 11 + q, none⟩ = false) := by
    intro q hq
    rw [hml] at hq
    rw [Nat.zero_add]
    exact ⟨hsome _ (by omega), hfz _⟩
  obtain ⟨m, hm⟩ : ∃ m, m = j + (n - (j + 1)) := ⟨_, rfl⟩
  have hmn : m + 1 = n := by omega
  have hclr : ∀ ty : TypeId, (Builtin.clear_ #[70] ty #[.slice (some ⟨g, m * 11, none⟩) 1 (cp - m)]).run Tryz.prog (w.drew.setCells g (j * 11) (mvd f n j)) = .ok (.tuple #[]) ((w.drew.setCells g (j * 11) (mvd f n j)).setCells g (m * 11) PZL) := fun ty => clear_pair _ g (m * 11) _ ty (fun q hq => by
      have h1 : (w.cell? ⟨g, m * 11 + q, none⟩).isSome = true := hsome _ (by omega)
      rw [World.cell?_setCells_out g _ _ _ _ (fun _ _ => .inr (by show j * 11 + (mvd f n j).length ≤ m * 11 + q; rw [hml]; omega))]
      exact h1) (fun q hq => by
      rw [World.frozen?_setCells]
      exact hfz _)
  have HE : Hid (POwn ((w.drew.setCells g (j * 11) (mvd f n j)).setCells g (m * 11) PZL) B (.slice (some ⟨g, 0, none⟩) (n - 1) cp) (n - 1) (fun q => if q < j then f q else f (q + 1))) := hide (by
    have := del_row (World.ownsRow.drew hO) hj
    rw [show m = n - 1 by omega]
    exact this)
  have HS : Hid (∀ k, k ≠ g → ((w.drew.setCells g (j * 11) (mvd f n j)).setCells g (m * 11) PZL).heap[k]? = w.heap[k]?) := hide (fun k hk => ((setCells_os _ _ _).2.2.2.2 k hk).trans ((setCells_os _ _ _).2.2.2.2 k hk))
  have HT : Hid (((w.drew.setCells g (j * 11) (mvd f n j)).setCells g (m * 11) PZL).os = w.os ∧ ((w.drew.setCells g (j * 11) (mvd f n j)).setCells g (m * 11) PZL).tape = w.tape ∧ ((w.drew.setCells g (j * 11) (mvd f n j)).setCells g (m * 11) PZL).output = w.output ∧ ((w.drew.setCells g (j * 11) (mvd f n j)).setCells g (m * 11) PZL).heap.size = w.heap.size) := hide (by
    obtain ⟨a1, a2, a3, a4, _⟩ := setCells_os (g := g) PZL (m * 11) (w.drew.setCells g (j * 11) (mvd f n j))
    obtain ⟨b1, b2, b3, b4, _⟩ := setCells_os (g := g) (mvd f n j) (j * 11) w.drew
    exact ⟨a1.trans b1, a2.trans b2, a3.trans b3, a4.trans b4⟩)
  have hwr : IntKind.i64.wrap ((j : Int) + 1) = (j : Int) + 1 := by rw [IntKind.wrap_i64]; omega
  have hp0 : (0 : Int) ≤ (j : Int) + 1 := by omega
  have hp1 : (j : Int) + 1 ≤ (n : Int) := by omega
  have hp2 : ((j : Int) + 1).toNat = j + 1 := by omega
  have hp3 : (j : Int) ≤ (j : Int) + 1 := by omega
  have hp4 : ((j : Int) == (j : Int) + 1) = false := by simp; omega
  have hp5 : (n : Int) ≤ (cp : Int) := by omega
  have hjc : j ≤ cp := by omega
  have hjn : j ≤ n := by omega
  have hj1 : j + 1 ≤ n := by omega
  have hmle : m ≤ n := by omega
  have hmi : (m : Int) ≤ (n : Int) := by omega
  have hnm : n - m = 1 := by omega
  have hcm : ¬ cp = m := by omega
  have HMM := hide hmn
  clear hcell hfz hsome hml hO hmn hc2
  go_enter Tryz.func67, Tryz.ntmps67
  go_wp2_with fail
  go_region_law (refine step_append_room rfl (.tmp 22) (.tmp 25) 70 rfl 95 i0 11 Tryz.underlying70 hi0 hz1 g 0 j cp (by simp [Act.eval, Act.put]) A (n - (j + 1)) (cp - (j + 1)) (mvd f n j) (by simp [Act.eval, Act.put]) s1.out hnews.out s2.out (by omega) s3.out ?_)
  rw [← hm]
  have HM := hide hm
  clear hm
  go_wp2
  go_ret
  exact ⟨by rw [show n - 1 = m by have := unhide HMM; omega]; rfl, unhide HE, unhide HT, unhide HS⟩
end Go.Proofs.YtnjgebncghdajaaGreatDoor
