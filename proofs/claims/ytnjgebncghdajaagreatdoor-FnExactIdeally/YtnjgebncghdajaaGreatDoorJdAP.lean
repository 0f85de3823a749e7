/-
  JdA.
-/
import Derived.Test.YtnjgebncghdajaaGreatDoorIdRP
import Derived.Test.YtnjgebncghdajaaGreatDoorBi3
import Derived.Test.YtnjgebncghdajaaGreatDoorBi7
namespace Go.Proofs.YtnjgebncghdajaaGreatDoor
open Go.RowKit
set_option linter.unusedVariables false
set_option linter.unusedSimpArgs false
attribute [local go_sem] run_store_float run_equalIn_float

/-- The key at which an act reads or writes. -/
def Ds.keyAt (D : Ds) (a : Ac) : Vl := if a.op = 8 ∨ a.op = 9 then strV (D.S a.site.toNat) else kval a.k
def HeldK (ab c g s : Nat) (vS : Value) (str : ByteArray) (W : World) : Prop :=
  W.cell? ⟨ab, 2, none⟩ = some (.int .i64 s) ∧ W.cell? ⟨c, 1, none⟩ = some vS ∧ W.cell? ⟨g, s, none⟩ = some (.string str)
theorem HeldK.keep {ab c g s : Nat} {vS : Value} {str : ByteArray} {w w' : World} (h : HeldK ab c g s vS str w) (ha : w'.heap[ab]? = w.heap[ab]?) (hc : w'.heap[c]? = w.heap[c]?) (hg : w'.heap[g]? = w.heap[g]?) : HeldK ab c g s vS str w' :=
  ⟨(World.cell?_of_block (a := ⟨ab, 2, none⟩) ha).trans h.1, (World.cell?_of_block (a := ⟨c, 1, none⟩) hc).trans h.2.1, (World.cell?_of_block (a := ⟨g, s, none⟩) hg).trans h.2.2⟩
theorem boxesV (w : World) (a : Ac) : ∃ W, W = (w.alloc (.cells (ActBx a) 48)).alloc (.cells #[.int .i64 0, .int .i64 0, .float .f64 0, .string ⟨#[]⟩, .int .i64 0] 46) ∧ Below w.heap.size w W ∧ ABx W w.heap.size a ∧ VBx W (w.heap.size + 1) nov ∧ (∀ q, W.frozen? ⟨w.heap.size + 1, q, none⟩ = false) ∧ w.heap.size + 1 < W.heap.size := by
  refine ⟨_, rfl, ((Below.refl _ _).alloc (Nat.le_refl _) _).alloc (by simp) _, ?_, ?_, ?_, by simp⟩
  · refine ((Below.refl (w.alloc (.cells (ActBx a) 48)).heap.size _).alloc (Nat.le_refl _) _).block _ (by simp) |>.trans (Deep.blk_alloc_new w _)
  · exact ⟨by simp, by simp [go_sem], by simp [go_sem], by simp [go_sem], by simp [go_sem], by simp [go_sem]⟩
  · intro q; simp [go_sem]

set_option maxRecDepth 100000 in
set_option maxHeartbeats 8000000 in
theorem keyOf_text (c B : Nat) (vT vS : Value) (U : Nat → Value) (D : Ds) (a : Ac) (w : World) (hD : DeskM 55 w c B vT vS U D) (hop : a.op = 8 ∨ a.op = 9) (s : Nat) (es : a.site = s) (hs : s < D.ns) :
    Calls Tryz.prog 53 #[.pointer (some ⟨c, 0, none⟩), AcV a] w fun e w' => e = .returned (V (strV (D.S s)).kind (strV (D.S s)).num (strV (D.S s)).flt (strV (D.S s)).str (strV (D.S s)).ref) ∧ Below w.heap.size w w' := by
  obtain ⟨W, hW, hb0, hA, hR, hF, hz⟩ := boxesV w a
  have hcl := hD.lt
  obtain ⟨g, cq, rfl, hgw, hgs⟩ := hD.site hs
  have c1 := hD.cells.2
  have hwz := hb0.size
  obtain ⟨a0, a1, a2, a3, a4, a5, a6, a7, a8, a9, a10, a11, a12, a13⟩ := hA.all
  rw [es] at a2
  have hS0 : HeldK w.heap.size c g s (.slice (some ⟨g, 0, none⟩) D.ns cq) (D.S s) W.drew := ⟨a2, (hb0.cell (p := ⟨c, 1, none⟩) hcl).trans c1, (hb0.cell (p := ⟨g, s, none⟩) hgw).trans hgs⟩
  have HR := hide hR
  have HF := hide hF
  have HB := hide hb0
  have hns : D.ns ≤ D.ns := Nat.le_refl _
  have dd : (a.op == 8) = true ∨ ((a.op == 8) = false ∧ (a.op == 9) = true) := by rcases hop with h | h <;> simp [h]
  have DD := hide dd
  clear hR hF hb0 hA dd hop es hD c1 hgs a1 a3 a4 a5 a6 a7 a8 a9 a10 a11 a12 a13 a2
  have TAIL : ∀ (K : Prop), K → K := fun _ h => h
  rcases unhide DD with d8 | ⟨d8, d9⟩
  all_goals
    go_enter Tryz.func53, Tryz.ntmps53
    go_wp2_with fail
    rw [← hW]
    clear hW
    refine wpN_held (HeldK w.heap.size c g s (.slice (some ⟨g, 0, none⟩) D.ns cq) (D.S s)) (by kernel_rfl) ?_
    change wpAnyH _ _ _ _ _ _ _ _ (World.drew _)
    refine tk 0 (v := ?_) rfl (by kernel_rfl) (by rfl) ?_ (by assumption) ?_
    rotate_left
    · intro w' ⟨s0, s1, s2⟩; go_simp; first | done | with_reducible rfl
    simp only [Act.put, List.setIfInBounds_toArray, List.set_cons_succ, List.set_cons_zero]
    refine tk 1 (v := ?_) rfl (by kernel_rfl) (by rfl) ?_ (by assumption) ?_
    rotate_left
    · intro w' ⟨s0, s1, s2⟩; go_simp; first | done | with_reducible rfl
    simp only [Act.put, List.setIfInBounds_toArray, List.set_cons_succ, List.set_cons_zero]
    refine tk 2 (v := ?_) rfl (by kernel_rfl) (by rfl) ?_ (by assumption) ?_
    rotate_left
    · intro w' ⟨s0, s1, s2⟩; go_simp; first | done | with_reducible rfl
    simp only [Act.put, List.setIfInBounds_toArray, List.set_cons_succ, List.set_cons_zero]
    refine tk 3 (v := ?_) rfl (by kernel_rfl) (by rfl) ?_ (by assumption) ?_
    rotate_left
    · intro w' ⟨s0, s1, s2⟩; go_simp; first | done | with_reducible rfl
    simp only [Act.put, List.setIfInBounds_toArray, List.set_cons_succ, List.set_cons_zero]
    refine tk 4 (v := ?_) rfl (by kernel_rfl) (by rfl) ?_ (by assumption) ?_
    rotate_left
    · intro w' ⟨s0, s1, s2⟩; go_simp; first | done | with_reducible rfl
    simp only [Act.put, List.setIfInBounds_toArray, List.set_cons_succ, List.set_cons_zero]
    refine tk 5 (v := ?_) rfl (by kernel_rfl) (by rfl) ?_ (by assumption) ?_
    rotate_left
    · intro w' ⟨s0, s1, s2⟩; go_simp; first | done | with_reducible rfl
    simp only [Act.put, List.setIfInBounds_toArray, List.set_cons_succ, List.set_cons_zero]
    refine tk 6 (v := ?_) rfl (by kernel_rfl) (by rfl) ?_ (by assumption) ?_
    rotate_left
    · intro w' ⟨s0, s1, s2⟩; go_simp; first | done | with_reducible rfl
    simp only [Act.put, List.setIfInBounds_toArray, List.set_cons_succ, List.set_cons_zero]
    refine tk 7 (v := ?_) rfl (by kernel_rfl) (by rfl) ?_ (by assumption) ?_
    rotate_left
    · intro w' ⟨s0, s1, s2⟩; go_simp; first | done | with_reducible rfl
    simp only [Act.put, List.setIfInBounds_toArray, List.set_cons_succ, List.set_cons_zero]
    refine wpAnyH_ready (rs := [8]) (by kernel_rfl) (by simp) ?_
    refine AllReadyH.cons rfl (fun K hK => ?_) AllReadyH.nil
    go_simp
    refine (textValue_any (D.S s) _).mono ?_
    rintro e w5 ⟨rfl, hb5⟩
    have hb5 : Below W.heap.size W w5 := Below.trans (Below.refl _ _).drew hb5
    have hS5 := hS0.keep (w' := w5) (hb5.block w.heap.size (by omega)) (hb5.block c (by omega)) (hb5.block g (by omega))
    refine hK.out _ _ hS5 (fun _ => ?_)
    clear hK K hS0
    obtain ⟨rl, r0, r1, r2, r3, r4⟩ := (unhide HR).below hb5 (by omega)
    have fr : ∀ q, w5.frozen? ⟨w.heap.size + 1, q, none⟩ = false := fun q => (hb5.frozen (p := ⟨w.heap.size + 1, q, none⟩) hz).trans (unhide HF q)
    have HX := hide ((unhide HB).trans (hb5.mono (unhide HB).size))
    clear hb5
    refine wpAnyH_ready (rs := [9]) (by kernel_rfl) (by simp) ?_
    refine AllReadyH.cons rfl (fun K hK => ?_) AllReadyH.nil
    go_simp
    refine hK.out _ _ (hS5.keep (set5_blk w5 (w.heap.size + 1) 0 (strV (D.S s)) (by omega)) (set5_blk w5 (w.heap.size + 1) 0 (strV (D.S s)) (by omega)) (set5_blk w5 (w.heap.size + 1) 0 (strV (D.S s)) (by omega))) (fun _ => ?_)
    clear hK K
    refine wpAnyH_done (by kernel_rfl) ?_ _
    refine QN.normal ?_
    go_wp2_with fail
    exact bodyPost_ret (v := V 4 0 0 (D.S s) 0) (by simp [results, Tryz.results53, go_sem, r0, r1, r2, r3, r4, strV]) rfl ⟨rfl, below_set5 (unhide HX) _ (by omega) _ _ _ _ _⟩

theorem fd_keyed1 (c k n : Int) (f : Nat) (s : ByteArray) (r : Int) (w : World) : (Instr.field 68 (KV c k n f s r) 1).run Tryz.prog w = .ok (V k n f s r) w := by kernel_rfl
set_option maxRecDepth 100000 in
set_option maxHeartbeats 8000000 in
theorem keyOf_key (c : Nat) (a : Ac) (w : World) (h8 : a.op ≠ 8) (h9 : a.op ≠ 9) :
    Calls Tryz.prog 53 #[.pointer (some ⟨c, 0, none⟩), AcV a] w fun e w' => e = .returned (V (kval a.k).kind (kval a.k).num (kval a.k).flt (kval a.k).str (kval a.k).ref) ∧ Below w.heap.size w w' := by
  obtain ⟨W, hW, hb0, hA, hR, hF, hz⟩ := boxesV w a
  have HR := hide hR
  have HF := hide hF
  have HB := hide hb0
  have d8 : (a.op == 8) = false := by simp [h8]
  have d9 : (a.op == 9) = false := by simp [h9]
  obtain ⟨kc, ekc⟩ : ∃ kc, kcode a.k = kc := ⟨_, rfl⟩
  obtain ⟨kv, ekv⟩ : ∃ kv, kval a.k = kv := ⟨_, rfl⟩
  rw [ekv]
  have EKC := hide ekc
  have EKV := hide ekv
  have fk := fd_keyed1 kc kv.kind kv.num kv.flt kv.str kv.ref
  clear hb0 hR hF hA h8 h9 ekc ekv
  go_enter Tryz.func53, Tryz.ntmps53
  go_wp2_with fail
  rw [← hW]
  clear hW
  refine (ikey_any a.k.kind a.k.num a.k.flt a.k.str a.k.ref _).mono ?_
  rw [keyV_parts, unhide EKC, unhide EKV]
  rintro e w5 ⟨rfl, hb5⟩
  obtain ⟨rl, r0, r1, r2, r3, r4⟩ := (unhide HR).below hb5 (by omega)
  have fr : ∀ q, w5.frozen? ⟨w.heap.size + 1, q, none⟩ = false := fun q => (hb5.frozen (p := ⟨w.heap.size + 1, q, none⟩) hz).trans (unhide HF q)
  have HX := hide ((unhide HB).trans (hb5.mono (unhide HB).size))
  clear hb5
  go_wp2_with fail
  exact bodyPost_ret (v := V kv.kind kv.num kv.flt kv.str kv.ref) (by simp [results, Tryz.results53, go_sem, r0, r1, r2, r3, r4]) rfl ⟨rfl, below_set5 (unhide HX) _ (by omega) _ _ _ _ _⟩
theorem keyAt_any (c B : Nat) (vT vS : Value) (U : Nat → Value) (D : Ds) (a : Ac) (w : World) (hD : DeskM 55 w c B vT vS U D) (hs : sitB a.op = true → 0 ≤ a.site ∧ a.site < D.ns) :
    Calls Tryz.prog 53 #[.pointer (some ⟨c, 0, none⟩), AcV a] w fun e w' => e = .returned (V (D.keyAt a).kind (D.keyAt a).num (D.keyAt a).flt (D.keyAt a).str (D.keyAt a).ref) ∧ Below w.heap.size w w' := by
  unfold Ds.keyAt
  by_cases h : a.op = 8 ∨ a.op = 9
  · rw [if_pos h]
    have h1 := hs (by rcases h with h | h <;> rw [h] <;> decide)
    exact keyOf_text c B vT vS U D a w hD h a.site.toNat (by omega) (by omega)
  · rw [if_neg h]
    exact keyOf_key c a w (fun e => h (.inl e)) (fun e => h (.inr e))
end Go.Proofs.YtnjgebncghdajaaGreatDoor
