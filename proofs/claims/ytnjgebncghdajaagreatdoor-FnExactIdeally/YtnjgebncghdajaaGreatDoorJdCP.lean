/-
  JdC.
-/
import Derived.Test.YtnjgebncghdajaaGreatDoorIdRP
import Derived.Test.YtnjgebncghdajaaGreatDoorBi6
namespace Go.Proofs.YtnjgebncghdajaaGreatDoor
open Go.RowKit
set_option linter.unusedVariables false
set_option linter.unusedSimpArgs false
attribute [local go_sem] run_store_float run_equalIn_float

set_option maxRecDepth 100000 in
set_option maxHeartbeats 8000000 in
theorem addTable_full (c B : Nat) (vT vS : Value) (U : Nat → Value) (D : Ds) (w : World) (hD : DeskM 55 w c B vT vS U D) (hf : D.nt = 100) :
    Calls Tryz.prog 50 #[.pointer (some ⟨c, 0, none⟩)] w fun e w' => e = .returned (.tuple #[AnV (ansC 0), errV 5]) ∧ Below w.heap.size w w' := by
  obtain ⟨ta, tc, rfl⟩ := own_slice hD.tb
  obtain ⟨sa, sc, rfl⟩ := own_slice hD.st
  obtain ⟨c0, c1⟩ := hD.cells
  have hcl := hD.lt
  have d : ((D.nt : Int) == 100) = true := by simp; omega
  clear hf hD
  go_enter Tryz.func50, Tryz.ntmps50
  go_wp2
  exact bodyPost_ret (v := .tuple #[AnV (ansC 0), errV 5]) (by simp [results, Tryz.results50, go_sem, errV, ansC]) rfl ⟨rfl, (Below.refl _ _).alloc (Nat.le_refl _) _⟩
set_option maxRecDepth 100000 in
set_option maxHeartbeats 8000000 in
theorem addTable_more (c B : Nat) (vT vS : Value) (U : Nat → Value) (D : Ds) (w : World) (hD : DeskM 55 w c B vT vS U D) (hG : D.Good) (hf : D.nt ≠ 100) :
    Calls Tryz.prog 50 #[.pointer (some ⟨c, 0, none⟩)] w fun e w' => e = .returned (.tuple #[AnV (ansN D.nt), errV 0]) ∧ ∃ vT' vS' U', DeskM 55 w' c B vT' vS' U' { D with nt := D.nt + 1, T := up1 D.T D.nt ⟨0, fun _ => default, 0⟩ } ∧ Dst (OwnD c vT vS U D.nt) w (OwnD c vT' vS' U' (D.nt + 1)) w' := by
  obtain ⟨ta, tc, rfl⟩ := own_slice hD.tb
  obtain ⟨sa, sc, rfl⟩ := own_slice hD.st
  have hnt := hG.nt
  have hns := hG.ns
  have hcl := hD.lt
  obtain ⟨i0, hi0, hz0, hz1, hz2⟩ := info_parts infoPlain
  obtain ⟨W, hW⟩ : ∃ W, W = w.alloc (.cells An0 50) := ⟨_, rfl⟩
  have hbW : Below w.heap.size w W := by rw [hW]; exact (Below.refl _ _).alloc (Nat.le_refl _) _
  have hR : RBx W w.heap.size := by rw [hW]; exact Deep.blk_alloc_new _ _
  have hz : w.heap.size < W.heap.size := hR.lt
  have hsz : W.heap.size = w.heap.size + 1 := by rw [hW]; simp
  have hM := hD.below hbW
  have HO : Hid (∀ k, OwnD c (.slice ta D.nt tc) (.slice sa D.ns sc) U D.nt k → k < w.heap.size) := hide (fun k h => (hD.rng h).2)
  have hbX : Below W.heap.size W (W.alloc (.cells #[.slice none 0 0, .int .i64 0] 72)) := (Below.refl _ _).alloc (Nat.le_refl _) _
  have HOW := hide (World.ownsRow.alloc hM.tb (.cells #[.slice none 0 0, .int .i64 0] 72))
  have hBc : B ≤ w.heap.size + 1 + 1 := by have := hM.base; have := hbW.size; omega
  have HF : Hid (∀ g3 cp3 w3, w3.ownsRow B 72 2 (.slice (some ⟨g3, 0, none⟩) (D.nt + 1) cp3) (D.nt + 1) (tL U D.T D.nt ++ [.slice none 0 0, .int .i64 0]) → (W.alloc (.cells #[.slice none 0 0, .int .i64 0] 72)).grownBy w3 (Value.ownBlock (.slice ta D.nt tc)) → (Value.ownBlock (.slice ta D.nt tc) = some g3 ∨ g3 = w.heap.size + 1 + 1) →
      w3.cell? ⟨c, 0, none⟩ = some (.slice ta D.nt tc) ∧ w3.frozen? ⟨c, 0, none⟩ = false ∧ c < w3.heap.size ∧ RBx w3 w.heap.size ∧ DeskM 55 (w3.setCell ⟨c, 0, none⟩ (.slice (some ⟨g3, 0, none⟩) (D.nt + 1) cp3)) c B (.slice (some ⟨g3, 0, none⟩) (D.nt + 1) cp3) (.slice sa D.ns sc) (up1 U D.nt (.slice none 0 0)) { D with nt := D.nt + 1, T := up1 D.T D.nt ⟨0, fun _ => default, 0⟩ } ∧ Dst (OwnD c (.slice ta D.nt tc) (.slice sa D.ns sc) U D.nt) W (OwnD c (.slice (some ⟨g3, 0, none⟩) (D.nt + 1) cp3) (.slice sa D.ns sc) (up1 U D.nt (.slice none 0 0)) (D.nt + 1)) (w3.setCell ⟨c, 0, none⟩ (.slice (some ⟨g3, 0, none⟩) (D.nt + 1) cp3))) := hide (fun g3 cp3 w3 h1 h2 h3 => by
    obtain ⟨k1, k2, k3⟩ := hM.moreT hbX h2 h1 (h3.imp id (fun e => by omega))
    refine ⟨by rw [cell_of_row w3 c 0 _ _ _ k1]; rfl, by simp [World.frozen?, k1], blk_lt k1, ?_, k2, k3⟩
    have hq := hR.below hbX (by omega)
    exact (h2.block _ hq.lt (fun e => by have := unhide HO w.heap.size (.inr (.inl e.symm)); omega)).trans hq)
  have d : ((D.nt : Int) == 100) = false := by simp; omega
  have HB := hide hbW
  have hne : w.heap.size ≠ c := by omega
  have hne' : c ≠ w.heap.size := by omega
  have hcW : c < W.heap.size := by omega
  have c0 := hD.cells.1
  have c1 := hD.cells.2
  have HZ := hide hz
  clear hf hD hG hM hbX hbW hR hcW hsz hz
  subst hW
  go_enter Tryz.func50, Tryz.ntmps50
  go_wp2_with (first | (at_builtin; refine wpList_append_lies _ rfl _ _ 25 rfl B 72 i0 PlZ 2 32 Tryz.underlying25 hi0 hz0 hz1 hz2 rfl (by decide) (.slice ta D.nt tc) D.nt (tL U D.T D.nt) rfl (unhide HOW) ⟨w.heap.size + 1, 0, none⟩ 1 1 [.slice none 0 0, .int .i64 0] rfl rfl (news_after1 w _ [.slice none 0 0, .int .i64 0] _) (by simp [Value.oneCell']) (by decide) (by unfold maxLen; omega) (by omega) (by simp; omega) (w.heap.size + 1 + 1) (by simp) ?_; intro g3 cp3 w3 hown3 hgr3 hloc3 hlt3; obtain ⟨x0, x1, x2, x3, hM3, hD3⟩ := unhide HF g3 cp3 w3 hown3 hgr3 hloc3; have HM3 := hide hM3; have HD3 := hide hD3; obtain ⟨r0, r1, r2, r3, r4, r5, r6, r7, r8, r9, r10, r11⟩ := x3.all; have fr := x3.frozen; have zr3 := x3.lt; clear hown3 hgr3 hM3 hD3 x3 c0 c1) | go_in)
  refine bodyPost_ret (v := .tuple #[AnV (ansN D.nt), errV 0]) (by simp [results, Tryz.results50, go_sem, zr3, hne, hne', r0, r1, r2, r3, r4, r5, r6, r7, r8, r9, r10, r11, ansN, errV]) rfl ?_
  obtain ⟨m, dd⟩ := fin12 rfl (ansN D.nt) (unhide HB) (unhide HO) (Nat.le_refl _) (unhide HZ) (unhide HM3) (unhide HD3)
  exact ⟨rfl, _, _, _, m, dd⟩
set_option maxRecDepth 100000 in
set_option maxHeartbeats 8000000 in
theorem addSite_full (c B : Nat) (vT vS : Value) (U : Nat → Value) (D : Ds) (s : ByteArray) (w : World) (hD : DeskM 55 w c B vT vS U D) (hf : D.ns = 50) :
    Calls Tryz.prog 51 #[.pointer (some ⟨c, 0, none⟩), .string s] w fun e w' => e = .returned (.tuple #[AnV (ansC 0), errV 5]) ∧ Below w.heap.size w w' := by
  obtain ⟨ta, tc, rfl⟩ := own_slice hD.tb
  obtain ⟨sa, sc, rfl⟩ := own_slice hD.st
  obtain ⟨c0, c1⟩ := hD.cells
  have hcl := hD.lt
  have d : ((D.ns : Int) == 50) = true := by simp; omega
  clear hf hD
  go_enter Tryz.func51, Tryz.ntmps51
  go_wp2
  exact bodyPost_ret (v := .tuple #[AnV (ansC 0), errV 5]) (by simp [results, Tryz.results51, go_sem, errV, ansC]) rfl ⟨rfl, (Below.refl _ _).alloc (Nat.le_refl _) _⟩
set_option maxRecDepth 100000 in
set_option maxHeartbeats 8000000 in
theorem addSite_more (c B : Nat) (vT vS : Value) (U : Nat → Value) (D : Ds) (s : ByteArray) (w : World) (hD : DeskM 55 w c B vT vS U D) (hG : D.Good) (hf : D.ns ≠ 50) :
    Calls Tryz.prog 51 #[.pointer (some ⟨c, 0, none⟩), .string s] w fun e w' => e = .returned (.tuple #[AnV (ansN D.ns), errV 0]) ∧ ∃ vT' vS' U', DeskM 55 w' c B vT' vS' U' { D with ns := D.ns + 1, S := up1 D.S D.ns s } ∧ Dst (OwnD c vT vS U D.nt) w (OwnD c vT' vS' U' D.nt) w' := by
  obtain ⟨ta, tc, rfl⟩ := own_slice hD.tb
  obtain ⟨sa, sc, rfl⟩ := own_slice hD.st
  have hnt := hG.nt
  have hns := hG.ns
  have hcl := hD.lt
  obtain ⟨i0, hi0, hz0, hz1, hz2⟩ := info_parts infoStr1
  obtain ⟨W, hW⟩ : ∃ W, W = w.alloc (.cells An0 50) := ⟨_, rfl⟩
  have hbW : Below w.heap.size w W := by rw [hW]; exact (Below.refl _ _).alloc (Nat.le_refl _) _
  have hR : RBx W w.heap.size := by rw [hW]; exact Deep.blk_alloc_new _ _
  have hz : w.heap.size < W.heap.size := hR.lt
  have hsz : W.heap.size = w.heap.size + 1 := by rw [hW]; simp
  have hM := hD.below hbW
  have HO : Hid (∀ k, OwnD c (.slice ta D.nt tc) (.slice sa D.ns sc) U D.nt k → k < w.heap.size) := hide (fun k h => (hD.rng h).2)
  have hbX : Below W.heap.size W (W.alloc (.cells #[.string s] 9)) := (Below.refl _ _).alloc (Nat.le_refl _) _
  have HOW := hide (World.ownsRow.alloc hM.st (.cells #[.string s] 9))
  have hBc : B ≤ w.heap.size + 1 + 1 := by have := hM.base; have := hbW.size; omega
  have HF : Hid (∀ g3 cp3 w3, w3.ownsRow B 9 1 (.slice (some ⟨g3, 0, none⟩) (D.ns + 1) cp3) (D.ns + 1) (sL D.S D.ns ++ [.string s]) → (W.alloc (.cells #[.string s] 9)).grownBy w3 (Value.ownBlock (.slice sa D.ns sc)) → (Value.ownBlock (.slice sa D.ns sc) = some g3 ∨ g3 = w.heap.size + 1 + 1) →
      w3.cell? ⟨c, 1, none⟩ = some (.slice sa D.ns sc) ∧ w3.frozen? ⟨c, 1, none⟩ = false ∧ c < w3.heap.size ∧ RBx w3 w.heap.size ∧ DeskM 55 (w3.setCell ⟨c, 1, none⟩ (.slice (some ⟨g3, 0, none⟩) (D.ns + 1) cp3)) c B (.slice ta D.nt tc) (.slice (some ⟨g3, 0, none⟩) (D.ns + 1) cp3) U { D with ns := D.ns + 1, S := up1 D.S D.ns s } ∧ Dst (OwnD c (.slice ta D.nt tc) (.slice sa D.ns sc) U D.nt) W (OwnD c (.slice ta D.nt tc) (.slice (some ⟨g3, 0, none⟩) (D.ns + 1) cp3) U D.nt) (w3.setCell ⟨c, 1, none⟩ (.slice (some ⟨g3, 0, none⟩) (D.ns + 1) cp3))) := hide (fun g3 cp3 w3 h1 h2 h3 => by
    obtain ⟨k1, k2, k3⟩ := hM.moreS s hbX h2 h1 (h3.imp id (fun e => by omega))
    refine ⟨by rw [cell_of_row w3 c 1 _ _ _ k1]; rfl, by simp [World.frozen?, k1], blk_lt k1, ?_, k2, k3⟩
    have hq := hR.below hbX (by omega)
    exact (h2.block _ hq.lt (fun e => by have := unhide HO w.heap.size (.inr (.inr (.inl e.symm))); omega)).trans hq)
  have d : ((D.ns : Int) == 50) = false := by simp; omega
  have HB := hide hbW
  have hne : w.heap.size ≠ c := by omega
  have hne' : c ≠ w.heap.size := by omega
  have hcW : c < W.heap.size := by omega
  have c0 := hD.cells.1
  have c1 := hD.cells.2
  have HZ := hide hz
  clear hf hD hG hM hbX hbW hR hcW hsz hz
  subst hW
  go_enter Tryz.func51, Tryz.ntmps51
  go_wp2_with (first | (at_builtin; refine wpList_append_lies _ rfl _ _ 43 rfl B 9 i0 (.string ⟨#[]⟩) 1 16 Tryz.underlying43 hi0 hz0 hz1 hz2 rfl (by decide) (.slice sa D.ns sc) D.ns (sL D.S D.ns) rfl (unhide HOW) ⟨w.heap.size + 1, 0, none⟩ 1 1 [.string s] rfl rfl (news_after1 w _ [.string s] _) (by simp [Value.oneCell']) (by decide) (by unfold maxLen; omega) (by omega) (by simp; omega) (w.heap.size + 1 + 1) (by simp) ?_; intro g3 cp3 w3 hown3 hgr3 hloc3 hlt3; obtain ⟨x0, x1, x2, x3, hM3, hD3⟩ := unhide HF g3 cp3 w3 hown3 hgr3 hloc3; have HM3 := hide hM3; have HD3 := hide hD3; obtain ⟨r0, r1, r2, r3, r4, r5, r6, r7, r8, r9, r10, r11⟩ := x3.all; have fr := x3.frozen; have zr3 := x3.lt; clear hown3 hgr3 hM3 hD3 x3 c0 c1) | go_in)
  refine bodyPost_ret (v := .tuple #[AnV (ansN D.ns), errV 0]) (by simp [results, Tryz.results51, go_sem, zr3, hne, hne', r0, r1, r2, r3, r4, r5, r6, r7, r8, r9, r10, r11, ansN, errV]) rfl ?_
  obtain ⟨m, dd⟩ := fin12 rfl (ansN D.ns) (unhide HB) (unhide HO) (Nat.le_refl _) (unhide HZ) (unhide HM3) (unhide HD3)
  exact ⟨rfl, _, _, _, m, dd⟩
end Go.Proofs.YtnjgebncghdajaaGreatDoor
