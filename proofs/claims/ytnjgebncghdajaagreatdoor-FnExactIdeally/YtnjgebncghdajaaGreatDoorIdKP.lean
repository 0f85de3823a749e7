/-
  IdK.
-/
import Derived.Test.YtnjgebncghdajaaGreatDoorBi7
namespace Go.Proofs.YtnjgebncghdajaaGreatDoor
open Go.RowKit
set_option linter.unusedVariables false
attribute [local go_sem] run_store_float run_equalIn_float

set_option maxRecDepth 100000 in
set_option maxHeartbeats 8000000 in
theorem l5put_any (c B i : Nat) (vT vS : Value) (U : Nat → Value) (D : Ds) (k v : Vl) (w : World) (hD : DeskM 45 w c B vT vS U D) (hi : i < D.nt) (hG : D.Good) :
    Calls Tryz.prog 30 #[.pointer (some ⟨c, 0, none⟩), .int .i64 i, V k.kind k.num k.flt k.str k.ref, V v.kind v.num v.flt v.str v.ref] w fun e w' => e = .returned (.int .i64 ((D.T i).code k v)) ∧ ∃ U', DeskM 45 w' c B vT vS U' (D.putT i k v) ∧ Dst (OwnD c vT vS U D.nt) w (OwnD c vT vS U' D.nt) w' := by
  have hn := (hG.t i hi).n
  have hnt := hG.nt
  have htr := (hG.t i hi).hi
  have htl := (hG.t i hi).lo
  obtain ⟨g, cp, a, ac, rfl, hg, eU, g0, g1, _⟩ := hD.look hi
  obtain ⟨c0, _⟩ := hD.cells
  have hl := hD.lt
  obtain ⟨W, hW⟩ : ∃ W, W = ((w.alloc (.cells #[.int .i64 k.kind, .int .i64 k.num, .float .f64 k.flt, .string k.str, .int .i64 k.ref] 46)).alloc (.cells #[.int .i64 v.kind, .int .i64 v.num, .float .f64 v.flt, .string v.str, .int .i64 v.ref] 46)).alloc (.cells #[.slice a (D.T i).n ac, .int .i64 (D.T i).turns] 72) := ⟨_, rfl⟩
  have hb0 : Below w.heap.size w W := by rw [hW]; exact (((Below.refl _ _).alloc (Nat.le_refl _) _).alloc (by simp) _).alloc (by simp; omega) _
  have hK : VBx W w.heap.size k := ⟨by rw [hW]; simp; omega, by rw [hW]; simp [go_sem], by rw [hW]; simp [go_sem], by rw [hW]; simp [go_sem], by rw [hW]; simp [go_sem], by rw [hW]; simp [go_sem]⟩
  have hV : VBx W (w.heap.size + 1) v := ⟨by rw [hW]; simp, by rw [hW]; simp [go_sem], by rw [hW]; simp [go_sem], by rw [hW]; simp [go_sem], by rw [hW]; simp [go_sem], by rw [hW]; simp [go_sem]⟩
  have p0 : W.cell? ⟨w.heap.size + 1 + 1, 0, none⟩ = some (.slice a (D.T i).n ac) := by rw [hW]; simp [go_sem]
  have p1 : W.cell? ⟨w.heap.size + 1 + 1, 1, none⟩ = some (.int .i64 (D.T i).turns) := by rw [hW]; simp [go_sem]
  have pl : w.heap.size + 1 + 1 < W.heap.size := by rw [hW]; simp
  have hM := hD.below hb0
  obtain ⟨_, _, a', ac', _, _, eU', _, _, hP⟩ := hM.look hi
  rw [eU] at eU'
  cases eU'
  have HB := hide hb0
  have HM := hide hM
  have HU := hide eU
  have HV := hide hV
  have HKB := hide hK
  have HP := hide hP
  have HG := hide hG
  have HQ := hide (And.intro p0 p1)
  have HOL : Hid (∀ q, OwnD c (.slice (some ⟨g, 0, none⟩) D.nt cp) vS U D.nt q → q < w.heap.size) := hide (fun q h => (hD.rng h).2)
  have HGL := hide (And.intro (hD.tb.lt g rfl).1 (And.intro (Nat.lt_of_lt_of_le (hD.tb.lt g rfl).2 hb0.size) (hD.tb.lt g rfl).2))
  clear hM hb0 hV hK hP eU hD hG p0 p1
  go_enter Tryz.func30, Tryz.ntmps30
  go_wp2_with fail
  rw [← hW]
  clear hW
  refine (l5at_any a ac (D.T i) k _ (unhide HP) hn).mono ?_
  rintro e w1 ⟨rfl, hb1⟩
  have HM1 := hide ((unhide HM).below hb1)
  have HD1 : Hid (Dst (OwnD c (.slice (some ⟨g, 0, none⟩) D.nt cp) vS U D.nt) w (OwnD c (.slice (some ⟨g, 0, none⟩) D.nt cp) vS U D.nt) w1) := hide ((Dst.of_below (unhide HB)).below hb1)
  obtain ⟨vl, v0, v1, v2, v3, v4⟩ := (unhide HV).below hb1 (unhide HV).lt
  have p0 := (hb1.cell (p := ⟨w.heap.size + 1 + 1, 0, none⟩) pl).trans (unhide HQ).1
  have p1 := (hb1.cell (p := ⟨w.heap.size + 1 + 1, 1, none⟩) pl).trans (unhide HQ).2
  have HK1 := hide ((unhide HKB).below hb1 (unhide HKB).lt)
  have HV1 := hide ((unhide HV).below hb1 (unhide HV).lt)
  have pl1 : w.heap.size + 1 + 1 < w1.heap.size := Nat.lt_of_lt_of_le pl hb1.size
  clear hb1 HM HP HV HKB HQ c0 g0 g1 hl hg
  obtain ⟨c0, _⟩ := (unhide HM1).cells
  have hl1 := (unhide HM1).lt
  rcases (D.T i).at_rng k with e | ⟨j, e, hj⟩
  · rw [e]
    by_cases hv : v.kind = 0
    · have HR : Hid ((D.T i).code k v = 0 ∧ D.putT i k v = D) := hide (by
        unfold Pl.code Ds.putT Pl.put
        rw [e, if_neg (by omega), if_pos hv, if_neg (by omega), if_pos hv, up1_id]
        exact ⟨rfl, rfl⟩)
      have d0 : (v.kind == 0) = true := by simp [hv]
      clear hv
      go_wp2_with fail
      go_ret
      exact ⟨by rw [(unhide HR).1]; rfl, U, by rw [(unhide HR).2]; exact unhide HM1, unhide HD1⟩
    · have d0 : (v.kind == 0) = false := by simp [hv]
      by_cases hf : (D.T i).full = true
      · have HR : Hid ((D.T i).code k v = 5 ∧ D.putT i k v = D) := hide (by
          unfold Pl.code Ds.putT Pl.put
          rw [e, if_neg (by omega), if_neg hv, if_pos hf, if_neg (by omega), if_neg hv, if_pos hf, up1_id]
          exact ⟨rfl, rfl⟩)
        clear hv
        by_cases hm : (D.T i).n = 500
        · have d1 : (((D.T i).n : Int) == 500) = true := by simp; omega
          clear hm hf
          go_wp2_with fail
          go_ret
          exact ⟨by rw [(unhide HR).1]; rfl, U, by rw [(unhide HR).2]; exact unhide HM1, unhide HD1⟩
        · have d1 : (((D.T i).n : Int) == 500) = false := by simp; omega
          have d2 : ((D.T i).turns == 1000000000000) = true := by simpa [Pl.full, hm] using hf
          clear hm hf
          go_wp2_with fail
          go_ret
          exact ⟨by rw [(unhide HR).1]; rfl, U, by rw [(unhide HR).2]; exact unhide HM1, unhide HD1⟩
      · have hf0 : (D.T i).full = false := by simpa using hf
        have hf1 : (D.T i).n ≠ 500 ∧ (D.T i).turns ≠ 1000000000000 := by simpa [Pl.full] using hf0
        have HR : Hid ((D.T i).code k v = 0 ∧ D.putT i k v = { D with T := up1 D.T i ((D.T i).add k v) }) := hide (by
          unfold Pl.code Ds.putT Pl.put
          rw [e, if_neg (by omega), if_neg hv, if_neg hf, if_neg (by omega), if_neg hv, if_neg hf]
          exact ⟨rfl, rfl⟩)
        have d1 : (((D.T i).n : Int) == 500) = false := by simp; omega
        have d2 : ((D.T i).turns == 1000000000000) = false := by simp [hf1.2]
        have hn5 : (D.T i).n < 500 := by omega
        have htr5 : (D.T i).turns < 1000000000000 := by omega
        clear hv hf hf0 hf1
        obtain ⟨g', cp', a', ac', eg, hg1, eU', g0, g1, _⟩ := (unhide HM1).look hi
        cases eg
        have eU2 := (unhide HU).symm.trans eU'
        cases eU2
        have fz1 := World.ownsRow.frozenAt (unhide HM1).tb (i * 2 + 1)
        have hwr : IntKind.i64.wrap ((D.T i).turns + 1) = (D.T i).turns + 1 := by rw [IntKind.wrap_i64]; omega
        obtain ⟨wt, hwt⟩ : ∃ wt, wt = w1.setCell ⟨g, i * 2 + 1, none⟩ (.int .i64 ((D.T i).turns + 1)) := ⟨_, rfl⟩
        go_wp2_with fail
        rw [← hwt]
        have hwb : ∀ q, q ≠ g → wt.heap[q]? = w1.heap[q]? := fun q hq => by rw [hwt]; exact Deep.blk_setCell_other _ _ _ _ (by exact hq)
        have hws : wt.heap.size = w1.heap.size := by rw [hwt]; simp
        have hcg : c ≠ g := fun e => (unhide HM1).tc (by rw [e]; rfl)
        have hBg : B ≤ g ∧ g < W.heap.size ∧ g < w.heap.size := unhide HGL
        have hS0 : HeldA c (w.heap.size + 1 + 1) w.heap.size (w.heap.size + 1) (.slice (some ⟨g, 0, none⟩) D.nt cp) a (D.T i).n ac (D.T i).turns k v wt.drew := by
          refine HeldA.keep (w := w1) ⟨c0, p0, p1, (unhide HK1).c0, (unhide HK1).c1, (unhide HK1).c2, (unhide HK1).c3, (unhide HK1).c4, (unhide HV1).c0, (unhide HV1).c1, (unhide HV1).c2, (unhide HV1).c3, (unhide HV1).c4⟩ (hwb _ hcg) (hwb _ (by omega)) (hwb _ (by omega)) (hwb _ (by omega))
        obtain ⟨i0, hi0, hz0, hz1, hz2⟩ := info_parts infoPair
        have HOW : Hid (POwn wt B (.slice a (D.T i).n ac) (D.T i).n (D.T i).P) := hide (own_keep (by have := (unhide HM1).pr i hi; rw [unhide HU] at this; exact this) fun q e => hwb q (fun e2 => (unhide HM1).tu g i rfl hi (by rw [unhide HU, ← e2]; exact e)))
        have hBs : B ≤ wt.drew.heap.size := by show B ≤ wt.heap.size; have := (unhide HM1).base; omega
        have HWT := hide hwt
        clear hwt hwb
        refine wpN_held (HeldA c (w.heap.size + 1 + 1) w.heap.size (w.heap.size + 1) (.slice (some ⟨g, 0, none⟩) D.nt cp) a (D.T i).n ac (D.T i).turns k v) (by kernel_rfl) ?_
        change wpAnyH _ _ _ _ _ _ _ _ (World.drew _)
        clear vl v0 v1 v2 v3 v4 p0 p1 c0 g0 g1 fz1 d0 d1 d2
        refine tk 0 (v := ?_) rfl (by kernel_rfl) (by rfl) ?_ (by assumption) ?_
        rotate_left
        · intro w' ⟨s0, s1, s2, s3, s4, s5, s6, s7, s8, s9, s10, s11, s12⟩; go_simp; first | done | with_reducible rfl
        simp only [Act.put, List.setIfInBounds_toArray, List.set_cons_succ, List.set_cons_zero]
        refine tk 1 (v := ?_) rfl (by kernel_rfl) (by rfl) ?_ (by assumption) ?_
        rotate_left
        · intro w' ⟨s0, s1, s2, s3, s4, s5, s6, s7, s8, s9, s10, s11, s12⟩; go_simp; first | done | with_reducible rfl
        simp only [Act.put, List.setIfInBounds_toArray, List.set_cons_succ, List.set_cons_zero]
        refine tk 2 (v := ?_) rfl (by kernel_rfl) (by rfl) ?_ (by assumption) ?_
        rotate_left
        · intro w' ⟨s0, s1, s2, s3, s4, s5, s6, s7, s8, s9, s10, s11, s12⟩; go_simp; first | done | with_reducible rfl
        simp only [Act.put, List.setIfInBounds_toArray, List.set_cons_succ, List.set_cons_zero]
        refine tk 3 (v := ?_) rfl (by kernel_rfl) (by rfl) ?_ (by assumption) ?_
        rotate_left
        · intro w' ⟨s0, s1, s2, s3, s4, s5, s6, s7, s8, s9, s10, s11, s12⟩; go_simp; first | done | with_reducible rfl
        simp only [Act.put, List.setIfInBounds_toArray, List.set_cons_succ, List.set_cons_zero]
        refine tk 4 (v := ?_) rfl (by kernel_rfl) (by rfl) ?_ (by assumption) ?_
        rotate_left
        · intro w' ⟨s0, s1, s2, s3, s4, s5, s6, s7, s8, s9, s10, s11, s12⟩; go_simp; first | done | with_reducible rfl
        simp only [Act.put, List.setIfInBounds_toArray, List.set_cons_succ, List.set_cons_zero]
        refine tk 5 (v := ?_) rfl (by kernel_rfl) (by rfl) ?_ (by assumption) ?_
        rotate_left
        · intro w' ⟨s0, s1, s2, s3, s4, s5, s6, s7, s8, s9, s10, s11, s12⟩; go_simp; first | done | with_reducible rfl
        simp only [Act.put, List.setIfInBounds_toArray, List.set_cons_succ, List.set_cons_zero]
        refine tk 6 (v := ?_) rfl (by kernel_rfl) (by rfl) ?_ (by assumption) ?_
        rotate_left
        · intro w' ⟨s0, s1, s2, s3, s4, s5, s6, s7, s8, s9, s10, s11, s12⟩; go_simp; first | done | with_reducible rfl
        simp only [Act.put, List.setIfInBounds_toArray, List.set_cons_succ, List.set_cons_zero]
        refine tk 7 (v := ?_) rfl (by kernel_rfl) (by rfl) ?_ (by assumption) ?_
        rotate_left
        · intro w' ⟨s0, s1, s2, s3, s4, s5, s6, s7, s8, s9, s10, s11, s12⟩; go_simp; first | done | with_reducible rfl
        simp only [Act.put, List.setIfInBounds_toArray, List.set_cons_succ, List.set_cons_zero]
        refine tk 8 (v := ?_) rfl (by kernel_rfl) (by rfl) ?_ (by assumption) ?_
        rotate_left
        · intro w' ⟨s0, s1, s2, s3, s4, s5, s6, s7, s8, s9, s10, s11, s12⟩; go_simp; first | done | with_reducible rfl
        simp only [Act.put, List.setIfInBounds_toArray, List.set_cons_succ, List.set_cons_zero]
        refine tk 9 (v := ?_) rfl (by kernel_rfl) (by rfl) ?_ (by assumption) ?_
        rotate_left
        · intro w' ⟨s0, s1, s2, s3, s4, s5, s6, s7, s8, s9, s10, s11, s12⟩; go_simp; first | done | with_reducible rfl
        simp only [Act.put, List.setIfInBounds_toArray, List.set_cons_succ, List.set_cons_zero]
        refine tk 10 (v := ?_) rfl (by kernel_rfl) (by rfl) ?_ (by assumption) ?_
        rotate_left
        · intro w' ⟨s0, s1, s2, s3, s4, s5, s6, s7, s8, s9, s10, s11, s12⟩; go_simp; first | done | with_reducible rfl
        simp only [Act.put, List.setIfInBounds_toArray, List.set_cons_succ, List.set_cons_zero]
        refine tk 11 (v := ?_) rfl (by kernel_rfl) (by rfl) ?_ (by assumption) ?_
        rotate_left
        · intro w' ⟨s0, s1, s2, s3, s4, s5, s6, s7, s8, s9, s10, s11, s12⟩; go_simp; first | done | with_reducible rfl
        simp only [Act.put, List.setIfInBounds_toArray, List.set_cons_succ, List.set_cons_zero]
        refine tk 12 (v := ?_) rfl (by kernel_rfl) (by rfl) ?_ (by assumption) ?_
        rotate_left
        · intro w' ⟨s0, s1, s2, s3, s4, s5, s6, s7, s8, s9, s10, s11, s12⟩; go_simp; first | done | with_reducible rfl
        simp only [Act.put, List.setIfInBounds_toArray, List.set_cons_succ, List.set_cons_zero]
        refine wpAnyH_ready (rs := [13]) (by kernel_rfl) (by simp) ?_
        refine AllReadyH.cons rfl (fun K hK => ?_) AllReadyH.nil
        go_simp
        have hbX : Below wt.heap.size wt ((wt.alloc (.cells #[.int .i64 k.kind, .int .i64 k.num, .float .f64 k.flt, .string k.str, .int .i64 k.ref, .int .i64 v.kind, .int .i64 v.num, .float .f64 v.flt, .string v.str, .int .i64 v.ref, .int .i64 ((D.T i).turns + 1)] 95)).drew) := ((Below.refl _ _).alloc (Nat.le_refl _) _).drew
        have hS1' := hS0.keep (hbX.block c (by omega)) (hbX.block (w.heap.size + 1 + 1) (by omega)) (hbX.block w.heap.size (by omega)) (hbX.block (w.heap.size + 1) (by omega))
        refine hK.out _ _ hS1' (fun hS1 => ?_)
        clear hK K
        refine wpAnyH_ready (rs := [14]) (by kernel_rfl) (by simp) ?_
        refine AllReadyH.cons rfl (fun K hK => ?_) AllReadyH.nil
        refine step_append_lies _ rfl (.tmp 92) (.tmp 99) 70 rfl B 95 i0 PZ 11 104 Tryz.underlying70 hi0 hz0 hz1 hz2 rfl (by decide) (.slice a (D.T i).n ac) (D.T i).n (pL (D.T i).P (D.T i).n) (by simp [Act.eval]) (World.ownsRow.drew (World.ownsRow.alloc (unhide HOW) _)) ⟨wt.heap.size, 0, none⟩ 1 1 (prL ⟨k, v, (D.T i).turns + 1⟩) (by simp [Act.eval]) rfl (World.news_of_block (w := (wt.alloc (.cells #[.int .i64 k.kind, .int .i64 k.num, .float .f64 k.flt, .string k.str, .int .i64 k.ref, .int .i64 v.kind, .int .i64 v.num, .float .f64 v.flt, .string v.str, .int .i64 v.ref, .int .i64 ((D.T i).turns + 1)] 95)).drew) (Deep.blk_alloc_new wt _)) (by simp [prL, Value.oneCell']) (by decide) (by unfold maxLen; omega) (by omega) (by simp; omega) _ rfl ?_
        intro g3 cp3 w3 hown3 hgr3 hloc3 hlt3
        have hgr3' : World.grownBy ((wt.alloc (.cells #[.int .i64 k.kind, .int .i64 k.num, .float .f64 k.flt, .string k.str, .int .i64 k.ref, .int .i64 v.kind, .int .i64 v.num, .float .f64 v.flt, .string v.str, .int .i64 v.ref, .int .i64 ((D.T i).turns + 1)] 95)).drew) w3 (U i).ownBlock := by rw [unhide HU]; exact hgr3
        have hnU : ∀ q, OwnD c (.slice (some ⟨g, 0, none⟩) D.nt cp) vS U D.nt q → q < w.heap.size := fun q h => unhide HOL q h
        have hUq : ∀ q, (Value.slice a (D.T i).n ac).ownBlock = some q → q < w.heap.size ∧ q ≠ c ∧ q ≠ g := fun q e => ⟨hnU q (.inr (.inr (.inr ⟨i, hi, by rw [unhide HU]; exact e⟩))), fun e2 => (unhide HM1).uc i hi (by rw [unhide HU, ← e2]; exact e), fun e2 => (unhide HM1).tu g i rfl hi (by rw [unhide HU, ← e2]; exact e)⟩
        have hk3 : ∀ q, q < wt.heap.size → (∀ r, (Value.slice a (D.T i).n ac).ownBlock = some r → q ≠ r) → w3.heap[q]? = wt.heap[q]? := fun q hq h => (hgr3.block q (by simp; omega) (fun e => h q e.symm rfl)).trans (hbX.block q hq)
        have hS3 : HeldA c (w.heap.size + 1 + 1) w.heap.size (w.heap.size + 1) (.slice (some ⟨g, 0, none⟩) D.nt cp) a (D.T i).n ac (D.T i).turns k v w3 := hS0.keep (hk3 _ (by omega) (fun r e => fun e2 => (hUq r e).2.1 e2.symm)) (hk3 _ (by omega) (fun r e => by have := (hUq r e).1; omega)) (hk3 _ (by omega) (fun r e => by have := (hUq r e).1; omega)) (hk3 _ (by omega) (fun r e => by have := (hUq r e).1; omega))
        have hN := (unhide HM1).addP hi (k := k) (v := v) (w3 := w3) (X := (wt.alloc (.cells #[.int .i64 k.kind, .int .i64 k.num, .float .f64 k.flt, .string k.str, .int .i64 k.ref, .int .i64 v.kind, .int .i64 v.num, .float .f64 v.flt, .string v.str, .int .i64 v.ref, .int .i64 ((D.T i).turns + 1)] 95)).drew) (by rw [← unhide HWT, ← hws]; exact hbX) hgr3' hown3 (fun q e => by
          rcases hloc3 with h | h
          · left; rw [unhide HU, h]; exact e
          · right; have : q = g3 := by simpa [Value.ownBlock] using e.symm
            rw [this, h]; simp; omega)
        have HN := hide hN
        have x3 : w3.cell? ⟨g, i * 2, none⟩ = some (.slice a (D.T i).n ac) := by
          have h1 := World.cell?_of_block (a := ⟨g, i * 2, none⟩) (hk3 g (by omega) (fun r e e2 => (hUq r e).2.2 e2.symm))
          rw [h1, unhide HWT]
          obtain ⟨_, _, a2, ac2, e1, _, e2, e3, _, _⟩ := (unhide HM1).look hi
          cases e1
          rw [unhide HU] at e2
          cases e2
          rw [cell_set_other (by omega)]
          exact e3
        have f3 : w3.frozen? ⟨g, i * 2, none⟩ = false := by
          have h1 := World.frozen?_of_block (a := ⟨g, i * 2, none⟩) (hk3 g (by omega) (fun r e e2 => (hUq r e).2.2 e2.symm))
          rw [h1, unhide HWT]
          simp [go_sem, World.ownsRow.frozenAt (unhide HM1).tb (i * 2)]
        have hc3 : c < w3.heap.size ∧ g < w3.heap.size := by have := hgr3.size; simp at this; omega
        obtain ⟨hc3, hg3⟩ := hc3
        clear hown3 hgr3 hgr3' hloc3 hk3 hN
        refine hK.out _ _ hS3 (fun hS3' => ?_)
        clear hK K
        refine tk 15 (v := ?_) rfl (by kernel_rfl) (by rfl) ?_ (by assumption) ?_
        rotate_left
        · intro w' ⟨s0, s1, s2, s3, s4, s5, s6, s7, s8, s9, s10, s11, s12⟩; go_simp; first | done | with_reducible rfl
        (try simp only [Act.put]); (try simp only [List.setIfInBounds_toArray]); (try simp only [List.set_cons_succ]); try simp only [List.set_cons_zero]
        refine tk 16 (v := ?_) rfl (by kernel_rfl) (by rfl) ?_ (by assumption) ?_
        rotate_left
        · intro w' ⟨s0, s1, s2, s3, s4, s5, s6, s7, s8, s9, s10, s11, s12⟩; go_simp; first | done | with_reducible rfl
        (try simp only [Act.put]); (try simp only [List.setIfInBounds_toArray]); (try simp only [List.set_cons_succ]); try simp only [List.set_cons_zero]
        refine wpAnyH_ready (rs := [17]) (by kernel_rfl) (by simp) ?_
        refine AllReadyH.cons rfl (fun K hK => ?_) AllReadyH.nil
        go_simp
        refine hK.out _ _ ?_ (fun _ => ?_)
        · refine hS3.keep ?_ ?_ ?_ ?_
          all_goals exact Deep.blk_setCell_other _ _ _ _ (by show _ ≠ g; omega)
        clear hK K
        refine wpAnyH_done (by kernel_rfl) ?_ _
        refine QN.normal ?_
        go_wp2_with fail
        go_ret
        exact ⟨by rw [(unhide HR).1]; rfl, up1 U i (.slice (some ⟨g3, 0, none⟩) ((D.T i).n + 1) cp3), by rw [(unhide HR).2]; exact (unhide HN).1, (unhide HD1).trans (unhide HN).2⟩
  · rw [e]
    obtain ⟨gb, cq, eq1, hB, hgb⟩ := ((unhide HM1).pr i hi).form (by omega)
    have eq2 := (unhide HU).symm.trans eq1
    cases eq2
    have HO := (unhide HM1).pr i hi
    rw [eq1] at HO
    obtain ⟨a2, cq2, eq3, hP1⟩ := HO.at
    cases eq3
    obtain ⟨b', off', eq4, hbl, hcs⟩ := hP1.resolve_left (by omega)
    cases eq4
    by_cases hv : v.kind = 0
    · have HR : Hid ((D.T i).code k v = 0 ∧ D.putT i k v = { D with T := up1 D.T i ((D.T i).del j) }) := hide (by
        unfold Pl.code Ds.putT Pl.put
        rw [e, if_pos (by omega), if_pos (by omega), if_pos hv, Int.toNat_natCast]
        exact ⟨rfl, rfl⟩)
      have d0 : (v.kind == 0) = true := by simp [hv]
      have d0' : (v.kind != 0) = false := by simp [hv]
      clear hv
      obtain ⟨i0, hi0, hz0, hz1, hz2⟩ := info_parts infoPair
      have HCS := hide hcs
      clear hcs hP1 HO
      go_wp2_with fail
      go_loopw [11, 42] (fun o ix wr => ∃ (q : Nat) (u : Value), q ≤ (D.T i).n ∧ ix = .int .i64 q ∧ u = o ∧ POwn wr w1.heap.size u (dcnt j q) ((D.T i).del j).P ∧ Below w1.heap.size w1 wr) (fun _ ix _ => (D.T i).n - (intOf ix).toNat)
      case atStart => exact ⟨0, _, Nat.zero_le _, rfl, rfl, World.ownsRow_nil _ _ _ _, Below.refl _ _⟩
      case round =>
        obtain ⟨q, o, hq, rfl, rfl, ho, hb⟩ := hrel
        have hws := hb.size
        have hdl := dcnt_le j q
        have HB := hide hb
        have HOL2 := hide ho
        by_cases hqn : q < (D.T i).n
        · obtain ⟨e0, e1, e2, e3, e4, e5, e6, e7, e8, e9, e10⟩ := (unhide HCS q hqn).keep (fun r => hb.cell (p := ⟨gb, r, none⟩) hbl)
          rw [Nat.zero_add] at e0 e1 e2 e3 e4 e5 e6 e7 e8 e9 e10
          clear hb ho
          by_cases hqj : q = j
          · subst hqj
            have HN := hide (dcnt_same q)
            go_wp2_with fail
            go_roundw
            case rel => exact ⟨q + 1, _, by omega, by go_num, rfl, by rw [unhide HN]; exact (unhide HOL2).alloc _, (unhide HB).alloc hws _⟩
            case measure => simp [intOf]; omega
          · have HN := hide (dcnt_step hqj)
            have HA := hide (del_at (D.T i) hqj)
            have dj : ((q : Int) == (j : Int)) = false := by simp; omega
            have hltv := hide (unhide HOL2).lt
            clear hqj
            go_wp2_with (first | (at_builtin; refine wpList_append_lies _ rfl _ _ 70 rfl w1.heap.size 95 i0 PZ 11 104 Tryz.underlying70 hi0 hz0 hz1 hz2 rfl (by decide) o (dcnt j q) (pL ((D.T i).del j).P (dcnt j q)) rfl (((unhide HOL2).alloc _).alloc _) ⟨wr.heap.size + 1, 0, none⟩ 1 1 (prL ((D.T i).P q)) rfl rfl (news_after1 wr _ (prL ((D.T i).P q)) _) (prL_one _) (by decide) (by unfold maxLen; omega) (by omega) (by simp; omega) _ rfl ?_; intro g3 cp3 w3 hown3 hgr3 hloc3 hlt3; have HG3 := hide ((((unhide HB).alloc (by omega) _).alloc (by simp; omega) _).trans (grown_below1 hgr3 (fun r e => (unhide hltv r e).1) (by simp; omega))); have HO3 := hide hown3; clear hown3 hgr3) | go_in)
            go_roundw
            case rel =>
              refine ⟨q + 1, _, by omega, by go_num, rfl, ?_, unhide HG3⟩
              rw [unhide HN]
              show w3.ownsRow w1.heap.size _ 11 _ _ (pL ((D.T i).del j).P (dcnt j q) ++ prL (((D.T i).del j).P (dcnt j q)))
              rw [unhide HA]
              exact unhide HO3
            case measure => simp [intOf]; omega
        · have hqe : q = (D.T i).n := by omega
          subst hqe
          obtain ⟨oa, oc, eo, _⟩ := ho.at
          subst eo
          have c0 := (hb.cell (p := ⟨c, 0, none⟩) hl1).trans c0
          obtain ⟨g', cp', a', ac', eg, hg1, eU', g0, g1, _⟩ := (unhide HM1).look hi
          cases eg
          rw [eq1] at eU'
          cases eU'
          have g0 := (hb.cell (p := ⟨g, i * 2, none⟩) hg1).trans g0
          have fz1 := (hb.frozen (p := ⟨g, i * 2, none⟩) hg1).trans (World.ownsRow.frozenAt (unhide HM1).tb (i * 2))
          have hl2 : c < wr.heap.size := Nat.lt_of_lt_of_le hl1 hws
          have hg2 : g < wr.heap.size := Nat.lt_of_lt_of_le hg1 hws
          have hN := (unhide HM1).swap hi (X := wr) (u' := .slice oa (dcnt j (D.T i).n) oc) (t' := (D.T i).del j) rfl ⟨hb.os, hb.tape, hb.output, hb.size⟩ (fun r hr _ => hb.block r hr) (by
            have h := own_mono1 ho (Nat.le_trans (unhide HM1).base (Nat.le_of_lt (unhide HM1).lt))
            have e : dcnt j (D.T i).n = ((D.T i).del j).n := by unfold dcnt; rw [if_neg (by omega)]; rfl
            show World.ownsRow _ _ _ _ _ ((D.T i).del j).n (pL ((D.T i).del j).P ((D.T i).del j).n)
            rw [← e]
            exact h) (fun r e => .inr (ho.lt r e).1)
          have HN := hide hN
          clear hN ho hb hqn g1
          go_wp2_with fail
          go_ret
          exact ⟨by rw [(unhide HR).1]; rfl, up1 U i (.slice oa (dcnt j (D.T i).n) oc), by rw [(unhide HR).2]; exact (unhide HN).1, (unhide HD1).trans (unhide HN).2⟩
    · have HR : Hid ((D.T i).code k v = 0 ∧ D.putT i k v = { D with T := up1 D.T i ((D.T i).setV j v) }) := hide (by
        unfold Pl.code Ds.putT Pl.put
        rw [e, if_pos (by omega), if_pos (by omega), if_neg hv, Int.toNat_natCast]
        exact ⟨rfl, rfl⟩)
      have d0 : (v.kind == 0) = false := by simp [hv]
      clear hv
      obtain ⟨e0, e1, e2, e3, e4, e5, e6, e7, e8, e9, e10⟩ := hcs j hj
      rw [Nat.zero_add] at e0 e1 e2 e3 e4 e5 e6 e7 e8 e9 e10
      have f5 := World.ownsRow.frozenAt HO (j * 11 + 5)
      have f6 := World.ownsRow.frozenAt HO (j * 11 + 5 + 1)
      have f7 := World.ownsRow.frozenAt HO (j * 11 + 5 + 2)
      have f8 := World.ownsRow.frozenAt HO (j * 11 + 5 + 3)
      have f9 := World.ownsRow.frozenAt HO (j * 11 + 5 + 4)
      have hS := (unhide HM1).setV hi (j := j) eq1 hj v
      have HS := hide hS
      clear hcs hP1 hS HO
      go_wp2_with fail
      go_ret
      exact ⟨by rw [(unhide HR).1]; rfl, U, by rw [(unhide HR).2]; exact (unhide HS).1, (unhide HD1).trans (unhide HS).2⟩
end Go.Proofs.YtnjgebncghdajaaGreatDoor
