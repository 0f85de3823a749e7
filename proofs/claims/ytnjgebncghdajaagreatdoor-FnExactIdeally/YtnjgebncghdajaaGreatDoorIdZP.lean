/-
  IdZ.
-/
import Derived.Test.YtnjgebncghdajaaGreatDoorIdYP
import Derived.Test.YtnjgebncghdajaaGreatDoorIdQP
import Derived.Test.YtnjgebncghdajaaGreatDoorBi3
namespace Go.Proofs.YtnjgebncghdajaaGreatDoor
open Go.RowKit
set_option linter.unusedVariables false
set_option linter.unusedSimpArgs false
attribute [local go_sem] run_store_float run_equalIn_float

theorem DeskM.tpt {ty : TypeId} {w : World} {c B g cp : Nat} {vS : Value} {U : Nat → Value} {D : Ds} (h : DeskM ty w c B (.slice (some ⟨g, 0, none⟩) D.nt cp) vS U D) {i : Nat} (hi : i < D.nt) : ∃ a ac, U i = .slice a (D.T i).n ac ∧ TPt w g (i * 2) a ac (D.T i) := by
  obtain ⟨g', cp', a, ac, eg, hg, eU, g0, g1, hP⟩ := h.look hi
  cases eg
  exact ⟨a, ac, eU, hg, g0, g1, hP⟩
def HeldW (g o vb : Nat) (u : Value) (v : Vl) (W : World) : Prop :=
  W.cell? ⟨g, o, none⟩ = some u ∧ W.cell? ⟨vb, 0, none⟩ = some (.int .i64 v.kind) ∧ W.cell? ⟨vb, 1, none⟩ = some (.int .i64 v.num) ∧ W.cell? ⟨vb, 2, none⟩ = some (.float .f64 v.flt) ∧ W.cell? ⟨vb, 3, none⟩ = some (.string v.str) ∧ W.cell? ⟨vb, 4, none⟩ = some (.int .i64 v.ref)
theorem HeldW.keep {g o vb : Nat} {u : Value} {v : Vl} {w w' : World} (h : HeldW g o vb u v w) (hp : w'.heap[g]? = w.heap[g]?) (hv : w'.heap[vb]? = w.heap[vb]?) : HeldW g o vb u v w' := by
  obtain ⟨h1, v0, v1, v2, v3, v4⟩ := h
  exact ⟨(World.cell?_of_block (a := ⟨g, o, none⟩) hp).trans h1, (World.cell?_of_block (a := ⟨vb, 0, none⟩) hv).trans v0, (World.cell?_of_block (a := ⟨vb, 1, none⟩) hv).trans v1, (World.cell?_of_block (a := ⟨vb, 2, none⟩) hv).trans v2, (World.cell?_of_block (a := ⟨vb, 3, none⟩) hv).trans v3, (World.cell?_of_block (a := ⟨vb, 4, none⟩) hv).trans v4⟩

set_option maxRecDepth 100000 in
set_option maxHeartbeats 8000000 in
theorem write_any (c B i g cp : Nat) (vS : Value) (U : Nat → Value) (D : Ds) (k v : Vl) (w : World) (hD : DeskM 55 w c B (.slice (some ⟨g, 0, none⟩) D.nt cp) vS U D) (hi : i < D.nt) (hG : D.Good) :
    Calls Tryz.prog 52 #[.pointer (some ⟨g, i * 2, none⟩), V k.kind k.num k.flt k.str k.ref, V v.kind v.num v.flt v.str v.ref] w fun e w' => e = .returned (errV ((D.T i).code k v)) ∧ ∃ U', DeskM 55 w' c B (.slice (some ⟨g, 0, none⟩) D.nt cp) vS U' (D.putT i k v) ∧ Dst (OwnD c (.slice (some ⟨g, 0, none⟩) D.nt cp) vS U D.nt) w (OwnD c (.slice (some ⟨g, 0, none⟩) D.nt cp) vS U' D.nt) w' := by
  have hn := (hG.t i hi).n
  have hnt := hG.nt
  obtain ⟨W, hW⟩ : ∃ W, W = (w.alloc (.cells #[.int .i64 k.kind, .int .i64 k.num, .float .f64 k.flt, .string k.str, .int .i64 k.ref] 46)).alloc (.cells #[.int .i64 v.kind, .int .i64 v.num, .float .f64 v.flt, .string v.str, .int .i64 v.ref] 46) := ⟨_, rfl⟩
  have hb0 : Below w.heap.size w W := by rw [hW]; exact ((Below.refl _ _).alloc (Nat.le_refl _) _).alloc (by simp) _
  have hK : VBx W w.heap.size k := ⟨by rw [hW]; simp; omega, by rw [hW]; simp [go_sem], by rw [hW]; simp [go_sem], by rw [hW]; simp [go_sem], by rw [hW]; simp [go_sem], by rw [hW]; simp [go_sem]⟩
  have hV : VBx W (w.heap.size + 1) v := ⟨by rw [hW]; simp, by rw [hW]; simp [go_sem], by rw [hW]; simp [go_sem], by rw [hW]; simp [go_sem], by rw [hW]; simp [go_sem], by rw [hW]; simp [go_sem]⟩
  have HOL : Hid (∀ q, OwnD c (.slice (some ⟨g, 0, none⟩) D.nt cp) vS U D.nt q → q < w.heap.size) := hide (fun q h => (hD.rng h).2)
  have HM := hide (hD.below hb0)
  have HB := hide hb0
  have HV := hide hV
  have HKB := hide hK
  have HG := hide hG
  clear hD hb0 hK hV hG
  obtain ⟨a, ac, eU, hT⟩ := (unhide HM).tpt hi
  have HT := hide hT
  have HU := hide eU
  clear hT eU
  go_enter Tryz.func52, Tryz.ntmps52
  go_wp2_with fail
  rw [← hW]
  clear hW
  refine (find_any g (i * 2) a ac (D.T i) k _ (unhide HT) hn).mono ?_
  rintro e w1 ⟨rfl, hb1⟩
  have HX := hide hb1
  obtain ⟨vl, v0, v1, v2, v3, v4⟩ := (unhide HV).below hb1 (unhide HV).lt
  clear hb1
  rcases (D.T i).at_rng k with e | ⟨j, e, hj⟩
  · rw [e]
    by_cases hv : v.kind = 0
    · have HR : Hid ((D.T i).code k v = 0 ∧ D.putT i k v = D) := hide (by
        unfold Pl.code Ds.putT Pl.put
        rw [e, if_neg (by omega), if_pos hv, if_neg (by omega), if_pos hv, up1_id]
        exact ⟨rfl, rfl⟩)
      have HFT : Hid (fateI false v = 0) := hide (by simp [fateI, hv])
      clear hv
      go_wp2_with fail
      refine (fateOf_any false v _).mono ?_
      rw [unhide HFT]
      rintro e w2 ⟨rfl, hb2⟩
      have HX := hide ((unhide HX).trans (hb2.mono (unhide HX).size))
      clear hb2
      go_wp2_with fail
      go_ret
      exact ⟨by rw [(unhide HR).1]; rfl, U, by rw [(unhide HR).2]; exact (unhide HM).below (unhide HX), (Dst.of_below (unhide HB)).below (unhide HX)⟩
    · have HFT : Hid (fateI false v = 1) := hide (by simp [fateI, hv])
      by_cases hf : (D.T i).full = true
      · have HR : Hid ((D.T i).code k v = 5 ∧ D.putT i k v = D) := hide (by
          unfold Pl.code Ds.putT Pl.put
          rw [e, if_neg (by omega), if_neg hv, if_pos hf, if_neg (by omega), if_neg hv, if_pos hf, up1_id]
          exact ⟨rfl, rfl⟩)
        have HF := hide hf
        clear hv hf
        go_wp2_with fail
        refine (fateOf_any false v _).mono ?_
        rw [unhide HFT]
        rintro e w2 ⟨rfl, hb2⟩
        have HX := hide ((unhide HX).trans (hb2.mono (unhide HX).size))
        clear hb2 vl v0 v1 v2 v3 v4
        obtain ⟨vl, v0, v1, v2, v3, v4⟩ := (unhide HV).below (unhide HX) (unhide HV).lt
        obtain ⟨kl, k0, k1, k2, k3, k4⟩ := (unhide HKB).below (unhide HX) (unhide HKB).lt
        go_wp2_with fail
        refine (plAdd_full c B i g cp vS U D k v _ ((unhide HM).below (unhide HX)) hi (unhide HG) (unhide HF)).mono ?_
        rintro e w3 ⟨rfl, hb3⟩
        have HX := hide ((unhide HX).trans (hb3.mono (unhide HX).size))
        clear hb3
        go_wp2_with fail
        go_ret
        exact ⟨by rw [(unhide HR).1]; rfl, U, by rw [(unhide HR).2]; exact (unhide HM).below (unhide HX), (Dst.of_below (unhide HB)).below (unhide HX)⟩
      · have hf0 : (D.T i).full = false := by simpa using hf
        have HR : Hid ((D.T i).code k v = 0 ∧ D.putT i k v = { D with T := up1 D.T i ((D.T i).add k v) }) := hide (by
          unfold Pl.code Ds.putT Pl.put
          rw [e, if_neg (by omega), if_neg hv, if_neg hf, if_neg (by omega), if_neg hv, if_neg hf]
          exact ⟨rfl, rfl⟩)
        have HF := hide hf0
        clear hv hf hf0
        go_wp2_with fail
        refine (fateOf_any false v _).mono ?_
        rw [unhide HFT]
        rintro e w2 ⟨rfl, hb2⟩
        have HX := hide ((unhide HX).trans (hb2.mono (unhide HX).size))
        clear hb2 vl v0 v1 v2 v3 v4
        obtain ⟨vl, v0, v1, v2, v3, v4⟩ := (unhide HV).below (unhide HX) (unhide HV).lt
        obtain ⟨kl, k0, k1, k2, k3, k4⟩ := (unhide HKB).below (unhide HX) (unhide HKB).lt
        go_wp2_with fail
        refine (plAdd_any c B i g cp vS U D k v _ ((unhide HM).below (unhide HX)) hi (unhide HG) (unhide HF)).mono ?_
        rintro e w3 ⟨rfl, U', hM3, hD3⟩
        have HM3 := hide hM3
        have HD3 := hide hD3
        clear hM3 hD3
        go_wp2_with fail
        go_ret
        exact ⟨by rw [(unhide HR).1]; rfl, U', by rw [(unhide HR).2]; exact unhide HM3, ((Dst.of_below (unhide HB)).below (unhide HX)).trans (unhide HD3)⟩
  · rw [e]
    have dge : decide ((0 : Int) ≤ (j : Int)) = true := by simp
    obtain ⟨gb, cq, eq1, hB, hgb⟩ := ((unhide HM).pr i hi).form (by omega)
    have eq2 := (unhide HU).symm.trans eq1
    cases eq2
    by_cases hv : v.kind = 0
    · have HR : Hid ((D.T i).code k v = 0 ∧ D.putT i k v = { D with T := up1 D.T i ((D.T i).del j) }) := hide (by
        unfold Pl.code Ds.putT Pl.put
        rw [e, if_pos (by omega), if_pos (by omega), if_pos hv, Int.toNat_natCast]
        exact ⟨rfl, rfl⟩)
      have HFT : Hid (fateI true v = 3) := hide (by simp [fateI, hv])
      clear hv
      go_wp2_with fail
      refine (fateOf_any true v _).mono ?_
      rw [unhide HFT]
      rintro e w2 ⟨rfl, hb2⟩
      have HX := hide ((unhide HX).trans (hb2.mono (unhide HX).size))
      clear hb2 vl v0 v1 v2 v3 v4
      have HM2 := hide ((unhide HM).below (unhide HX))
      obtain ⟨hgl, g0, g1, _⟩ := (unhide HT).below (unhide HX)
      have hwr : IntKind.i64.wrap ((j : Int) + 1) = (j : Int) + 1 := by rw [IntKind.wrap_i64]; omega
      have HOW : Hid (POwn w2 B (.slice (some ⟨gb, 0, none⟩) (D.T i).n ac) (D.T i).n (D.T i).P) := hide (by have := (unhide HM2).pr i hi; rw [unhide HU] at this; exact this)
      have hne : g ≠ gb := fun e2 => (unhide HM2).tu g i rfl hi (by rw [unhide HU, e2]; rfl)
      have fz := World.ownsRow.frozenAt (unhide HM2).tb (i * 2)
      go_wp2_with fail
      refine (delete_any B gb (D.T i).n ac j (D.T i).P _ (unhide HOW) hj hn).mono ?_
      rintro e w3 ⟨rfl, hown3, hos3, hk3⟩
      have g0' := (World.cell?_of_block (a := ⟨g, i * 2, none⟩) (hk3 g hne)).trans g0
      have fz' := (World.frozen?_of_block (a := ⟨g, i * 2, none⟩) (hk3 g hne)).trans fz
      have hgl' : g < w3.heap.size := by rw [hos3.2.2.2]; exact hgl
      have hN := (unhide HM2).swap hi (X := w3) (u' := .slice (some ⟨gb, 0, none⟩) ((D.T i).n - 1) ac) (t' := (D.T i).del j) rfl ⟨hos3.1, hos3.2.1, hos3.2.2.1, Nat.le_of_eq hos3.2.2.2.symm⟩ (fun q _ h => hk3 q (fun e => h (by rw [unhide HU, e]; rfl))) hown3 (fun q e => .inl (by rw [unhide HU]; exact e))
      have HN := hide hN
      clear hN hown3 hos3 hk3 g0 g1 fz hgl
      go_wp2_with fail
      go_ret
      exact ⟨by rw [(unhide HR).1]; rfl, up1 U i (.slice (some ⟨gb, 0, none⟩) ((D.T i).n - 1) ac), by rw [(unhide HR).2]; exact (unhide HN).1, ((Dst.of_below (unhide HB)).below (unhide HX)).trans (unhide HN).2⟩
    · have HR : Hid ((D.T i).code k v = 0 ∧ D.putT i k v = { D with T := up1 D.T i ((D.T i).setV j v) }) := hide (by
        unfold Pl.code Ds.putT Pl.put
        rw [e, if_pos (by omega), if_pos (by omega), if_neg hv, Int.toNat_natCast]
        exact ⟨rfl, rfl⟩)
      have HFT : Hid (fateI true v = 2) := hide (by simp [fateI, hv])
      clear hv
      go_wp2_with fail
      refine (fateOf_any true v _).mono ?_
      rw [unhide HFT]
      rintro e w2 ⟨rfl, hb2⟩
      have HX := hide ((unhide HX).trans (hb2.mono (unhide HX).size))
      clear hb2 vl v0 v1 v2 v3 v4
      have HM2 := hide ((unhide HM).below (unhide HX))
      obtain ⟨hgl, g0, g1, hP⟩ := (unhide HT).below (unhide HX)
      obtain ⟨vl, v0, v1, v2, v3, v4⟩ := (unhide HV).below (unhide HX) (unhide HV).lt
      have hS0 : HeldW g (i * 2) (w.heap.size + 1) (.slice (some ⟨gb, 0, none⟩) (D.T i).n ac) v w2.drew := ⟨g0, v0, v1, v2, v3, v4⟩
      obtain ⟨b', off', eq4, hbl, hcs⟩ := hP.resolve_left (by omega)
      cases eq4
      obtain ⟨e0, e1, e2, e3, e4, e5, e6, e7, e8, e9, e10⟩ := hcs j hj
      rw [Nat.zero_add] at e0 e1 e2 e3 e4 e5 e6 e7 e8 e9 e10
      have HOW : POwn w2 B (.slice (some ⟨gb, 0, none⟩) (D.T i).n ac) (D.T i).n (D.T i).P := by have := (unhide HM2).pr i hi; rw [unhide HU] at this; exact this
      have f5 := World.ownsRow.frozenAt HOW (j * 11 + 5)
      have f6 := World.ownsRow.frozenAt HOW (j * 11 + 5 + 1)
      have f7 := World.ownsRow.frozenAt HOW (j * 11 + 5 + 2)
      have f8 := World.ownsRow.frozenAt HOW (j * 11 + 5 + 3)
      have f9 := World.ownsRow.frozenAt HOW (j * 11 + 5 + 4)
      have hne : g ≠ gb := fun e2 => (unhide HM2).tu g i rfl hi (by rw [unhide HU, e2]; rfl)
      have hgw : gb < w.heap.size := unhide HOL gb (.inr (.inr (.inr ⟨i, hi, by rw [unhide HU]; rfl⟩)))
      have hS := (unhide HM2).setV hi (j := j) (unhide HU) hj v
      have HS := hide hS
      clear hcs hP hS HOW g1
      go_wp2_with fail
      refine wpN_held (HeldW g (i * 2) (w.heap.size + 1) (.slice (some ⟨gb, 0, none⟩) (D.T i).n ac) v) (by kernel_rfl) ?_
      change wpAnyH _ _ _ _ _ _ _ _ (World.drew _)
      clear v0 v1 v2 v3 v4 g0
      refine tk 0 (v := ?_) rfl (by kernel_rfl) (by rfl) ?_ (by assumption) ?_
      rotate_left
      · intro w' ⟨s0, s1, s2, s3, s4, s5⟩; go_simp; first | done | with_reducible rfl
      simp only [Act.put, List.setIfInBounds_toArray, List.set_cons_succ, List.set_cons_zero]
      refine tk 1 (v := ?_) rfl (by kernel_rfl) (by rfl) ?_ (by assumption) ?_
      rotate_left
      · intro w' ⟨s0, s1, s2, s3, s4, s5⟩; go_simp; first | done | with_reducible rfl
      simp only [Act.put, List.setIfInBounds_toArray, List.set_cons_succ, List.set_cons_zero]
      refine tk 2 (v := ?_) rfl (by kernel_rfl) (by rfl) ?_ (by assumption) ?_
      rotate_left
      · intro w' ⟨s0, s1, s2, s3, s4, s5⟩; go_simp; first | done | with_reducible rfl
      simp only [Act.put, List.setIfInBounds_toArray, List.set_cons_succ, List.set_cons_zero]
      refine tk 3 (v := ?_) rfl (by kernel_rfl) (by rfl) ?_ (by assumption) ?_
      rotate_left
      · intro w' ⟨s0, s1, s2, s3, s4, s5⟩; go_simp; first | done | with_reducible rfl
      simp only [Act.put, List.setIfInBounds_toArray, List.set_cons_succ, List.set_cons_zero]
      refine tk 4 (v := ?_) rfl (by kernel_rfl) (by rfl) ?_ (by assumption) ?_
      rotate_left
      · intro w' ⟨s0, s1, s2, s3, s4, s5⟩; go_simp; first | done | with_reducible rfl
      simp only [Act.put, List.setIfInBounds_toArray, List.set_cons_succ, List.set_cons_zero]
      refine tk 5 (v := ?_) rfl (by kernel_rfl) (by rfl) ?_ (by assumption) ?_
      rotate_left
      · intro w' ⟨s0, s1, s2, s3, s4, s5⟩; go_simp; first | done | with_reducible rfl
      simp only [Act.put, List.setIfInBounds_toArray, List.set_cons_succ, List.set_cons_zero]
      refine tk 6 (v := ?_) rfl (by kernel_rfl) (by rfl) ?_ (by assumption) ?_
      rotate_left
      · intro w' ⟨s0, s1, s2, s3, s4, s5⟩; go_simp; first | done | with_reducible rfl
      simp only [Act.put, List.setIfInBounds_toArray, List.set_cons_succ, List.set_cons_zero]
      refine tk 7 (v := ?_) rfl (by kernel_rfl) (by rfl) ?_ (by assumption) ?_
      rotate_left
      · intro w' ⟨s0, s1, s2, s3, s4, s5⟩; go_simp; first | done | with_reducible rfl
      simp only [Act.put, List.setIfInBounds_toArray, List.set_cons_succ, List.set_cons_zero]
      refine wpAnyH_ready (rs := [8]) (by kernel_rfl) (by simp) ?_
      refine AllReadyH.cons rfl (fun K hK => ?_) AllReadyH.nil
      go_simp
      refine hK.out _ _ (hS0.keep (set5_blk w2.drew gb (j * 11 + 5) v hne) (set5_blk w2.drew gb (j * 11 + 5) v (by omega))) (fun _ => ?_)
      clear hK K
      refine wpAnyH_done (by kernel_rfl) ?_ _
      refine QN.normal ?_
      go_wp2_with fail
      go_ret
      exact ⟨by rw [(unhide HR).1]; rfl, U, by rw [(unhide HR).2]; exact (unhide HS).1.below (Below.refl _ _).drew, (((Dst.of_below (unhide HB)).below (unhide HX)).trans (unhide HS).2).below (Below.refl _ _).drew⟩
end Go.Proofs.YtnjgebncghdajaaGreatDoor
