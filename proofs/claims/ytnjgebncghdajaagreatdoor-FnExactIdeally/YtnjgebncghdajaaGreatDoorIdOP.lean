/-
  IdO.
-/
import Derived.Test.YtnjgebncghdajaaGreatDoorBi6
namespace Go.Proofs.YtnjgebncghdajaaGreatDoor
open Go.RowKit
set_option linter.unusedVariables false
attribute [local go_sem] run_store_float run_equalIn_float

theorem bts {op : Int} (h1 : 1 ≤ op) (h9 : op ≤ 9) : (bt op 1 != 0) = tabB op ∧ (bt op 2 != 0) = sitB op ∧ (bt op 8 != 0) = (op == 2 || op == 3 || op == 7) := by
  rcases (by omega : op = 1 ∨ op = 2 ∨ op = 3 ∨ op = 4 ∨ op = 5 ∨ op = 6 ∨ op = 7 ∨ op = 8 ∨ op = 9) with rfl | rfl | rfl | rfl | rfl | rfl | rfl | rfl | rfl
  · rw [bt1.1, bt1.2.1, bt1.2.2.2.1]; decide
  · rw [bt2.1, bt2.2.1, bt2.2.2.2.1]; decide
  · rw [bt3.1, bt3.2.1, bt3.2.2.2.1]; decide
  · rw [bt4.1, bt4.2.1, bt4.2.2.2.1]; decide
  · rw [bt5.1, bt5.2.1, bt5.2.2.2.1]; decide
  · rw [bt6.1, bt6.2.1, bt6.2.2.2.1]; decide
  · rw [bt7.1, bt7.2.1, bt7.2.2.2.1]; decide
  · rw [bt8.1, bt8.2.1, bt8.2.2.2.1]; decide
  · rw [bt9.1, bt9.2.1, bt9.2.2.2.1]; decide
theorem fd_keyed (c k n : Int) (f : Nat) (s : ByteArray) (r : Int) (w : World) : (Instr.field 68 (KV c k n f s r) 0).run Tryz.prog w = .ok (.int .i64 c) w := by kernel_rfl
theorem site_key {a : Ac} (h : actB a = true) (h7 : a.op = 7) : kcode a.k = 0 := by
  have h1 := actB_site h h7
  have h2 := (actB_rng h).2.2.1
  unfold kcode
  rw [if_pos h2, if_neg (by omega), if_neg (by omega)]
theorem chk_by {a : Ac} (h : actB a = true) (nt ns : Nat) : chk a nt ns = if (bt a.op 1 != 0) = true ∧ (nt : Int) ≤ a.t then 2 else if (bt a.op 2 != 0) = true ∧ (ns : Int) ≤ a.site then 3 else if (bt a.op 8 != 0) = true ∧ kcode a.k ≠ 0 then 4 else 0 := by
  obtain ⟨_, _, _, _, _, h1, h9⟩ := actB_rng h
  obtain ⟨e1, e2, e3⟩ := bts h1 h9
  unfold chk
  rw [if_neg (by rw [h]; simp), e1, e2, e3]
  by_cases h7 : a.op = 7
  · have hk := site_key h h7
    simp [hk]
  · congr 2
    simp [h7]

set_option maxRecDepth 100000 in
set_option maxHeartbeats 8000000 in
theorem check_any (a : Ac) (nt ns : Nat) (w : World) (hnt : nt ≤ 100) (hns : ns ≤ 50) :
    Calls Tryz.prog 49 #[AcV a, .int .i64 nt, .int .i64 ns] w fun e w' => e = .returned (errV (chk a nt ns)) ∧ Below w.heap.size w w' := by
  obtain ⟨W, hW⟩ : ∃ W, W = w.alloc (.cells #[.int .i64 a.op, .int .i64 a.t, .int .i64 a.site, .int .i64 a.n, .int .i64 a.k.kind, .int .i64 a.k.num, .float .f64 a.k.flt, .string a.k.str, .int .i64 a.k.ref, .int .i64 a.v.kind, .int .i64 a.v.num, .float .f64 a.v.flt, .string a.v.str, .int .i64 a.v.ref] 48) := ⟨_, rfl⟩
  have hb0 : Below w.heap.size w W := by rw [hW]; exact (Below.refl _ _).alloc (Nat.le_refl _) _
  have c0 : W.cell? ⟨w.heap.size, 0, none⟩ = some (.int .i64 a.op) := by rw [hW]; simp [go_sem]
  have c1 : W.cell? ⟨w.heap.size, 1, none⟩ = some (.int .i64 a.t) := by rw [hW]; simp [go_sem]
  have c2 : W.cell? ⟨w.heap.size, 2, none⟩ = some (.int .i64 a.site) := by rw [hW]; simp [go_sem]
  have c4 : W.cell? ⟨w.heap.size, 4, none⟩ = some (.int .i64 a.k.kind) := by rw [hW]; simp [go_sem]
  have c5 : W.cell? ⟨w.heap.size, 5, none⟩ = some (.int .i64 a.k.num) := by rw [hW]; simp [go_sem]
  have c6 : W.cell? ⟨w.heap.size, 6, none⟩ = some (.float .f64 a.k.flt) := by rw [hW]; simp [go_sem]
  have c7 : W.cell? ⟨w.heap.size, 7, none⟩ = some (.string a.k.str) := by rw [hW]; simp [go_sem]
  have c8 : W.cell? ⟨w.heap.size, 8, none⟩ = some (.int .i64 a.k.ref) := by rw [hW]; simp [go_sem]
  have hz : w.heap.size < W.heap.size := by rw [hW]; simp
  have HC := hide (And.intro c0 (And.intro c1 (And.intro c2 (And.intro c4 (And.intro c5 (And.intro c6 (And.intro c7 c8)))))))
  have HB := hide hb0
  clear hb0 c0 c1 c2 c4 c5 c6 c7 c8
  go_enter Tryz.func49, Tryz.ntmps49
  go_wp2_with fail
  rw [← hW]
  clear hW
  refine (implActOk a _).mono ?_
  rintro e w1 ⟨rfl, hb1⟩
  have HB1 := hide ((unhide HB).trans (hb1.mono (unhide HB).size))
  have hz1 : w.heap.size < w1.heap.size := Nat.lt_of_lt_of_le hz hb1.size
  have c0 := (hb1.cell (p := ⟨w.heap.size, 0, none⟩) hz).trans (unhide HC).1
  have HC1 : Hid (w1.heap[w.heap.size]? = W.heap[w.heap.size]?) := hide (hb1.block _ hz)
  clear hb1
  cases hA : actB a
  · have HR : Hid (chk a nt ns = 1) := hide (by unfold chk; rw [if_pos hA])
    go_wp2_with fail
    go_ret
    exact ⟨by rw [unhide HR]; rfl, unhide HB1⟩
  · have HR := hide (chk_by hA nt ns)
    obtain ⟨_, _, _, _, _, h1, h9⟩ := actB_rng hA
    obtain ⟨fn, hix⟩ := ix_deeds a.op (by omega) (by omega)
    have hfd := fd_deed
    clear h1 h9
    go_wp2_with fail
    refine wp_region_quiet (C := fun w' => Below w1.heap.size w1 w') (by kernel_rfl) (by kernel_rfl) ((Below.refl _ _).drew) ?_
    show wpQuiet _ _ _ _ [_, _, _, _, _, _] _
    refine wpQuiet_step (fun K hK => ?_)
    go_simp
    apply Exists.intro
    refine And.intro (fun w' hw' => ?_) (hK _ ?_)
    · refine (deeds_any _).mono ?_
      rintro e w'' ⟨rfl, hb⟩
      exact ⟨rfl, hw'.trans (hb.mono hw'.size)⟩
    clear hK K
    refine wpQuiet_step (fun K hK => ?_)
    go_simp
    refine ⟨_, fun w' hw' => rfl, hK _ ?_⟩
    clear hK K
    refine wpQuiet_step (fun K hK => ?_)
    go_simp
    apply Exists.intro
    refine And.intro (fun w' hw' => ?_) (hK _ ?_)
    · obtain ⟨hc', hf'⟩ := bcell hw'
      go_simp
      first | rfl | exact ⟨rfl, rfl⟩ | exact ⟨rfl⟩
    clear hK K
    refine wpQuiet_step (fun K hK => ?_)
    go_simp
    apply Exists.intro
    refine And.intro (fun w' hw' => ?_) (hK _ ?_)
    · rfl
    clear hK K
    refine wpQuiet_step (fun K hK => ?_)
    go_simp
    apply Exists.intro
    refine And.intro (fun w' hw' => ?_) (hK _ ?_)
    · rfl
    clear hK K
    refine wpQuiet_step (fun K hK => ?_)
    go_simp
    refine ⟨_, fun w' hw' => rfl, hK _ ?_⟩
    clear hK K
    refine wpQuiet_nil ?_
    intro w2 hb2
    have hz2 : w.heap.size < w2.heap.size := Nat.lt_of_lt_of_le hz1 hb2.size
    have hk2 := (hb2.block _ hz1).trans (unhide HC1)
    obtain ⟨_, c1, c2, c4, c5, c6, c7, c8⟩ := unhide HC
    have c1 := (World.cell?_of_block (a := ⟨w.heap.size, 1, none⟩) hk2).trans c1
    have c2 := (World.cell?_of_block (a := ⟨w.heap.size, 2, none⟩) hk2).trans c2
    have c4 := (World.cell?_of_block (a := ⟨w.heap.size, 4, none⟩) hk2).trans c4
    have c5 := (World.cell?_of_block (a := ⟨w.heap.size, 5, none⟩) hk2).trans c5
    have c6 := (World.cell?_of_block (a := ⟨w.heap.size, 6, none⟩) hk2).trans c6
    have c7 := (World.cell?_of_block (a := ⟨w.heap.size, 7, none⟩) hk2).trans c7
    have c8 := (World.cell?_of_block (a := ⟨w.heap.size, 8, none⟩) hk2).trans c8
    have HB2 := hide ((unhide HB1).trans (hb2.mono (unhide HB1).size))
    have hkp := keyV_parts a.k
    have HKP := hide hkp
    have hfk := fd_keyed
    clear hb2 hk2 hix hfd HC1 c0 hkp
    generalize hb1' : (bt a.op 1 != 0) = x1 at HR
    generalize hb2' : (bt a.op 2 != 0) = x2 at HR
    generalize hb3' : (bt a.op 8 != 0) = x3 at HR
    by_cases g1 : x1 = true ∧ (nt : Int) ≤ a.t
    · have HE : Hid (chk a nt ns = 2) := hide ((unhide HR).trans (if_pos g1))
      obtain ⟨rfl, g1⟩ := g1
      go_wp2_with fail
      go_ret
      exact ⟨by rw [unhide HE]; rfl, unhide HB2⟩
    · have HR1 := hide ((unhide HR).trans (if_neg g1))
      have q1 : x1 = false ∨ (x1 = true ∧ ¬ (nt : Int) ≤ a.t) := by
        cases x1
        · exact .inl rfl
        · exact .inr ⟨rfl, fun h => g1 ⟨rfl, h⟩⟩
      clear g1
      by_cases g2 : x2 = true ∧ (ns : Int) ≤ a.site
      · have HE : Hid (chk a nt ns = 3) := hide ((unhide HR1).trans (if_pos g2))
        obtain ⟨rfl, g2⟩ := g2
        rcases q1 with rfl | ⟨rfl, g1⟩
        all_goals (go_wp2_with fail; go_ret; exact ⟨by rw [unhide HE]; rfl, unhide HB2⟩)
      · have HR2 := hide ((unhide HR1).trans (if_neg g2))
        have q2 : x2 = false ∨ (x2 = true ∧ ¬ (ns : Int) ≤ a.site) := by
          cases x2
          · exact .inl rfl
          · exact .inr ⟨rfl, fun h => g2 ⟨rfl, h⟩⟩
        clear g2
        cases x3
        · have HE : Hid (chk a nt ns = 0) := hide ((unhide HR2).trans (if_neg (by simp)))
          rcases q1 with rfl | ⟨rfl, g1⟩ <;> rcases q2 with rfl | ⟨rfl, g2⟩
          all_goals (go_wp2_with fail; go_ret; exact ⟨by rw [unhide HE]; rfl, unhide HB2⟩)
        · by_cases g3 : kcode a.k = 0
          · have HE : Hid (chk a nt ns = 0) := hide ((unhide HR2).trans (if_neg (by simp [g3])))
            have d3 : (kcode a.k != 0) = false := by simp [g3]
            clear g3
            rcases q1 with rfl | ⟨rfl, g1⟩ <;> rcases q2 with rfl | ⟨rfl, g2⟩
            all_goals (go_wp2_with (go_at_call 63; refine (ikey_any a.k.kind a.k.num a.k.flt a.k.str a.k.ref _).mono ?_; rintro e w3 ⟨rfl, hb3⟩; rw [unhide HKP]); go_ret; exact ⟨by rw [unhide HE]; rfl, (unhide HB2).trans (hb3.mono (unhide HB2).size)⟩)
          · have HE : Hid (chk a nt ns = 4) := hide ((unhide HR2).trans (if_pos ⟨rfl, g3⟩))
            have d3 : (kcode a.k != 0) = true := by simp [g3]
            clear g3
            rcases q1 with rfl | ⟨rfl, g1⟩ <;> rcases q2 with rfl | ⟨rfl, g2⟩
            all_goals (go_wp2_with (go_at_call 63; refine (ikey_any a.k.kind a.k.num a.k.flt a.k.str a.k.ref _).mono ?_; rintro e w3 ⟨rfl, hb3⟩; rw [unhide HKP]); go_ret; exact ⟨by rw [unhide HE]; rfl, (unhide HB2).trans (hb3.mono (unhide HB2).size)⟩)
end Go.Proofs.YtnjgebncghdajaaGreatDoor
