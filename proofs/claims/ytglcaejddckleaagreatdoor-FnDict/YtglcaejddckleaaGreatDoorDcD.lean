/-
  Dicts: the model's rule 2.
-/
import Derived.Test.YtglcaejddckleaaGreatDoorDcC
namespace Go.Proofs.YtglcaejddckleaaGreatDoor
open Go.RowKit
set_option linter.unusedVariables false
attribute [local go_sem] run_store_float run_equalIn_float

theorem logTo_dead {d : Dc} {k : Nat} {live last : Int} (h : logTo d k = some (live, last)) (ht : (d.L k).turn = 0) : logTo d (k + 1) = if noneB (d.L k).key && noneB (d.L k).val then some (live, last) else none := by
  show (match logTo d k with | none => none | some (live, last) => _) = _
  rw [h]
  simp only [ht, if_true]
theorem logTo_live {d : Dc} {k : Nat} {live last : Int} (h : logTo d k = some (live, last)) (ht : (d.L k).turn ≠ 0) : logTo d (k + 1) = if pairB d.turns last (d.L k) then some (live + 1, (d.L k).turn) else none := by
  show (match logTo d k with | none => none | some (live, last) => _) = _
  rw [h]
  simp only [ht, if_false]
theorem not_D2 {d : Dc} {k : Nat} (hk : k < d.n) (h : logTo d (k + 1) = none) : tells (D2 d) = false := tells_no (fun ⟨l, e⟩ => by rw [logTo_none' h (by omega)] at e; cases e)

set_option maxRecDepth 100000 in
set_option maxHeartbeats 2000000 in
theorem l1logok_any (c o : Nat) (la : Option Addr) (lc : Nat) (ia : Option Addr) (ic : Nat) (xa : Option Addr) (xc : Nat) (d : Dc) (w : World) (hD : DPtr w c o la lc ia ic xa xc d) (hS : Small d) :
    Calls Tryz.prog 73 #[Pc c o] w fun e w' => e = .returned (.bool (tells (D2 d))) ∧ Below w.heap.size w w' := by
  have hn := hS.n
  have c0 := hD.c0
  have hlt := hD.lt
  have HD := hide hD
  clear hD hS
  go_enter Tryz.func73, Tryz.ntmps73
  go_wp2
  go_loopw [3, 4, 12] (fun l li i wr => ∃ (k : Nat) (live last : Int), k ≤ d.n ∧ i = .int .i64 k ∧ l = .int .i64 last ∧ li = .int .i64 live ∧ logTo d k = some (live, last) ∧ 0 ≤ live ∧ live ≤ k ∧ Below w.heap.size w wr) (fun _ _ i _ => d.n - (intOf i).toNat)
  case atStart => exact ⟨0, 0, 0, by omega, rfl, rfl, rfl, rfl, by omega, by omega, Below.refl _ _⟩
  case round =>
    clear c0
    obtain ⟨k, live, last, hk, rfl, rfl, rfl, hlog, hl0, hlk, hb⟩ := hrel
    have hD := (unhide HD).below hb
    have c4 := hD.c4
    have c5 := hD.c5
    have hcl := hD.lt
    have HLG := hide hlog
    clear hD hlog
    by_cases hkn : k < d.n
    case neg =>
      have hkn' : k = d.n := by omega
      subst hkn'
      have HB := hide hb
      clear hb
      by_cases he : live = d.live
      · have HT := hide (tells_yes (p := D2 d) ⟨last, by rw [← he]; exact unhide HLG⟩)
        have he' : (live == d.live) = true := by simp [he]
        clear he
        go_wp2
        go_ret
        exact ⟨by rw [unhide HT]; simp, unhide HB⟩
      · have HT := hide (tells_no (p := D2 d) (fun ⟨l, e⟩ => by rw [unhide HLG] at e; simp only [Option.some.injEq, Prod.mk.injEq] at e; exact he e.1))
        have he' : (live == d.live) = false := by simp [he]
        clear he
        go_wp2
        go_ret
        exact ⟨by rw [unhide HT]; simp, unhide HB⟩
    obtain ⟨b, off, rfl, hbl, hcs⟩ := (unhide HD).rows.log.resolve_left (by omega)
    obtain ⟨e0, e1, e2, e3, e4, e5, e6, e7, e8, e9, e10⟩ := (hcs k hkn).keep (fun q => hb.cell (p := ⟨b, q, none⟩) hbl)
    have hwz := hb.size
    have HB := hide hb
    clear hcs hb
    by_cases ht : (d.L k).turn = 0
    · have HN := hide (logTo_dead (unhide HLG) ht)
      rw [ht] at e10
      clear ht
      go_wp2_with fail
      refine (l1none_any (d.L k).key _).mono ?_
      rintro e w1 ⟨rfl, hb1⟩
      obtain ⟨hc1, hf1⟩ := bcell hb1
      have hz1 := hb1.size
      simp at hz1
      have hz2 : wr.heap.size < w1.heap.size := by omega
      have hb1' : Below w.heap.size w w1 := ((unhide HB).alloc (unhide HB).size _).trans (hb1.mono (by simp; omega))
      have HB1 := hide hb1'
      cases hk1 : noneB (d.L k).key
      · have HT := hide (not_D2 hkn ((unhide HN).trans (by rw [hk1]; rfl)))
        clear hb1 hb1'
        go_wp2_with fail
        go_ret
        exact ⟨by rw [unhide HT]; rfl, unhide HB1⟩
      have d5 : w1.cell? ⟨wr.heap.size, 5, none⟩ = some (.int .i64 (d.L k).val.kind) := by rw [hc1 _ _ (by simp)]; simp [go_sem]
      have d6 : w1.cell? ⟨wr.heap.size, 6, none⟩ = some (.int .i64 (d.L k).val.num) := by rw [hc1 _ _ (by simp)]; simp [go_sem]
      have d7 : w1.cell? ⟨wr.heap.size, 7, none⟩ = some (.float .f64 (d.L k).val.flt) := by rw [hc1 _ _ (by simp)]; simp [go_sem]
      have d8 : w1.cell? ⟨wr.heap.size, 8, none⟩ = some (.string (d.L k).val.str) := by rw [hc1 _ _ (by simp)]; simp [go_sem]
      have d9 : w1.cell? ⟨wr.heap.size, 9, none⟩ = some (.int .i64 (d.L k).val.ref) := by rw [hc1 _ _ (by simp)]; simp [go_sem]
      clear hb1 hb1' hc1 hf1
      go_wp2_with fail
      refine (l1none_any (d.L k).val _).mono ?_
      rintro e w2 ⟨rfl, hb2⟩
      have HB2 := hide ((unhide HB1).trans (hb2.mono (unhide HB1).size))
      clear hb2
      cases hk2 : noneB (d.L k).val
      · have HT := hide (not_D2 hkn ((unhide HN).trans (by rw [hk1, hk2]; rfl)))
        go_wp2_with fail
        go_ret
        exact ⟨by rw [unhide HT]; rfl, unhide HB2⟩
      · have HT := hide ((unhide HN).trans (by rw [hk1, hk2]; rfl) : logTo d (k + 1) = some (live, last))
        go_wp2_with fail
        go_roundw
        case rel => exact ⟨k + 1, live, last, by omega, by go_num, rfl, rfl, unhide HT, hl0, by omega, unhide HB2⟩
        case measure => simp [intOf]; omega
    · have HN := hide (logTo_live (unhide HLG) ht)
      have ht' : ((d.L k).turn == 0) = false := by simp [ht]
      clear ht
      go_wp2_with fail
      obtain ⟨W, hW⟩ : ∃ W, W = wr.alloc (.cells #[.int .i64 (d.L k).key.kind, .int .i64 (d.L k).key.num, .float .f64 (d.L k).key.flt, .string (d.L k).key.str, .int .i64 (d.L k).key.ref, .int .i64 (d.L k).val.kind, .int .i64 (d.L k).val.num, .float .f64 (d.L k).val.flt, .string (d.L k).val.str, .int .i64 (d.L k).val.ref, .int .i64 (d.L k).turn] 43) := ⟨_, rfl⟩
      rw [← hW]
      have y0 : W.cell? ⟨wr.heap.size, 0, none⟩ = some (.int .i64 (d.L k).key.kind) := by rw [hW]; simp [go_sem]
      have y1 : W.cell? ⟨wr.heap.size, 1, none⟩ = some (.int .i64 (d.L k).key.num) := by rw [hW]; simp [go_sem]
      have y2 : W.cell? ⟨wr.heap.size, 2, none⟩ = some (.float .f64 (d.L k).key.flt) := by rw [hW]; simp [go_sem]
      have y3 : W.cell? ⟨wr.heap.size, 3, none⟩ = some (.string (d.L k).key.str) := by rw [hW]; simp [go_sem]
      have y4 : W.cell? ⟨wr.heap.size, 4, none⟩ = some (.int .i64 (d.L k).key.ref) := by rw [hW]; simp [go_sem]
      have y5 : W.cell? ⟨wr.heap.size, 5, none⟩ = some (.int .i64 (d.L k).val.kind) := by rw [hW]; simp [go_sem]
      have y6 : W.cell? ⟨wr.heap.size, 6, none⟩ = some (.int .i64 (d.L k).val.num) := by rw [hW]; simp [go_sem]
      have y7 : W.cell? ⟨wr.heap.size, 7, none⟩ = some (.float .f64 (d.L k).val.flt) := by rw [hW]; simp [go_sem]
      have y8 : W.cell? ⟨wr.heap.size, 8, none⟩ = some (.string (d.L k).val.str) := by rw [hW]; simp [go_sem]
      have y9 : W.cell? ⟨wr.heap.size, 9, none⟩ = some (.int .i64 (d.L k).val.ref) := by rw [hW]; simp [go_sem]
      have y10 : W.cell? ⟨wr.heap.size, 10, none⟩ = some (.int .i64 (d.L k).turn) := by rw [hW]; simp [go_sem]
      have HBW : Hid (Below w.heap.size w W) := hide (by rw [hW]; exact (unhide HB).alloc (unhide HB).size _)
      have hzW : wr.heap.size < W.heap.size := by rw [hW]; simp
      have hcW : c < W.heap.size := by omega
      have z5 : W.cell? ⟨c, o + 5, none⟩ = some (.int .i64 d.turns) := by rw [hW]; exact (World.cell?_alloc_lt _ _ _ (by exact hcl)).trans c5
      clear hW e0 e1 e2 e3 e4 e5 e6 e7 e8 e9 e10 c4 c5 hbl HB
      by_cases t1 : (d.L k).turn ≤ last
      · have HT := hide (not_D2 hkn ((unhide HN).trans (if_neg (by unfold pairB; simp; intros; omega))))
        have hd : decide ((d.L k).turn ≤ last) = true := by simp [t1]
        clear t1
        refine wp_region_quiet (C := fun w' => Below W.heap.size W w') (by kernel_rfl) (by kernel_rfl) ((Below.refl _ _).drew) ?_
        show wpQuiet _ _ _ _ [_, _, _, _, _, _, _, _, _, _, _, _, _, _, _, _, _, _, _, _, _, _, _, _, _, _, _, _, _, _, _] _
        refine wpQuiet_step (fun K hK => ?_)
        go_simp
        refine ⟨_, fun w' hw' => rfl, hK _ ?_⟩
        clear hK K
        refine wpQuiet_step (fun K hK => ?_)
        go_simp
        apply Exists.intro
        refine And.intro (fun w' hw' => ?_) (hK _ ?_)
        · obtain ⟨hc', hf'⟩ := bcell hw'
          go_simp
          first | rfl | exact ⟨rfl, rfl⟩ | exact ⟨rfl⟩
        clear hK K
        refine wpQuiet_step (fun K hK => ?_)
        go_simp
        refine ⟨_, fun w' hw' => rfl, hK _ ?_⟩
        clear hK K
        refine wpQuiet_step (fun K hK => ?_)
        go_simp
        refine ⟨_, fun w' hw' => rfl, hK _ ?_⟩
        clear hK K
        refine wpQuiet_step (fun K hK => ?_)
        go_simp
        refine ⟨_, fun w' hw' => rfl, hK _ ?_⟩
        clear hK K
        go_big_quiet_step (fail)
        go_big_quiet_step (fail)
        go_big_quiet_step (fail)
        go_big_quiet_step (fail)
        go_big_quiet_step (fail)
        go_big_quiet_step (fail)
        go_big_quiet_step (fail)
        refine wpQuiet_step (fun K hK => ?_)
        go_simp
        refine ⟨_, fun w' hw' => rfl, hK _ ?_⟩
        clear hK K
        refine wpQuiet_step (fun K hK => ?_)
        go_simp
        refine ⟨_, fun w' hw' => rfl, hK _ ?_⟩
        clear hK K
        go_big_quiet_step (fail)
        go_big_quiet_step (fail)
        go_big_quiet_step (fail)
        go_big_quiet_step (fail)
        refine wpQuiet_step (fun K hK => ?_)
        go_simp
        refine ⟨_, fun w' hw' => rfl, hK _ ?_⟩
        clear hK K
        refine wpQuiet_step (fun K hK => ?_)
        go_simp
        refine ⟨_, fun w' hw' => rfl, hK _ ?_⟩
        clear hK K
        go_big_quiet_step (fail)
        go_big_quiet_step (fail)
        go_big_quiet_step (fail)
        go_big_quiet_step (fail)
        refine wpQuiet_step (fun K hK => ?_)
        go_simp
        refine ⟨_, fun w' hw' => rfl, hK _ ?_⟩
        clear hK K
        refine wpQuiet_step (fun K hK => ?_)
        go_simp
        refine ⟨_, fun w' hw' => rfl, hK _ ?_⟩
        clear hK K
        go_big_quiet_step (fail)
        go_big_quiet_step (fail)
        go_big_quiet_step (fail)
        go_big_quiet_step (fail)
        refine wpQuiet_step (fun K hK => ?_)
        go_simp
        refine ⟨_, fun w' hw' => rfl, hK _ ?_⟩
        clear hK K
        refine wpQuiet_nil ?_
        intro w2 hw2
        have hb2 : Below w.heap.size w w2 := (unhide HBW).trans (hw2.mono (unhide HBW).size)
        have HB2 := hide hb2
        clear hw2 hb2
        go_wp2
        go_ret
        exact ⟨by rw [unhide HT]; rfl, unhide HB2⟩
      have hd : decide ((d.L k).turn ≤ last) = false := by simp; omega
      by_cases t2 : d.turns < (d.L k).turn
      · have HT := hide (not_D2 hkn ((unhide HN).trans (if_neg (by unfold pairB; simp; intros; omega))))
        have hd2 : decide (d.turns < (d.L k).turn) = true := by simp [t2]
        clear t1 t2
        refine wp_region_quiet (C := fun w' => Below W.heap.size W w') (by kernel_rfl) (by kernel_rfl) ((Below.refl _ _).drew) ?_
        show wpQuiet _ _ _ _ [_, _, _, _, _, _, _, _, _, _, _, _, _, _, _, _, _, _, _, _, _, _, _, _, _, _, _, _, _, _, _] _
        refine wpQuiet_step (fun K hK => ?_)
        go_simp
        refine ⟨_, fun w' hw' => rfl, hK _ ?_⟩
        clear hK K
        refine wpQuiet_step (fun K hK => ?_)
        go_simp
        apply Exists.intro
        refine And.intro (fun w' hw' => ?_) (hK _ ?_)
        · obtain ⟨hc', hf'⟩ := bcell hw'
          go_simp
          first | rfl | exact ⟨rfl, rfl⟩ | exact ⟨rfl⟩
        clear hK K
        refine wpQuiet_step (fun K hK => ?_)
        go_simp
        refine ⟨_, fun w' hw' => rfl, hK _ ?_⟩
        clear hK K
        refine wpQuiet_step (fun K hK => ?_)
        go_simp
        refine ⟨_, fun w' hw' => rfl, hK _ ?_⟩
        clear hK K
        refine wpQuiet_step (fun K hK => ?_)
        go_simp
        refine ⟨_, fun w' hw' => rfl, hK _ ?_⟩
        clear hK K
        refine wpQuiet_step (fun K hK => ?_)
        go_simp
        refine ⟨_, fun w' hw' => rfl, hK _ ?_⟩
        clear hK K
        refine wpQuiet_step (fun K hK => ?_)
        go_simp
        apply Exists.intro
        refine And.intro (fun w' hw' => ?_) (hK _ ?_)
        · obtain ⟨hc', hf'⟩ := bcell hw'
          go_simp
          first | rfl | exact ⟨rfl, rfl⟩ | exact ⟨rfl⟩
        clear hK K
        refine wpQuiet_step (fun K hK => ?_)
        go_simp
        refine ⟨_, fun w' hw' => rfl, hK _ ?_⟩
        clear hK K
        refine wpQuiet_step (fun K hK => ?_)
        go_simp
        refine ⟨_, fun w' hw' => rfl, hK _ ?_⟩
        clear hK K
        refine wpQuiet_step (fun K hK => ?_)
        go_simp
        refine ⟨_, fun w' hw' => rfl, hK _ ?_⟩
        clear hK K
        refine wpQuiet_step (fun K hK => ?_)
        go_simp
        apply Exists.intro
        refine And.intro (fun w' hw' => ?_) (hK _ ?_)
        · obtain ⟨hc', hf'⟩ := bcell hw'
          go_simp
          first | rfl | exact ⟨rfl, rfl⟩ | exact ⟨rfl⟩
        clear hK K
        refine wpQuiet_step (fun K hK => ?_)
        go_simp
        refine ⟨_, fun w' hw' => rfl, hK _ ?_⟩
        clear hK K
        refine wpQuiet_step (fun K hK => ?_)
        go_simp
        refine ⟨_, fun w' hw' => rfl, hK _ ?_⟩
        clear hK K
        refine wpQuiet_step (fun K hK => ?_)
        go_simp
        refine ⟨_, fun w' hw' => rfl, hK _ ?_⟩
        clear hK K
        go_big_quiet_step (fail)
        go_big_quiet_step (fail)
        go_big_quiet_step (fail)
        go_big_quiet_step (fail)
        refine wpQuiet_step (fun K hK => ?_)
        go_simp
        refine ⟨_, fun w' hw' => rfl, hK _ ?_⟩
        clear hK K
        refine wpQuiet_step (fun K hK => ?_)
        go_simp
        refine ⟨_, fun w' hw' => rfl, hK _ ?_⟩
        clear hK K
        go_big_quiet_step (fail)
        go_big_quiet_step (fail)
        go_big_quiet_step (fail)
        go_big_quiet_step (fail)
        refine wpQuiet_step (fun K hK => ?_)
        go_simp
        refine ⟨_, fun w' hw' => rfl, hK _ ?_⟩
        clear hK K
        refine wpQuiet_step (fun K hK => ?_)
        go_simp
        refine ⟨_, fun w' hw' => rfl, hK _ ?_⟩
        clear hK K
        go_big_quiet_step (fail)
        go_big_quiet_step (fail)
        go_big_quiet_step (fail)
        go_big_quiet_step (fail)
        refine wpQuiet_step (fun K hK => ?_)
        go_simp
        refine ⟨_, fun w' hw' => rfl, hK _ ?_⟩
        clear hK K
        refine wpQuiet_nil ?_
        intro w2 hw2
        have hb2 : Below w.heap.size w w2 := (unhide HBW).trans (hw2.mono (unhide HBW).size)
        have HB2 := hide hb2
        clear hw2 hb2
        go_wp2
        go_ret
        exact ⟨by rw [unhide HT]; rfl, unhide HB2⟩
      have hd2 : decide (d.turns < (d.L k).turn) = false := by simp; omega
      cases t3 : keyB (d.L k).key
      · have HT := hide (not_D2 hkn ((unhide HN).trans (if_neg (by unfold pairB; simp [t3]))))
        clear t1 t2
        refine wp_region_quiet (C := fun w' => Below W.heap.size W w') (by kernel_rfl) (by kernel_rfl) ((Below.refl _ _).drew) ?_
        show wpQuiet _ _ _ _ [_, _, _, _, _, _, _, _, _, _, _, _, _, _, _, _, _, _, _, _, _, _, _, _, _, _, _, _, _, _, _] _
        refine wpQuiet_step (fun K hK => ?_)
        go_simp
        refine ⟨_, fun w' hw' => rfl, hK _ ?_⟩
        clear hK K
        refine wpQuiet_step (fun K hK => ?_)
        go_simp
        apply Exists.intro
        refine And.intro (fun w' hw' => ?_) (hK _ ?_)
        · obtain ⟨hc', hf'⟩ := bcell hw'
          go_simp
          first | rfl | exact ⟨rfl, rfl⟩ | exact ⟨rfl⟩
        clear hK K
        refine wpQuiet_step (fun K hK => ?_)
        go_simp
        refine ⟨_, fun w' hw' => rfl, hK _ ?_⟩
        clear hK K
        refine wpQuiet_step (fun K hK => ?_)
        go_simp
        refine ⟨_, fun w' hw' => rfl, hK _ ?_⟩
        clear hK K
        refine wpQuiet_step (fun K hK => ?_)
        go_simp
        refine ⟨_, fun w' hw' => rfl, hK _ ?_⟩
        clear hK K
        refine wpQuiet_step (fun K hK => ?_)
        go_simp
        refine ⟨_, fun w' hw' => rfl, hK _ ?_⟩
        clear hK K
        refine wpQuiet_step (fun K hK => ?_)
        go_simp
        apply Exists.intro
        refine And.intro (fun w' hw' => ?_) (hK _ ?_)
        · obtain ⟨hc', hf'⟩ := bcell hw'
          go_simp
          first | rfl | exact ⟨rfl, rfl⟩ | exact ⟨rfl⟩
        clear hK K
        refine wpQuiet_step (fun K hK => ?_)
        go_simp
        refine ⟨_, fun w' hw' => rfl, hK _ ?_⟩
        clear hK K
        refine wpQuiet_step (fun K hK => ?_)
        go_simp
        refine ⟨_, fun w' hw' => rfl, hK _ ?_⟩
        clear hK K
        refine wpQuiet_step (fun K hK => ?_)
        go_simp
        refine ⟨_, fun w' hw' => rfl, hK _ ?_⟩
        clear hK K
        refine wpQuiet_step (fun K hK => ?_)
        go_simp
        apply Exists.intro
        refine And.intro (fun w' hw' => ?_) (hK _ ?_)
        · obtain ⟨hc', hf'⟩ := bcell hw'
          go_simp
          first | rfl | exact ⟨rfl, rfl⟩ | exact ⟨rfl⟩
        clear hK K
        refine wpQuiet_step (fun K hK => ?_)
        go_simp
        refine ⟨_, fun w' hw' => rfl, hK _ ?_⟩
        clear hK K
        refine wpQuiet_step (fun K hK => ?_)
        go_simp
        refine ⟨_, fun w' hw' => rfl, hK _ ?_⟩
        clear hK K
        refine wpQuiet_step (fun K hK => ?_)
        go_simp
        refine ⟨_, fun w' hw' => rfl, hK _ ?_⟩
        clear hK K
        refine wpQuiet_step (fun K hK => ?_)
        go_simp
        refine ⟨_, fun w' hw' => rfl, hK _ ?_⟩
        clear hK K
        refine wpQuiet_step (fun K hK => ?_)
        go_simp
        apply Exists.intro
        refine And.intro (fun w' hw' => ?_) (hK _ ?_)
        · obtain ⟨hc', hf'⟩ := bcell hw'
          go_simp
          first | rfl | exact ⟨rfl, rfl⟩ | exact ⟨rfl⟩
        clear hK K
        refine wpQuiet_step (fun K hK => ?_)
        go_simp
        apply Exists.intro
        refine And.intro (fun w' hw' => ?_) (hK _ ?_)
        · refine ((t3 ▸ l1key_any (d.L k).key _)).mono ?_
          rintro e w'' ⟨rfl, hb⟩
          exact ⟨rfl, hw'.trans (hb.mono hw'.size)⟩
        clear hK K
        refine wpQuiet_step (fun K hK => ?_)
        go_simp
        refine ⟨_, fun w' hw' => rfl, hK _ ?_⟩
        clear hK K
        refine wpQuiet_step (fun K hK => ?_)
        go_simp
        refine ⟨_, fun w' hw' => rfl, hK _ ?_⟩
        clear hK K
        refine wpQuiet_step (fun K hK => ?_)
        go_simp
        refine ⟨_, fun w' hw' => rfl, hK _ ?_⟩
        clear hK K
        go_big_quiet_step (fail)
        go_big_quiet_step (fail)
        go_big_quiet_step (fail)
        go_big_quiet_step (fail)
        refine wpQuiet_step (fun K hK => ?_)
        go_simp
        refine ⟨_, fun w' hw' => rfl, hK _ ?_⟩
        clear hK K
        refine wpQuiet_step (fun K hK => ?_)
        go_simp
        refine ⟨_, fun w' hw' => rfl, hK _ ?_⟩
        clear hK K
        go_big_quiet_step (fail)
        go_big_quiet_step (fail)
        go_big_quiet_step (fail)
        go_big_quiet_step (fail)
        refine wpQuiet_step (fun K hK => ?_)
        go_simp
        refine ⟨_, fun w' hw' => rfl, hK _ ?_⟩
        clear hK K
        refine wpQuiet_nil ?_
        intro w2 hw2
        have hb2 : Below w.heap.size w w2 := (unhide HBW).trans (hw2.mono (unhide HBW).size)
        have HB2 := hide hb2
        clear hw2 hb2
        go_wp2
        go_ret
        exact ⟨by rw [unhide HT]; rfl, unhide HB2⟩
      cases t4 : (d.L k).val.ok
      · have HT := hide (not_D2 hkn ((unhide HN).trans (if_neg (by unfold pairB; simp [t4]))))
        have t4' : validB (d.L k).val.kind (d.L k).val.num (d.L k).val.flt (d.L k).val.str (d.L k).val.ref = false := t4
        clear t1 t2
        refine wp_region_quiet (C := fun w' => Below W.heap.size W w') (by kernel_rfl) (by kernel_rfl) ((Below.refl _ _).drew) ?_
        show wpQuiet _ _ _ _ [_, _, _, _, _, _, _, _, _, _, _, _, _, _, _, _, _, _, _, _, _, _, _, _, _, _, _, _, _, _, _] _
        refine wpQuiet_step (fun K hK => ?_)
        go_simp
        refine ⟨_, fun w' hw' => rfl, hK _ ?_⟩
        clear hK K
        refine wpQuiet_step (fun K hK => ?_)
        go_simp
        apply Exists.intro
        refine And.intro (fun w' hw' => ?_) (hK _ ?_)
        · obtain ⟨hc', hf'⟩ := bcell hw'
          go_simp
          first | rfl | exact ⟨rfl, rfl⟩ | exact ⟨rfl⟩
        clear hK K
        refine wpQuiet_step (fun K hK => ?_)
        go_simp
        refine ⟨_, fun w' hw' => rfl, hK _ ?_⟩
        clear hK K
        refine wpQuiet_step (fun K hK => ?_)
        go_simp
        refine ⟨_, fun w' hw' => rfl, hK _ ?_⟩
        clear hK K
        refine wpQuiet_step (fun K hK => ?_)
        go_simp
        refine ⟨_, fun w' hw' => rfl, hK _ ?_⟩
        clear hK K
        refine wpQuiet_step (fun K hK => ?_)
        go_simp
        refine ⟨_, fun w' hw' => rfl, hK _ ?_⟩
        clear hK K
        refine wpQuiet_step (fun K hK => ?_)
        go_simp
        apply Exists.intro
        refine And.intro (fun w' hw' => ?_) (hK _ ?_)
        · obtain ⟨hc', hf'⟩ := bcell hw'
          go_simp
          first | rfl | exact ⟨rfl, rfl⟩ | exact ⟨rfl⟩
        clear hK K
        refine wpQuiet_step (fun K hK => ?_)
        go_simp
        refine ⟨_, fun w' hw' => rfl, hK _ ?_⟩
        clear hK K
        refine wpQuiet_step (fun K hK => ?_)
        go_simp
        refine ⟨_, fun w' hw' => rfl, hK _ ?_⟩
        clear hK K
        refine wpQuiet_step (fun K hK => ?_)
        go_simp
        refine ⟨_, fun w' hw' => rfl, hK _ ?_⟩
        clear hK K
        refine wpQuiet_step (fun K hK => ?_)
        go_simp
        apply Exists.intro
        refine And.intro (fun w' hw' => ?_) (hK _ ?_)
        · obtain ⟨hc', hf'⟩ := bcell hw'
          go_simp
          first | rfl | exact ⟨rfl, rfl⟩ | exact ⟨rfl⟩
        clear hK K
        refine wpQuiet_step (fun K hK => ?_)
        go_simp
        refine ⟨_, fun w' hw' => rfl, hK _ ?_⟩
        clear hK K
        refine wpQuiet_step (fun K hK => ?_)
        go_simp
        refine ⟨_, fun w' hw' => rfl, hK _ ?_⟩
        clear hK K
        refine wpQuiet_step (fun K hK => ?_)
        go_simp
        refine ⟨_, fun w' hw' => rfl, hK _ ?_⟩
        clear hK K
        refine wpQuiet_step (fun K hK => ?_)
        go_simp
        refine ⟨_, fun w' hw' => rfl, hK _ ?_⟩
        clear hK K
        refine wpQuiet_step (fun K hK => ?_)
        go_simp
        apply Exists.intro
        refine And.intro (fun w' hw' => ?_) (hK _ ?_)
        · obtain ⟨hc', hf'⟩ := bcell hw'
          go_simp
          first | rfl | exact ⟨rfl, rfl⟩ | exact ⟨rfl⟩
        clear hK K
        refine wpQuiet_step (fun K hK => ?_)
        go_simp
        apply Exists.intro
        refine And.intro (fun w' hw' => ?_) (hK _ ?_)
        · refine ((t3 ▸ l1key_any (d.L k).key _)).mono ?_
          rintro e w'' ⟨rfl, hb⟩
          exact ⟨rfl, hw'.trans (hb.mono hw'.size)⟩
        clear hK K
        refine wpQuiet_step (fun K hK => ?_)
        go_simp
        refine ⟨_, fun w' hw' => rfl, hK _ ?_⟩
        clear hK K
        refine wpQuiet_step (fun K hK => ?_)
        go_simp
        refine ⟨_, fun w' hw' => rfl, hK _ ?_⟩
        clear hK K
        refine wpQuiet_step (fun K hK => ?_)
        go_simp
        refine ⟨_, fun w' hw' => rfl, hK _ ?_⟩
        clear hK K
        refine wpQuiet_step (fun K hK => ?_)
        go_simp
        refine ⟨_, fun w' hw' => rfl, hK _ ?_⟩
        clear hK K
        refine wpQuiet_step (fun K hK => ?_)
        go_simp
        apply Exists.intro
        refine And.intro (fun w' hw' => ?_) (hK _ ?_)
        · obtain ⟨hc', hf'⟩ := bcell hw'
          go_simp
          first | rfl | exact ⟨rfl, rfl⟩ | exact ⟨rfl⟩
        clear hK K
        refine wpQuiet_step (fun K hK => ?_)
        go_simp
        apply Exists.intro
        refine And.intro (fun w' hw' => ?_) (hK _ ?_)
        · refine ((t4' ▸ valueOk_any (d.L k).val.kind (d.L k).val.num (d.L k).val.flt (d.L k).val.str (d.L k).val.ref _)).mono ?_
          rintro e w'' ⟨rfl, hb⟩
          exact ⟨rfl, hw'.trans (hb.mono hw'.size)⟩
        clear hK K
        refine wpQuiet_step (fun K hK => ?_)
        go_simp
        refine ⟨_, fun w' hw' => rfl, hK _ ?_⟩
        clear hK K
        refine wpQuiet_step (fun K hK => ?_)
        go_simp
        refine ⟨_, fun w' hw' => rfl, hK _ ?_⟩
        clear hK K
        refine wpQuiet_step (fun K hK => ?_)
        go_simp
        refine ⟨_, fun w' hw' => rfl, hK _ ?_⟩
        clear hK K
        go_big_quiet_step (fail)
        go_big_quiet_step (fail)
        go_big_quiet_step (fail)
        go_big_quiet_step (fail)
        refine wpQuiet_step (fun K hK => ?_)
        go_simp
        refine ⟨_, fun w' hw' => rfl, hK _ ?_⟩
        clear hK K
        refine wpQuiet_nil ?_
        intro w2 hw2
        have hb2 : Below w.heap.size w w2 := (unhide HBW).trans (hw2.mono (unhide HBW).size)
        have HB2 := hide hb2
        clear hw2 hb2
        go_wp2
        go_ret
        exact ⟨by rw [unhide HT]; rfl, unhide HB2⟩
      have t4' : validB (d.L k).val.kind (d.L k).val.num (d.L k).val.flt (d.L k).val.str (d.L k).val.ref = true := t4
      by_cases t5 : (d.L k).val.kind = 0
      · have HT := hide (not_D2 hkn ((unhide HN).trans (if_neg (by unfold pairB; simp [t5]))))
        have t5' : ((d.L k).val.kind == 0) = true := by simp [t5]
        clear t1 t2 t5
        refine wp_region_quiet (C := fun w' => Below W.heap.size W w') (by kernel_rfl) (by kernel_rfl) ((Below.refl _ _).drew) ?_
        show wpQuiet _ _ _ _ [_, _, _, _, _, _, _, _, _, _, _, _, _, _, _, _, _, _, _, _, _, _, _, _, _, _, _, _, _, _, _] _
        refine wpQuiet_step (fun K hK => ?_)
        go_simp
        refine ⟨_, fun w' hw' => rfl, hK _ ?_⟩
        clear hK K
        refine wpQuiet_step (fun K hK => ?_)
        go_simp
        apply Exists.intro
        refine And.intro (fun w' hw' => ?_) (hK _ ?_)
        · obtain ⟨hc', hf'⟩ := bcell hw'
          go_simp
          first | rfl | exact ⟨rfl, rfl⟩ | exact ⟨rfl⟩
        clear hK K
        refine wpQuiet_step (fun K hK => ?_)
        go_simp
        refine ⟨_, fun w' hw' => rfl, hK _ ?_⟩
        clear hK K
        refine wpQuiet_step (fun K hK => ?_)
        go_simp
        refine ⟨_, fun w' hw' => rfl, hK _ ?_⟩
        clear hK K
        refine wpQuiet_step (fun K hK => ?_)
        go_simp
        refine ⟨_, fun w' hw' => rfl, hK _ ?_⟩
        clear hK K
        refine wpQuiet_step (fun K hK => ?_)
        go_simp
        refine ⟨_, fun w' hw' => rfl, hK _ ?_⟩
        clear hK K
        refine wpQuiet_step (fun K hK => ?_)
        go_simp
        apply Exists.intro
        refine And.intro (fun w' hw' => ?_) (hK _ ?_)
        · obtain ⟨hc', hf'⟩ := bcell hw'
          go_simp
          first | rfl | exact ⟨rfl, rfl⟩ | exact ⟨rfl⟩
        clear hK K
        refine wpQuiet_step (fun K hK => ?_)
        go_simp
        refine ⟨_, fun w' hw' => rfl, hK _ ?_⟩
        clear hK K
        refine wpQuiet_step (fun K hK => ?_)
        go_simp
        refine ⟨_, fun w' hw' => rfl, hK _ ?_⟩
        clear hK K
        refine wpQuiet_step (fun K hK => ?_)
        go_simp
        refine ⟨_, fun w' hw' => rfl, hK _ ?_⟩
        clear hK K
        refine wpQuiet_step (fun K hK => ?_)
        go_simp
        apply Exists.intro
        refine And.intro (fun w' hw' => ?_) (hK _ ?_)
        · obtain ⟨hc', hf'⟩ := bcell hw'
          go_simp
          first | rfl | exact ⟨rfl, rfl⟩ | exact ⟨rfl⟩
        clear hK K
        refine wpQuiet_step (fun K hK => ?_)
        go_simp
        refine ⟨_, fun w' hw' => rfl, hK _ ?_⟩
        clear hK K
        refine wpQuiet_step (fun K hK => ?_)
        go_simp
        refine ⟨_, fun w' hw' => rfl, hK _ ?_⟩
        clear hK K
        refine wpQuiet_step (fun K hK => ?_)
        go_simp
        refine ⟨_, fun w' hw' => rfl, hK _ ?_⟩
        clear hK K
        refine wpQuiet_step (fun K hK => ?_)
        go_simp
        refine ⟨_, fun w' hw' => rfl, hK _ ?_⟩
        clear hK K
        refine wpQuiet_step (fun K hK => ?_)
        go_simp
        apply Exists.intro
        refine And.intro (fun w' hw' => ?_) (hK _ ?_)
        · obtain ⟨hc', hf'⟩ := bcell hw'
          go_simp
          first | rfl | exact ⟨rfl, rfl⟩ | exact ⟨rfl⟩
        clear hK K
        refine wpQuiet_step (fun K hK => ?_)
        go_simp
        apply Exists.intro
        refine And.intro (fun w' hw' => ?_) (hK _ ?_)
        · refine ((t3 ▸ l1key_any (d.L k).key _)).mono ?_
          rintro e w'' ⟨rfl, hb⟩
          exact ⟨rfl, hw'.trans (hb.mono hw'.size)⟩
        clear hK K
        refine wpQuiet_step (fun K hK => ?_)
        go_simp
        refine ⟨_, fun w' hw' => rfl, hK _ ?_⟩
        clear hK K
        refine wpQuiet_step (fun K hK => ?_)
        go_simp
        refine ⟨_, fun w' hw' => rfl, hK _ ?_⟩
        clear hK K
        refine wpQuiet_step (fun K hK => ?_)
        go_simp
        refine ⟨_, fun w' hw' => rfl, hK _ ?_⟩
        clear hK K
        refine wpQuiet_step (fun K hK => ?_)
        go_simp
        refine ⟨_, fun w' hw' => rfl, hK _ ?_⟩
        clear hK K
        refine wpQuiet_step (fun K hK => ?_)
        go_simp
        apply Exists.intro
        refine And.intro (fun w' hw' => ?_) (hK _ ?_)
        · obtain ⟨hc', hf'⟩ := bcell hw'
          go_simp
          first | rfl | exact ⟨rfl, rfl⟩ | exact ⟨rfl⟩
        clear hK K
        refine wpQuiet_step (fun K hK => ?_)
        go_simp
        apply Exists.intro
        refine And.intro (fun w' hw' => ?_) (hK _ ?_)
        · refine ((t4' ▸ valueOk_any (d.L k).val.kind (d.L k).val.num (d.L k).val.flt (d.L k).val.str (d.L k).val.ref _)).mono ?_
          rintro e w'' ⟨rfl, hb⟩
          exact ⟨rfl, hw'.trans (hb.mono hw'.size)⟩
        clear hK K
        refine wpQuiet_step (fun K hK => ?_)
        go_simp
        refine ⟨_, fun w' hw' => rfl, hK _ ?_⟩
        clear hK K
        refine wpQuiet_step (fun K hK => ?_)
        go_simp
        refine ⟨_, fun w' hw' => rfl, hK _ ?_⟩
        clear hK K
        refine wpQuiet_step (fun K hK => ?_)
        go_simp
        refine ⟨_, fun w' hw' => rfl, hK _ ?_⟩
        clear hK K
        refine wpQuiet_step (fun K hK => ?_)
        go_simp
        refine ⟨_, fun w' hw' => rfl, hK _ ?_⟩
        clear hK K
        refine wpQuiet_step (fun K hK => ?_)
        go_simp
        refine ⟨_, fun w' hw' => rfl, hK _ ?_⟩
        clear hK K
        refine wpQuiet_step (fun K hK => ?_)
        go_simp
        apply Exists.intro
        refine And.intro (fun w' hw' => ?_) (hK _ ?_)
        · obtain ⟨hc', hf'⟩ := bcell hw'
          go_simp
          first | rfl | exact ⟨rfl, rfl⟩ | exact ⟨rfl⟩
        clear hK K
        refine wpQuiet_step (fun K hK => ?_)
        go_simp
        refine ⟨_, fun w' hw' => rfl, hK _ ?_⟩
        clear hK K
        refine wpQuiet_step (fun K hK => ?_)
        go_simp
        refine ⟨_, fun w' hw' => rfl, hK _ ?_⟩
        clear hK K
        refine wpQuiet_nil ?_
        intro w2 hw2
        have hb2 : Below w.heap.size w w2 := (unhide HBW).trans (hw2.mono (unhide HBW).size)
        have HB2 := hide hb2
        clear hw2 hb2
        go_wp2
        go_ret
        exact ⟨by rw [unhide HT]; rfl, unhide HB2⟩
      · have HT : Hid (logTo d (k + 1) = some (live + 1, (d.L k).turn)) := hide ((unhide HN).trans (if_pos (by unfold pairB; simp [t3, t4, t5]; omega)))
        have t5' : ((d.L k).val.kind == 0) = false := by simp [t5]
        clear t1 t2 t5
        refine wp_region_quiet (C := fun w' => Below W.heap.size W w') (by kernel_rfl) (by kernel_rfl) ((Below.refl _ _).drew) ?_
        show wpQuiet _ _ _ _ [_, _, _, _, _, _, _, _, _, _, _, _, _, _, _, _, _, _, _, _, _, _, _, _, _, _, _, _, _, _, _] _
        refine wpQuiet_step (fun K hK => ?_)
        go_simp
        refine ⟨_, fun w' hw' => rfl, hK _ ?_⟩
        clear hK K
        refine wpQuiet_step (fun K hK => ?_)
        go_simp
        apply Exists.intro
        refine And.intro (fun w' hw' => ?_) (hK _ ?_)
        · obtain ⟨hc', hf'⟩ := bcell hw'
          go_simp
          first | rfl | exact ⟨rfl, rfl⟩ | exact ⟨rfl⟩
        clear hK K
        refine wpQuiet_step (fun K hK => ?_)
        go_simp
        refine ⟨_, fun w' hw' => rfl, hK _ ?_⟩
        clear hK K
        refine wpQuiet_step (fun K hK => ?_)
        go_simp
        refine ⟨_, fun w' hw' => rfl, hK _ ?_⟩
        clear hK K
        refine wpQuiet_step (fun K hK => ?_)
        go_simp
        refine ⟨_, fun w' hw' => rfl, hK _ ?_⟩
        clear hK K
        refine wpQuiet_step (fun K hK => ?_)
        go_simp
        refine ⟨_, fun w' hw' => rfl, hK _ ?_⟩
        clear hK K
        refine wpQuiet_step (fun K hK => ?_)
        go_simp
        apply Exists.intro
        refine And.intro (fun w' hw' => ?_) (hK _ ?_)
        · obtain ⟨hc', hf'⟩ := bcell hw'
          go_simp
          first | rfl | exact ⟨rfl, rfl⟩ | exact ⟨rfl⟩
        clear hK K
        refine wpQuiet_step (fun K hK => ?_)
        go_simp
        refine ⟨_, fun w' hw' => rfl, hK _ ?_⟩
        clear hK K
        refine wpQuiet_step (fun K hK => ?_)
        go_simp
        refine ⟨_, fun w' hw' => rfl, hK _ ?_⟩
        clear hK K
        refine wpQuiet_step (fun K hK => ?_)
        go_simp
        refine ⟨_, fun w' hw' => rfl, hK _ ?_⟩
        clear hK K
        refine wpQuiet_step (fun K hK => ?_)
        go_simp
        apply Exists.intro
        refine And.intro (fun w' hw' => ?_) (hK _ ?_)
        · obtain ⟨hc', hf'⟩ := bcell hw'
          go_simp
          first | rfl | exact ⟨rfl, rfl⟩ | exact ⟨rfl⟩
        clear hK K
        refine wpQuiet_step (fun K hK => ?_)
        go_simp
        refine ⟨_, fun w' hw' => rfl, hK _ ?_⟩
        clear hK K
        refine wpQuiet_step (fun K hK => ?_)
        go_simp
        refine ⟨_, fun w' hw' => rfl, hK _ ?_⟩
        clear hK K
        refine wpQuiet_step (fun K hK => ?_)
        go_simp
        refine ⟨_, fun w' hw' => rfl, hK _ ?_⟩
        clear hK K
        refine wpQuiet_step (fun K hK => ?_)
        go_simp
        refine ⟨_, fun w' hw' => rfl, hK _ ?_⟩
        clear hK K
        refine wpQuiet_step (fun K hK => ?_)
        go_simp
        apply Exists.intro
        refine And.intro (fun w' hw' => ?_) (hK _ ?_)
        · obtain ⟨hc', hf'⟩ := bcell hw'
          go_simp
          first | rfl | exact ⟨rfl, rfl⟩ | exact ⟨rfl⟩
        clear hK K
        refine wpQuiet_step (fun K hK => ?_)
        go_simp
        apply Exists.intro
        refine And.intro (fun w' hw' => ?_) (hK _ ?_)
        · refine ((t3 ▸ l1key_any (d.L k).key _)).mono ?_
          rintro e w'' ⟨rfl, hb⟩
          exact ⟨rfl, hw'.trans (hb.mono hw'.size)⟩
        clear hK K
        refine wpQuiet_step (fun K hK => ?_)
        go_simp
        refine ⟨_, fun w' hw' => rfl, hK _ ?_⟩
        clear hK K
        refine wpQuiet_step (fun K hK => ?_)
        go_simp
        refine ⟨_, fun w' hw' => rfl, hK _ ?_⟩
        clear hK K
        refine wpQuiet_step (fun K hK => ?_)
        go_simp
        refine ⟨_, fun w' hw' => rfl, hK _ ?_⟩
        clear hK K
        refine wpQuiet_step (fun K hK => ?_)
        go_simp
        refine ⟨_, fun w' hw' => rfl, hK _ ?_⟩
        clear hK K
        refine wpQuiet_step (fun K hK => ?_)
        go_simp
        apply Exists.intro
        refine And.intro (fun w' hw' => ?_) (hK _ ?_)
        · obtain ⟨hc', hf'⟩ := bcell hw'
          go_simp
          first | rfl | exact ⟨rfl, rfl⟩ | exact ⟨rfl⟩
        clear hK K
        refine wpQuiet_step (fun K hK => ?_)
        go_simp
        apply Exists.intro
        refine And.intro (fun w' hw' => ?_) (hK _ ?_)
        · refine ((t4' ▸ valueOk_any (d.L k).val.kind (d.L k).val.num (d.L k).val.flt (d.L k).val.str (d.L k).val.ref _)).mono ?_
          rintro e w'' ⟨rfl, hb⟩
          exact ⟨rfl, hw'.trans (hb.mono hw'.size)⟩
        clear hK K
        refine wpQuiet_step (fun K hK => ?_)
        go_simp
        refine ⟨_, fun w' hw' => rfl, hK _ ?_⟩
        clear hK K
        refine wpQuiet_step (fun K hK => ?_)
        go_simp
        refine ⟨_, fun w' hw' => rfl, hK _ ?_⟩
        clear hK K
        refine wpQuiet_step (fun K hK => ?_)
        go_simp
        refine ⟨_, fun w' hw' => rfl, hK _ ?_⟩
        clear hK K
        refine wpQuiet_step (fun K hK => ?_)
        go_simp
        refine ⟨_, fun w' hw' => rfl, hK _ ?_⟩
        clear hK K
        refine wpQuiet_step (fun K hK => ?_)
        go_simp
        refine ⟨_, fun w' hw' => rfl, hK _ ?_⟩
        clear hK K
        refine wpQuiet_step (fun K hK => ?_)
        go_simp
        apply Exists.intro
        refine And.intro (fun w' hw' => ?_) (hK _ ?_)
        · obtain ⟨hc', hf'⟩ := bcell hw'
          go_simp
          first | rfl | exact ⟨rfl, rfl⟩ | exact ⟨rfl⟩
        clear hK K
        refine wpQuiet_step (fun K hK => ?_)
        go_simp
        refine ⟨_, fun w' hw' => rfl, hK _ ?_⟩
        clear hK K
        refine wpQuiet_step (fun K hK => ?_)
        go_simp
        refine ⟨_, fun w' hw' => rfl, hK _ ?_⟩
        clear hK K
        refine wpQuiet_nil ?_
        intro w2 hw2
        have hb2 : Below w.heap.size w w2 := (unhide HBW).trans (hw2.mono (unhide HBW).size)
        have hc2 : w2.cell? ⟨wr.heap.size, 10, none⟩ = some (.int .i64 (d.L k).turn) := (hw2.cell (p := ⟨wr.heap.size, 10, none⟩) hzW).trans y10
        have HB2 := hide hb2
        clear hw2 hb2 y0 y1 y2 y3 y4 y5 y6 y7 y8 y9 y10
        go_wp2
        go_roundw
        case rel => exact ⟨k + 1, live + 1, (d.L k).turn, by omega, by go_num, rfl, by go_num, unhide HT, by omega, by omega, unhide HB2⟩
        case measure => simp [intOf]; omega
end Go.Proofs.YtglcaejddckleaaGreatDoor
