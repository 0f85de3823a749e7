/-
  DcD, DcE.
-/
import Derived.Test.YtfceeijdmilieaaGreatBr5
namespace Go.Proofs.YtfceeijdmilieaaGreat
open Go.RowKit
set_option linter.unusedVariables false
attribute [local go_sem] run_store_float run_equalIn_float

theorem logTo_dead {d : Dc} {k : Nat} {live last : Int} (h : logTo d k = some (live, last)) (ht : (d.L k).turn = 0) : logTo d (k + 1) = if noneB (d.L k).key && noneB (d.L k).val then some (live, last) else none := by
  show (match logTo d k with | none => none | some (live, last) => _) = _
  rw [h]
  simp only [ht, if_true]
theorem logTo_live {d : Dc} {k : Nat} {live last : Int} (h : logTo d k = some (live, last)) (ht : (d.L k).turn ≠ 0) : logTo d (k + 1) = if pairB d.turns last (d.L k) then some (live + 1, (d.L k).turn) else none := by
  show (match logTo d k with | none => none | some (live, last) => _) = _
  rw [h]
  simp only [ht, if_false]
theorem not_D2 {d : Dc} {k : Nat} (hk : k < d.n) (h : logTo d (k + 1) = none) : tells (D2 d) = false := tells_no (fun ⟨l, e⟩ => by rw [logTo_none' h (by omega)] at e; cases e)

set_option maxRecDepth 100000 in
set_option maxHeartbeats 2000000 in
theorem l1logok_any (c o : Nat) (la : Option Addr) (lc : Nat) (ia : Option Addr) (ic : Nat) (xa : Option Addr) (xc : Nat) (d : Dc) (w : World) (hD : DPtr w c o la lc ia ic xa xc d) (hS : Small d) :
    Calls Tryz.prog 44 #[Pc c o] w fun e w' => e = .returned (.bool (tells (D2 d))) ∧ Below w.heap.size w w' := by
  have hn := hS.n
  have c0 := hD.c0
  have hlt := hD.lt
  have HD := hide hD
  clear hD hS
  go_enter Tryz.func44, Tryz.ntmps44
  go_wp2
  go_loopw [3, 4, 12] (fun l li i wr => ∃ (k : Nat) (live last : Int), k ≤ d.n ∧ i = .int .i64 k ∧ l = .int .i64 last ∧ li = .int .i64 live ∧ logTo d k = some (live, last) ∧ 0 ≤ live ∧ live ≤ k ∧ Below w.heap.size w wr) (fun _ _ i _ => d.n - (intOf i).toNat)
  case atStart => exact ⟨0, 0, 0, by omega, rfl, rfl, rfl, rfl, by omega, by omega, Below.refl _ _⟩
  case round =>
    clear c0
    obtain ⟨k, live, last, hk, rfl, rfl, rfl, hlog, hl0, hlk, hb⟩ := hrel
    have hD := (unhide HD).below hb
    have c4 := hD.c4
    have c5 := hD.c5
    have hcl := hD.lt
    have HLG := hide hlog
    clear hD hlog
    by_cases hkn : k < d.n
    case neg =>
      have hkn' : k = d.n := by omega
      subst hkn'
      have HB := hide hb
      clear hb
      by_cases he : live = d.live
      · have HT := hide (tells_yes (p := D2 d) ⟨last, by rw [← he]; exact unhide HLG⟩)
        have he' : (live == d.live) = true := by simp [he]
        clear he
        go_wp2
        go_ret
        exact ⟨by rw [unhide HT]; simp, unhide HB⟩
      · have HT := hide (tells_no (p := D2 d) (fun ⟨l, e⟩ => by rw [unhide HLG] at e; simp only [Option.some.injEq, Prod.mk.injEq] at e; exact he e.1))
        have he' : (live == d.live) = false := by simp [he]
        clear he
        go_wp2
        go_ret
        exact ⟨by rw [unhide HT]; simp, unhide HB⟩
    obtain ⟨b, off, rfl, hbl, hcs⟩ := (unhide HD).rows.log.resolve_left (by omega)
    obtain ⟨e0, e1, e2, e3, e4, e5, e6, e7, e8, e9, e10⟩ := (hcs k hkn).keep (fun q => hb.cell (p := ⟨b, q, none⟩) hbl)
    have hwz := hb.size
    have HB := hide hb
    clear hcs hb
    by_cases ht : (d.L k).turn = 0
    · have HN := hide (logTo_dead (unhide HLG) ht)
      rw [ht] at e10
      clear ht
      go_wp2_with fail
      refine (l1none_any (d.L k).key _).mono ?_
      rintro e w1 ⟨rfl, hb1⟩
      obtain ⟨hc1, hf1⟩ := bcell hb1
      have hz1 := hb1.size
      simp at hz1
      have hz2 : wr.heap.size < w1.heap.size := by omega
      have hb1' : Below w.heap.size w w1 := ((unhide HB).alloc (unhide HB).size _).trans (hb1.mono (by simp; omega))
      have HB1 := hide hb1'
      cases hk1 : noneB (d.L k).key
      · have HT := hide (not_D2 hkn ((unhide HN).trans (by rw [hk1]; rfl)))
        clear hb1 hb1'
        go_wp2_with fail
        go_ret
        exact ⟨by rw [unhide HT]; rfl, unhide HB1⟩
      have d5 : w1.cell? ⟨wr.heap.size, 5, none⟩ = some (.int .i64 (d.L k).val.kind) := by rw [hc1 _ _ (by simp)]; simp [go_sem]
      have d6 : w1.cell? ⟨wr.heap.size, 6, none⟩ = some (.int .i64 (d.L k).val.num) := by rw [hc1 _ _ (by simp)]; simp [go_sem]
      have d7 : w1.cell? ⟨wr.heap.size, 7, none⟩ = some (.float .f64 (d.L k).val.flt) := by rw [hc1 _ _ (by simp)]; simp [go_sem]
      have d8 : w1.cell? ⟨wr.heap.size, 8, none⟩ = some (.string (d.L k).val.str) := by rw [hc1 _ _ (by simp)]; simp [go_sem]
      have d9 : w1.cell? ⟨wr.heap.size, 9, none⟩ = some (.int .i64 (d.L k).val.ref) := by rw [hc1 _ _ (by simp)]; simp [go_sem]
      clear hb1 hb1' hc1 hf1
      go_wp2_with fail
      refine (l1none_any (d.L k).val _).mono ?_
      rintro e w2 ⟨rfl, hb2⟩
      have HB2 := hide ((unhide HB1).trans (hb2.mono (unhide HB1).size))
      clear hb2
      cases hk2 : noneB (d.L k).val
      · have HT := hide (not_D2 hkn ((unhide HN).trans (by rw [hk1, hk2]; rfl)))
        go_wp2_with fail
        go_ret
        exact ⟨by rw [unhide HT]; rfl, unhide HB2⟩
      · have HT := hide ((unhide HN).trans (by rw [hk1, hk2]; rfl) : logTo d (k + 1) = some (live, last))
        go_wp2_with fail
        go_roundw
        case rel => exact ⟨k + 1, live, last, by omega, by go_num, rfl, rfl, unhide HT, hl0, by omega, unhide HB2⟩
        case measure => simp [intOf]; omega
    · have HN := hide (logTo_live (unhide HLG) ht)
      have ht' : ((d.L k).turn == 0) = false := by simp [ht]
      clear ht
      go_wp2_with fail
      obtain ⟨W, hW⟩ : ∃ W, W = wr.alloc (.cells #[.int .i64 (d.L k).key.kind, .int .i64 (d.L k).key.num, .float .f64 (d.L k).key.flt, .string (d.L k).key.str, .int .i64 (d.L k).key.ref, .int .i64 (d.L k).val.kind, .int .i64 (d.L k).val.num, .float .f64 (d.L k).val.flt, .string (d.L k).val.str, .int .i64 (d.L k).val.ref, .int .i64 (d.L k).turn] 136) := ⟨_, rfl⟩
      rw [← hW]
      have y0 : W.cell? ⟨wr.heap.size, 0, none⟩ = some (.int .i64 (d.L k).key.kind) := by rw [hW]; simp [go_sem]
      have y1 : W.cell? ⟨wr.heap.size, 1, none⟩ = some (.int .i64 (d.L k).key.num) := by rw [hW]; simp [go_sem]
      have y2 : W.cell? ⟨wr.heap.size, 2, none⟩ = some (.float .f64 (d.L k).key.flt) := by rw [hW]; simp [go_sem]
      have y3 : W.cell? ⟨wr.heap.size, 3, none⟩ = some (.string (d.L k).key.str) := by rw [hW]; simp [go_sem]
      have y4 : W.cell? ⟨wr.heap.size, 4, none⟩ = some (.int .i64 (d.L k).key.ref) := by rw [hW]; simp [go_sem]
      have y5 : W.cell? ⟨wr.heap.size, 5, none⟩ = some (.int .i64 (d.L k).val.kind) := by rw [hW]; simp [go_sem]
      have y6 : W.cell? ⟨wr.heap.size, 6, none⟩ = some (.int .i64 (d.L k).val.num) := by rw [hW]; simp [go_sem]
      have y7 : W.cell? ⟨wr.heap.size, 7, none⟩ = some (.float .f64 (d.L k).val.flt) := by rw [hW]; simp [go_sem]
      have y8 : W.cell? ⟨wr.heap.size, 8, none⟩ = some (.string (d.L k).val.str) := by rw [hW]; simp [go_sem]
      have y9 : W.cell? ⟨wr.heap.size, 9, none⟩ = some (.int .i64 (d.L k).val.ref) := by rw [hW]; simp [go_sem]
      have y10 : W.cell? ⟨wr.heap.size, 10, none⟩ = some (.int .i64 (d.L k).turn) := by rw [hW]; simp [go_sem]
      have HBW : Hid (Below w.heap.size w W) := hide (by rw [hW]; exact (unhide HB).alloc (unhide HB).size _)
      have hzW : wr.heap.size < W.heap.size := by rw [hW]; simp
      have hcW : c < W.heap.size := by omega
      have z5 : W.cell? ⟨c, o + 5, none⟩ = some (.int .i64 d.turns) := by rw [hW]; exact (World.cell?_alloc_lt _ _ _ (by exact hcl)).trans c5
      clear hW e0 e1 e2 e3 e4 e5 e6 e7 e8 e9 e10 c4 c5 hbl HB
      by_cases t1 : (d.L k).turn ≤ last
      · have HT := hide (not_D2 hkn ((unhide HN).trans (if_neg (by unfold pairB; simp; intros; omega))))
        have hd : decide ((d.L k).turn ≤ last) = true := by simp [t1]
        clear t1
        refine wp_region_quiet (C := fun w' => Below W.heap.size W w') (by kernel_rfl) (by kernel_rfl) ((Below.refl _ _).drew) ?_
        show wpQuiet _ _ _ _ [_, _, _, _, _, _, _, _, _, _, _, _, _, _, _, _, _, _, _, _, _, _, _, _, _, _, _, _, _, _, _] _
        refine wpQuiet_step (fun K hK => ?_)
        go_simp
        refine ⟨_, fun w' hw' => rfl, hK _ ?_⟩
        clear hK K
        refine wpQuiet_step (fun K hK => ?_)
        go_simp
        apply Exists.intro
        refine And.intro (fun w' hw' => ?_) (hK _ ?_)
        · obtain ⟨hc', hf'⟩ := bcell hw'
          go_simp
          first | rfl | exact ⟨rfl, rfl⟩ | exact ⟨rfl⟩
        clear hK K
        refine wpQuiet_step (fun K hK => ?_)
        go_simp
        refine ⟨_, fun w' hw' => rfl, hK _ ?_⟩
        clear hK K
        refine wpQuiet_step (fun K hK => ?_)
        go_simp
        refine ⟨_, fun w' hw' => rfl, hK _ ?_⟩
        clear hK K
        refine wpQuiet_step (fun K hK => ?_)
        go_simp
        refine ⟨_, fun w' hw' => rfl, hK _ ?_⟩
        clear hK K
        go_big_quiet_step (fail)
        go_big_quiet_step (fail)
        go_big_quiet_step (fail)
        go_big_quiet_step (fail)
        go_big_quiet_step (fail)
        go_big_quiet_step (fail)
        go_big_quiet_step (fail)
        refine wpQuiet_step (fun K hK => ?_)
        go_simp
        refine ⟨_, fun w' hw' => rfl, hK _ ?_⟩
        clear hK K
        refine wpQuiet_step (fun K hK => ?_)
        go_simp
        refine ⟨_, fun w' hw' => rfl, hK _ ?_⟩
        clear hK K
        go_big_quiet_step (fail)
        go_big_quiet_step (fail)
        go_big_quiet_step (fail)
        go_big_quiet_step (fail)
        refine wpQuiet_step (fun K hK => ?_)
        go_simp
        refine ⟨_, fun w' hw' => rfl, hK _ ?_⟩
        clear hK K
        refine wpQuiet_step (fun K hK => ?_)
        go_simp
        refine ⟨_, fun w' hw' => rfl, hK _ ?_⟩
        clear hK K
        go_big_quiet_step (fail)
        go_big_quiet_step (fail)
        go_big_quiet_step (fail)
        go_big_quiet_step (fail)
        refine wpQuiet_step (fun K hK => ?_)
        go_simp
        refine ⟨_, fun w' hw' => rfl, hK _ ?_⟩
        clear hK K
        refine wpQuiet_step (fun K hK => ?_)
        go_simp
        refine ⟨_, fun w' hw' => rfl, hK _ ?_⟩
        clear hK K
        go_big_quiet_step (fail)
        go_big_quiet_step (fail)
        go_big_quiet_step (fail)
        go_big_quiet_step (fail)
        refine wpQuiet_step (fun K hK => ?_)
        go_simp
        refine ⟨_, fun w' hw' => rfl, hK _ ?_⟩
        clear hK K
        refine wpQuiet_nil ?_
        intro w2 hw2
        have hb2 : Below w.heap.size w w2 := (unhide HBW).trans (hw2.mono (unhide HBW).size)
        have HB2 := hide hb2
        clear hw2 hb2
        go_wp2
        go_ret
        exact ⟨by rw [unhide HT]; rfl, unhide HB2⟩
      have hd : decide ((d.L k).turn ≤ last) = false := by simp; omega
      by_cases t2 : d.turns < (d.L k).turn
      · have HT := hide (not_D2 hkn ((unhide HN).trans (if_neg (by unfold pairB; simp; intros; omega))))
        have hd2 : decide (d.turns < (d.L k).turn) = true := by simp [t2]
        clear t1 t2
        refine wp_region_quiet (C := fun w' => Below W.heap.size W w') (by kernel_rfl) (by kernel_rfl) ((Below.refl _ _).drew) ?_
        show wpQuiet _ _ _ _ [_, _, _, _, _, _, _, _, _, _, _, _, _, _, _, _, _, _, _, _, _, _, _, _, _, _, _, _, _, _, _] _
        refine wpQuiet_step (fun K hK => ?_)
        go_simp
        refine ⟨_, fun w' hw' => rfl, hK _ ?_⟩
        clear hK K
        refine wpQuiet_step (fun K hK => ?_)
        go_simp
        apply Exists.intro
        refine And.intro (fun w' hw' => ?_) (hK _ ?_)
        · obtain ⟨hc', hf'⟩ := bcell hw'
          go_simp
          first | rfl | exact ⟨rfl, rfl⟩ | exact ⟨rfl⟩
        clear hK K
        refine wpQuiet_step (fun K hK => ?_)
        go_simp
        refine ⟨_, fun w' hw' => rfl, hK _ ?_⟩
        clear hK K
        refine wpQuiet_step (fun K hK => ?_)
        go_simp
        refine ⟨_, fun w' hw' => rfl, hK _ ?_⟩
        clear hK K
        refine wpQuiet_step (fun K hK => ?_)
        go_simp
        refine ⟨_, fun w' hw' => rfl, hK _ ?_⟩
        clear hK K
        refine wpQuiet_step (fun K hK => ?_)
        go_simp
        refine ⟨_, fun w' hw' => rfl, hK _ ?_⟩
        clear hK K
        refine wpQuiet_step (fun K hK => ?_)
        go_simp
        apply Exists.intro
        refine And.intro (fun w' hw' => ?_) (hK _ ?_)
        · obtain ⟨hc', hf'⟩ := bcell hw'
          go_simp
          first | rfl | exact ⟨rfl, rfl⟩ | exact ⟨rfl⟩
        clear hK K
        refine wpQuiet_step (fun K hK => ?_)
        go_simp
        refine ⟨_, fun w' hw' => rfl, hK _ ?_⟩
        clear hK K
        refine wpQuiet_step (fun K hK => ?_)
        go_simp
        refine ⟨_, fun w' hw' => rfl, hK _ ?_⟩
        clear hK K
        refine wpQuiet_step (fun K hK => ?_)
        go_simp
        refine ⟨_, fun w' hw' => rfl, hK _ ?_⟩
        clear hK K
        refine wpQuiet_step (fun K hK => ?_)
        go_simp
        apply Exists.intro
        refine And.intro (fun w' hw' => ?_) (hK _ ?_)
        · obtain ⟨hc', hf'⟩ := bcell hw'
          go_simp
          first | rfl | exact ⟨rfl, rfl⟩ | exact ⟨rfl⟩
        clear hK K
        refine wpQuiet_step (fun K hK => ?_)
        go_simp
        refine ⟨_, fun w' hw' => rfl, hK _ ?_⟩
        clear hK K
        refine wpQuiet_step (fun K hK => ?_)
        go_simp
        refine ⟨_, fun w' hw' => rfl, hK _ ?_⟩
        clear hK K
        refine wpQuiet_step (fun K hK => ?_)
        go_simp
        refine ⟨_, fun w' hw' => rfl, hK _ ?_⟩
        clear hK K
        go_big_quiet_step (fail)
        go_big_quiet_step (fail)
        go_big_quiet_step (fail)
        go_big_quiet_step (fail)
        refine wpQuiet_step (fun K hK => ?_)
        go_simp
        refine ⟨_, fun w' hw' => rfl, hK _ ?_⟩
        clear hK K
        refine wpQuiet_step (fun K hK => ?_)
        go_simp
        refine ⟨_, fun w' hw' => rfl, hK _ ?_⟩
        clear hK K
        go_big_quiet_step (fail)
        go_big_quiet_step (fail)
        go_big_quiet_step (fail)
        go_big_quiet_step (fail)
        refine wpQuiet_step (fun K hK => ?_)
        go_simp
        refine ⟨_, fun w' hw' => rfl, hK _ ?_⟩
        clear hK K
        refine wpQuiet_step (fun K hK => ?_)
        go_simp
        refine ⟨_, fun w' hw' => rfl, hK _ ?_⟩
        clear hK K
        go_big_quiet_step (fail)
        go_big_quiet_step (fail)
        go_big_quiet_step (fail)
        go_big_quiet_step (fail)
        refine wpQuiet_step (fun K hK => ?_)
        go_simp
        refine ⟨_, fun w' hw' => rfl, hK _ ?_⟩
        clear hK K
        refine wpQuiet_nil ?_
        intro w2 hw2
        have hb2 : Below w.heap.size w w2 := (unhide HBW).trans (hw2.mono (unhide HBW).size)
        have HB2 := hide hb2
        clear hw2 hb2
        go_wp2
        go_ret
        exact ⟨by rw [unhide HT]; rfl, unhide HB2⟩
      have hd2 : decide (d.turns < (d.L k).turn) = false := by simp; omega
      cases t3 : keyB (d.L k).key
      · have HT := hide (not_D2 hkn ((unhide HN).trans (if_neg (by unfold pairB; simp [t3]))))
        clear t1 t2
        refine wp_region_quiet (C := fun w' => Below W.heap.size W w') (by kernel_rfl) (by kernel_rfl) ((Below.refl _ _).drew) ?_
        show wpQuiet _ _ _ _ [_, _, _, _, _, _, _, _, _, _, _, _, _, _, _, _, _, _, _, _, _, _, _, _, _, _, _, _, _, _, _] _
        refine wpQuiet_step (fun K hK => ?_)
        go_simp
        refine ⟨_, fun w' hw' => rfl, hK _ ?_⟩
        clear hK K
        refine wpQuiet_step (fun K hK => ?_)
        go_simp
        apply Exists.intro
        refine And.intro (fun w' hw' => ?_) (hK _ ?_)
        · obtain ⟨hc', hf'⟩ := bcell hw'
          go_simp
          first | rfl | exact ⟨rfl, rfl⟩ | exact ⟨rfl⟩
        clear hK K
        refine wpQuiet_step (fun K hK => ?_)
        go_simp
        refine ⟨_, fun w' hw' => rfl, hK _ ?_⟩
        clear hK K
        refine wpQuiet_step (fun K hK => ?_)
        go_simp
        refine ⟨_, fun w' hw' => rfl, hK _ ?_⟩
        clear hK K
        refine wpQuiet_step (fun K hK => ?_)
        go_simp
        refine ⟨_, fun w' hw' => rfl, hK _ ?_⟩
        clear hK K
        refine wpQuiet_step (fun K hK => ?_)
        go_simp
        refine ⟨_, fun w' hw' => rfl, hK _ ?_⟩
        clear hK K
        refine wpQuiet_step (fun K hK => ?_)
        go_simp
        apply Exists.intro
        refine And.intro (fun w' hw' => ?_) (hK _ ?_)
        · obtain ⟨hc', hf'⟩ := bcell hw'
          go_simp
          first | rfl | exact ⟨rfl, rfl⟩ | exact ⟨rfl⟩
        clear hK K
        refine wpQuiet_step (fun K hK => ?_)
        go_simp
        refine ⟨_, fun w' hw' => rfl, hK _ ?_⟩
        clear hK K
        refine wpQuiet_step (fun K hK => ?_)
        go_simp
        refine ⟨_, fun w' hw' => rfl, hK _ ?_⟩
        clear hK K
        refine wpQuiet_step (fun K hK => ?_)
        go_simp
        refine ⟨_, fun w' hw' => rfl, hK _ ?_⟩
        clear hK K
        refine wpQuiet_step (fun K hK => ?_)
        go_simp
        apply Exists.intro
        refine And.intro (fun w' hw' => ?_) (hK _ ?_)
        · obtain ⟨hc', hf'⟩ := bcell hw'
          go_simp
          first | rfl | exact ⟨rfl, rfl⟩ | exact ⟨rfl⟩
        clear hK K
        refine wpQuiet_step (fun K hK => ?_)
        go_simp
        refine ⟨_, fun w' hw' => rfl, hK _ ?_⟩
        clear hK K
        refine wpQuiet_step (fun K hK => ?_)
        go_simp
        refine ⟨_, fun w' hw' => rfl, hK _ ?_⟩
        clear hK K
        refine wpQuiet_step (fun K hK => ?_)
        go_simp
        refine ⟨_, fun w' hw' => rfl, hK _ ?_⟩
        clear hK K
        refine wpQuiet_step (fun K hK => ?_)
        go_simp
        refine ⟨_, fun w' hw' => rfl, hK _ ?_⟩
        clear hK K
        refine wpQuiet_step (fun K hK => ?_)
        go_simp
        apply Exists.intro
        refine And.intro (fun w' hw' => ?_) (hK _ ?_)
        · obtain ⟨hc', hf'⟩ := bcell hw'
          go_simp
          first | rfl | exact ⟨rfl, rfl⟩ | exact ⟨rfl⟩
        clear hK K
        refine wpQuiet_step (fun K hK => ?_)
        go_simp
        apply Exists.intro
        refine And.intro (fun w' hw' => ?_) (hK _ ?_)
        · refine ((t3 ▸ l1key_any (d.L k).key _)).mono ?_
          rintro e w'' ⟨rfl, hb⟩
          exact ⟨rfl, hw'.trans (hb.mono hw'.size)⟩
        clear hK K
        refine wpQuiet_step (fun K hK => ?_)
        go_simp
        refine ⟨_, fun w' hw' => rfl, hK _ ?_⟩
        clear hK K
        refine wpQuiet_step (fun K hK => ?_)
        go_simp
        refine ⟨_, fun w' hw' => rfl, hK _ ?_⟩
        clear hK K
        refine wpQuiet_step (fun K hK => ?_)
        go_simp
        refine ⟨_, fun w' hw' => rfl, hK _ ?_⟩
        clear hK K
        go_big_quiet_step (fail)
        go_big_quiet_step (fail)
        go_big_quiet_step (fail)
        go_big_quiet_step (fail)
        refine wpQuiet_step (fun K hK => ?_)
        go_simp
        refine ⟨_, fun w' hw' => rfl, hK _ ?_⟩
        clear hK K
        refine wpQuiet_step (fun K hK => ?_)
        go_simp
        refine ⟨_, fun w' hw' => rfl, hK _ ?_⟩
        clear hK K
        go_big_quiet_step (fail)
        go_big_quiet_step (fail)
        go_big_quiet_step (fail)
        go_big_quiet_step (fail)
        refine wpQuiet_step (fun K hK => ?_)
        go_simp
        refine ⟨_, fun w' hw' => rfl, hK _ ?_⟩
        clear hK K
        refine wpQuiet_nil ?_
        intro w2 hw2
        have hb2 : Below w.heap.size w w2 := (unhide HBW).trans (hw2.mono (unhide HBW).size)
        have HB2 := hide hb2
        clear hw2 hb2
        go_wp2
        go_ret
        exact ⟨by rw [unhide HT]; rfl, unhide HB2⟩
      cases t4 : (d.L k).val.ok
      · have HT := hide (not_D2 hkn ((unhide HN).trans (if_neg (by unfold pairB; simp [t4]))))
        have t4' : validB (d.L k).val.kind (d.L k).val.num (d.L k).val.flt (d.L k).val.str (d.L k).val.ref = false := t4
        clear t1 t2
        refine wp_region_quiet (C := fun w' => Below W.heap.size W w') (by kernel_rfl) (by kernel_rfl) ((Below.refl _ _).drew) ?_
        show wpQuiet _ _ _ _ [_, _, _, _, _, _, _, _, _, _, _, _, _, _, _, _, _, _, _, _, _, _, _, _, _, _, _, _, _, _, _] _
        refine wpQuiet_step (fun K hK => ?_)
        go_simp
        refine ⟨_, fun w' hw' => rfl, hK _ ?_⟩
        clear hK K
        refine wpQuiet_step (fun K hK => ?_)
        go_simp
        apply Exists.intro
        refine And.intro (fun w' hw' => ?_) (hK _ ?_)
        · obtain ⟨hc', hf'⟩ := bcell hw'
          go_simp
          first | rfl | exact ⟨rfl, rfl⟩ | exact ⟨rfl⟩
        clear hK K
        refine wpQuiet_step (fun K hK => ?_)
        go_simp
        refine ⟨_, fun w' hw' => rfl, hK _ ?_⟩
        clear hK K
        refine wpQuiet_step (fun K hK => ?_)
        go_simp
        refine ⟨_, fun w' hw' => rfl, hK _ ?_⟩
        clear hK K
        refine wpQuiet_step (fun K hK => ?_)
        go_simp
        refine ⟨_, fun w' hw' => rfl, hK _ ?_⟩
        clear hK K
        refine wpQuiet_step (fun K hK => ?_)
        go_simp
        refine ⟨_, fun w' hw' => rfl, hK _ ?_⟩
        clear hK K
        refine wpQuiet_step (fun K hK => ?_)
        go_simp
        apply Exists.intro
        refine And.intro (fun w' hw' => ?_) (hK _ ?_)
        · obtain ⟨hc', hf'⟩ := bcell hw'
          go_simp
          first | rfl | exact ⟨rfl, rfl⟩ | exact ⟨rfl⟩
        clear hK K
        refine wpQuiet_step (fun K hK => ?_)
        go_simp
        refine ⟨_, fun w' hw' => rfl, hK _ ?_⟩
        clear hK K
        refine wpQuiet_step (fun K hK => ?_)
        go_simp
        refine ⟨_, fun w' hw' => rfl, hK _ ?_⟩
        clear hK K
        refine wpQuiet_step (fun K hK => ?_)
        go_simp
        refine ⟨_, fun w' hw' => rfl, hK _ ?_⟩
        clear hK K
        refine wpQuiet_step (fun K hK => ?_)
        go_simp
        apply Exists.intro
        refine And.intro (fun w' hw' => ?_) (hK _ ?_)
        · obtain ⟨hc', hf'⟩ := bcell hw'
          go_simp
          first | rfl | exact ⟨rfl, rfl⟩ | exact ⟨rfl⟩
        clear hK K
        refine wpQuiet_step (fun K hK => ?_)
        go_simp
        refine ⟨_, fun w' hw' => rfl, hK _ ?_⟩
        clear hK K
        refine wpQuiet_step (fun K hK => ?_)
        go_simp
        refine ⟨_, fun w' hw' => rfl, hK _ ?_⟩
        clear hK K
        refine wpQuiet_step (fun K hK => ?_)
        go_simp
        refine ⟨_, fun w' hw' => rfl, hK _ ?_⟩
        clear hK K
        refine wpQuiet_step (fun K hK => ?_)
        go_simp
        refine ⟨_, fun w' hw' => rfl, hK _ ?_⟩
        clear hK K
        refine wpQuiet_step (fun K hK => ?_)
        go_simp
        apply Exists.intro
        refine And.intro (fun w' hw' => ?_) (hK _ ?_)
        · obtain ⟨hc', hf'⟩ := bcell hw'
          go_simp
          first | rfl | exact ⟨rfl, rfl⟩ | exact ⟨rfl⟩
        clear hK K
        refine wpQuiet_step (fun K hK => ?_)
        go_simp
        apply Exists.intro
        refine And.intro (fun w' hw' => ?_) (hK _ ?_)
        · refine ((t3 ▸ l1key_any (d.L k).key _)).mono ?_
          rintro e w'' ⟨rfl, hb⟩
          exact ⟨rfl, hw'.trans (hb.mono hw'.size)⟩
        clear hK K
        refine wpQuiet_step (fun K hK => ?_)
        go_simp
        refine ⟨_, fun w' hw' => rfl, hK _ ?_⟩
        clear hK K
        refine wpQuiet_step (fun K hK => ?_)
        go_simp
        refine ⟨_, fun w' hw' => rfl, hK _ ?_⟩
        clear hK K
        refine wpQuiet_step (fun K hK => ?_)
        go_simp
        refine ⟨_, fun w' hw' => rfl, hK _ ?_⟩
        clear hK K
        refine wpQuiet_step (fun K hK => ?_)
        go_simp
        refine ⟨_, fun w' hw' => rfl, hK _ ?_⟩
        clear hK K
        refine wpQuiet_step (fun K hK => ?_)
        go_simp
        apply Exists.intro
        refine And.intro (fun w' hw' => ?_) (hK _ ?_)
        · obtain ⟨hc', hf'⟩ := bcell hw'
          go_simp
          first | rfl | exact ⟨rfl, rfl⟩ | exact ⟨rfl⟩
        clear hK K
        refine wpQuiet_step (fun K hK => ?_)
        go_simp
        apply Exists.intro
        refine And.intro (fun w' hw' => ?_) (hK _ ?_)
        · refine ((t4' ▸ valueOk_any (d.L k).val.kind (d.L k).val.num (d.L k).val.flt (d.L k).val.str (d.L k).val.ref _)).mono ?_
          rintro e w'' ⟨rfl, hb⟩
          exact ⟨rfl, hw'.trans (hb.mono hw'.size)⟩
        clear hK K
        refine wpQuiet_step (fun K hK => ?_)
        go_simp
        refine ⟨_, fun w' hw' => rfl, hK _ ?_⟩
        clear hK K
        refine wpQuiet_step (fun K hK => ?_)
        go_simp
        refine ⟨_, fun w' hw' => rfl, hK _ ?_⟩
        clear hK K
        refine wpQuiet_step (fun K hK => ?_)
        go_simp
        refine ⟨_, fun w' hw' => rfl, hK _ ?_⟩
        clear hK K
        go_big_quiet_step (fail)
        go_big_quiet_step (fail)
        go_big_quiet_step (fail)
        go_big_quiet_step (fail)
        refine wpQuiet_step (fun K hK => ?_)
        go_simp
        refine ⟨_, fun w' hw' => rfl, hK _ ?_⟩
        clear hK K
        refine wpQuiet_nil ?_
        intro w2 hw2
        have hb2 : Below w.heap.size w w2 := (unhide HBW).trans (hw2.mono (unhide HBW).size)
        have HB2 := hide hb2
        clear hw2 hb2
        go_wp2
        go_ret
        exact ⟨by rw [unhide HT]; rfl, unhide HB2⟩
      have t4' : validB (d.L k).val.kind (d.L k).val.num (d.L k).val.flt (d.L k).val.str (d.L k).val.ref = true := t4
      by_cases t5 : (d.L k).val.kind = 0
      · have HT := hide (not_D2 hkn ((unhide HN).trans (if_neg (by unfold pairB; simp [t5]))))
        have t5' : ((d.L k).val.kind == 0) = true := by simp [t5]
        clear t1 t2 t5
        refine wp_region_quiet (C := fun w' => Below W.heap.size W w') (by kernel_rfl) (by kernel_rfl) ((Below.refl _ _).drew) ?_
        show wpQuiet _ _ _ _ [_, _, _, _, _, _, _, _, _, _, _, _, _, _, _, _, _, _, _, _, _, _, _, _, _, _, _, _, _, _, _] _
        refine wpQuiet_step (fun K hK => ?_)
        go_simp
        refine ⟨_, fun w' hw' => rfl, hK _ ?_⟩
        clear hK K
        refine wpQuiet_step (fun K hK => ?_)
        go_simp
        apply Exists.intro
        refine And.intro (fun w' hw' => ?_) (hK _ ?_)
        · obtain ⟨hc', hf'⟩ := bcell hw'
          go_simp
          first | rfl | exact ⟨rfl, rfl⟩ | exact ⟨rfl⟩
        clear hK K
        refine wpQuiet_step (fun K hK => ?_)
        go_simp
        refine ⟨_, fun w' hw' => rfl, hK _ ?_⟩
        clear hK K
        refine wpQuiet_step (fun K hK => ?_)
        go_simp
        refine ⟨_, fun w' hw' => rfl, hK _ ?_⟩
        clear hK K
        refine wpQuiet_step (fun K hK => ?_)
        go_simp
        refine ⟨_, fun w' hw' => rfl, hK _ ?_⟩
        clear hK K
        refine wpQuiet_step (fun K hK => ?_)
        go_simp
        refine ⟨_, fun w' hw' => rfl, hK _ ?_⟩
        clear hK K
        refine wpQuiet_step (fun K hK => ?_)
        go_simp
        apply Exists.intro
        refine And.intro (fun w' hw' => ?_) (hK _ ?_)
        · obtain ⟨hc', hf'⟩ := bcell hw'
          go_simp
          first | rfl | exact ⟨rfl, rfl⟩ | exact ⟨rfl⟩
        clear hK K
        refine wpQuiet_step (fun K hK => ?_)
        go_simp
        refine ⟨_, fun w' hw' => rfl, hK _ ?_⟩
        clear hK K
        refine wpQuiet_step (fun K hK => ?_)
        go_simp
        refine ⟨_, fun w' hw' => rfl, hK _ ?_⟩
        clear hK K
        refine wpQuiet_step (fun K hK => ?_)
        go_simp
        refine ⟨_, fun w' hw' => rfl, hK _ ?_⟩
        clear hK K
        refine wpQuiet_step (fun K hK => ?_)
        go_simp
        apply Exists.intro
        refine And.intro (fun w' hw' => ?_) (hK _ ?_)
        · obtain ⟨hc', hf'⟩ := bcell hw'
          go_simp
          first | rfl | exact ⟨rfl, rfl⟩ | exact ⟨rfl⟩
        clear hK K
        refine wpQuiet_step (fun K hK => ?_)
        go_simp
        refine ⟨_, fun w' hw' => rfl, hK _ ?_⟩
        clear hK K
        refine wpQuiet_step (fun K hK => ?_)
        go_simp
        refine ⟨_, fun w' hw' => rfl, hK _ ?_⟩
        clear hK K
        refine wpQuiet_step (fun K hK => ?_)
        go_simp
        refine ⟨_, fun w' hw' => rfl, hK _ ?_⟩
        clear hK K
        refine wpQuiet_step (fun K hK => ?_)
        go_simp
        refine ⟨_, fun w' hw' => rfl, hK _ ?_⟩
        clear hK K
        refine wpQuiet_step (fun K hK => ?_)
        go_simp
        apply Exists.intro
        refine And.intro (fun w' hw' => ?_) (hK _ ?_)
        · obtain ⟨hc', hf'⟩ := bcell hw'
          go_simp
          first | rfl | exact ⟨rfl, rfl⟩ | exact ⟨rfl⟩
        clear hK K
        refine wpQuiet_step (fun K hK => ?_)
        go_simp
        apply Exists.intro
        refine And.intro (fun w' hw' => ?_) (hK _ ?_)
        · refine ((t3 ▸ l1key_any (d.L k).key _)).mono ?_
          rintro e w'' ⟨rfl, hb⟩
          exact ⟨rfl, hw'.trans (hb.mono hw'.size)⟩
        clear hK K
        refine wpQuiet_step (fun K hK => ?_)
        go_simp
        refine ⟨_, fun w' hw' => rfl, hK _ ?_⟩
        clear hK K
        refine wpQuiet_step (fun K hK => ?_)
        go_simp
        refine ⟨_, fun w' hw' => rfl, hK _ ?_⟩
        clear hK K
        refine wpQuiet_step (fun K hK => ?_)
        go_simp
        refine ⟨_, fun w' hw' => rfl, hK _ ?_⟩
        clear hK K
        refine wpQuiet_step (fun K hK => ?_)
        go_simp
        refine ⟨_, fun w' hw' => rfl, hK _ ?_⟩
        clear hK K
        refine wpQuiet_step (fun K hK => ?_)
        go_simp
        apply Exists.intro
        refine And.intro (fun w' hw' => ?_) (hK _ ?_)
        · obtain ⟨hc', hf'⟩ := bcell hw'
          go_simp
          first | rfl | exact ⟨rfl, rfl⟩ | exact ⟨rfl⟩
        clear hK K
        refine wpQuiet_step (fun K hK => ?_)
        go_simp
        apply Exists.intro
        refine And.intro (fun w' hw' => ?_) (hK _ ?_)
        · refine ((t4' ▸ valueOk_any (d.L k).val.kind (d.L k).val.num (d.L k).val.flt (d.L k).val.str (d.L k).val.ref _)).mono ?_
          rintro e w'' ⟨rfl, hb⟩
          exact ⟨rfl, hw'.trans (hb.mono hw'.size)⟩
        clear hK K
        refine wpQuiet_step (fun K hK => ?_)
        go_simp
        refine ⟨_, fun w' hw' => rfl, hK _ ?_⟩
        clear hK K
        refine wpQuiet_step (fun K hK => ?_)
        go_simp
        refine ⟨_, fun w' hw' => rfl, hK _ ?_⟩
        clear hK K
        refine wpQuiet_step (fun K hK => ?_)
        go_simp
        refine ⟨_, fun w' hw' => rfl, hK _ ?_⟩
        clear hK K
        refine wpQuiet_step (fun K hK => ?_)
        go_simp
        refine ⟨_, fun w' hw' => rfl, hK _ ?_⟩
        clear hK K
        refine wpQuiet_step (fun K hK => ?_)
        go_simp
        refine ⟨_, fun w' hw' => rfl, hK _ ?_⟩
        clear hK K
        refine wpQuiet_step (fun K hK => ?_)
        go_simp
        apply Exists.intro
        refine And.intro (fun w' hw' => ?_) (hK _ ?_)
        · obtain ⟨hc', hf'⟩ := bcell hw'
          go_simp
          first | rfl | exact ⟨rfl, rfl⟩ | exact ⟨rfl⟩
        clear hK K
        refine wpQuiet_step (fun K hK => ?_)
        go_simp
        refine ⟨_, fun w' hw' => rfl, hK _ ?_⟩
        clear hK K
        refine wpQuiet_step (fun K hK => ?_)
        go_simp
        refine ⟨_, fun w' hw' => rfl, hK _ ?_⟩
        clear hK K
        refine wpQuiet_nil ?_
        intro w2 hw2
        have hb2 : Below w.heap.size w w2 := (unhide HBW).trans (hw2.mono (unhide HBW).size)
        have HB2 := hide hb2
        clear hw2 hb2
        go_wp2
        go_ret
        exact ⟨by rw [unhide HT]; rfl, unhide HB2⟩
      · have HT : Hid (logTo d (k + 1) = some (live + 1, (d.L k).turn)) := hide ((unhide HN).trans (if_pos (by unfold pairB; simp [t3, t4, t5]; omega)))
        have t5' : ((d.L k).val.kind == 0) = false := by simp [t5]
        clear t1 t2 t5
        refine wp_region_quiet (C := fun w' => Below W.heap.size W w') (by kernel_rfl) (by kernel_rfl) ((Below.refl _ _).drew) ?_
        show wpQuiet _ _ _ _ [_, _, _, _, _, _, _, _, _, _, _, _, _, _, _, _, _, _, _, _, _, _, _, _, _, _, _, _, _, _, _] _
        refine wpQuiet_step (fun K hK => ?_)
        go_simp
        refine ⟨_, fun w' hw' => rfl, hK _ ?_⟩
        clear hK K
        refine wpQuiet_step (fun K hK => ?_)
        go_simp
        apply Exists.intro
        refine And.intro (fun w' hw' => ?_) (hK _ ?_)
        · obtain ⟨hc', hf'⟩ := bcell hw'
          go_simp
          first | rfl | exact ⟨rfl, rfl⟩ | exact ⟨rfl⟩
        clear hK K
        refine wpQuiet_step (fun K hK => ?_)
        go_simp
        refine ⟨_, fun w' hw' => rfl, hK _ ?_⟩
        clear hK K
        refine wpQuiet_step (fun K hK => ?_)
        go_simp
        refine ⟨_, fun w' hw' => rfl, hK _ ?_⟩
        clear hK K
        refine wpQuiet_step (fun K hK => ?_)
        go_simp
        refine ⟨_, fun w' hw' => rfl, hK _ ?_⟩
        clear hK K
        refine wpQuiet_step (fun K hK => ?_)
        go_simp
        refine ⟨_, fun w' hw' => rfl, hK _ ?_⟩
        clear hK K
        refine wpQuiet_step (fun K hK => ?_)
        go_simp
        apply Exists.intro
        refine And.intro (fun w' hw' => ?_) (hK _ ?_)
        · obtain ⟨hc', hf'⟩ := bcell hw'
          go_simp
          first | rfl | exact ⟨rfl, rfl⟩ | exact ⟨rfl⟩
        clear hK K
        refine wpQuiet_step (fun K hK => ?_)
        go_simp
        refine ⟨_, fun w' hw' => rfl, hK _ ?_⟩
        clear hK K
        refine wpQuiet_step (fun K hK => ?_)
        go_simp
        refine ⟨_, fun w' hw' => rfl, hK _ ?_⟩
        clear hK K
        refine wpQuiet_step (fun K hK => ?_)
        go_simp
        refine ⟨_, fun w' hw' => rfl, hK _ ?_⟩
        clear hK K
        refine wpQuiet_step (fun K hK => ?_)
        go_simp
        apply Exists.intro
        refine And.intro (fun w' hw' => ?_) (hK _ ?_)
        · obtain ⟨hc', hf'⟩ := bcell hw'
          go_simp
          first | rfl | exact ⟨rfl, rfl⟩ | exact ⟨rfl⟩
        clear hK K
        refine wpQuiet_step (fun K hK => ?_)
        go_simp
        refine ⟨_, fun w' hw' => rfl, hK _ ?_⟩
        clear hK K
        refine wpQuiet_step (fun K hK => ?_)
        go_simp
        refine ⟨_, fun w' hw' => rfl, hK _ ?_⟩
        clear hK K
        refine wpQuiet_step (fun K hK => ?_)
        go_simp
        refine ⟨_, fun w' hw' => rfl, hK _ ?_⟩
        clear hK K
        refine wpQuiet_step (fun K hK => ?_)
        go_simp
        refine ⟨_, fun w' hw' => rfl, hK _ ?_⟩
        clear hK K
        refine wpQuiet_step (fun K hK => ?_)
        go_simp
        apply Exists.intro
        refine And.intro (fun w' hw' => ?_) (hK _ ?_)
        · obtain ⟨hc', hf'⟩ := bcell hw'
          go_simp
          first | rfl | exact ⟨rfl, rfl⟩ | exact ⟨rfl⟩
        clear hK K
        refine wpQuiet_step (fun K hK => ?_)
        go_simp
        apply Exists.intro
        refine And.intro (fun w' hw' => ?_) (hK _ ?_)
        · refine ((t3 ▸ l1key_any (d.L k).key _)).mono ?_
          rintro e w'' ⟨rfl, hb⟩
          exact ⟨rfl, hw'.trans (hb.mono hw'.size)⟩
        clear hK K
        refine wpQuiet_step (fun K hK => ?_)
        go_simp
        refine ⟨_, fun w' hw' => rfl, hK _ ?_⟩
        clear hK K
        refine wpQuiet_step (fun K hK => ?_)
        go_simp
        refine ⟨_, fun w' hw' => rfl, hK _ ?_⟩
        clear hK K
        refine wpQuiet_step (fun K hK => ?_)
        go_simp
        refine ⟨_, fun w' hw' => rfl, hK _ ?_⟩
        clear hK K
        refine wpQuiet_step (fun K hK => ?_)
        go_simp
        refine ⟨_, fun w' hw' => rfl, hK _ ?_⟩
        clear hK K
        refine wpQuiet_step (fun K hK => ?_)
        go_simp
        apply Exists.intro
        refine And.intro (fun w' hw' => ?_) (hK _ ?_)
        · obtain ⟨hc', hf'⟩ := bcell hw'
          go_simp
          first | rfl | exact ⟨rfl, rfl⟩ | exact ⟨rfl⟩
        clear hK K
        refine wpQuiet_step (fun K hK => ?_)
        go_simp
        apply Exists.intro
        refine And.intro (fun w' hw' => ?_) (hK _ ?_)
        · refine ((t4' ▸ valueOk_any (d.L k).val.kind (d.L k).val.num (d.L k).val.flt (d.L k).val.str (d.L k).val.ref _)).mono ?_
          rintro e w'' ⟨rfl, hb⟩
          exact ⟨rfl, hw'.trans (hb.mono hw'.size)⟩
        clear hK K
        refine wpQuiet_step (fun K hK => ?_)
        go_simp
        refine ⟨_, fun w' hw' => rfl, hK _ ?_⟩
        clear hK K
        refine wpQuiet_step (fun K hK => ?_)
        go_simp
        refine ⟨_, fun w' hw' => rfl, hK _ ?_⟩
        clear hK K
        refine wpQuiet_step (fun K hK => ?_)
        go_simp
        refine ⟨_, fun w' hw' => rfl, hK _ ?_⟩
        clear hK K
        refine wpQuiet_step (fun K hK => ?_)
        go_simp
        refine ⟨_, fun w' hw' => rfl, hK _ ?_⟩
        clear hK K
        refine wpQuiet_step (fun K hK => ?_)
        go_simp
        refine ⟨_, fun w' hw' => rfl, hK _ ?_⟩
        clear hK K
        refine wpQuiet_step (fun K hK => ?_)
        go_simp
        apply Exists.intro
        refine And.intro (fun w' hw' => ?_) (hK _ ?_)
        · obtain ⟨hc', hf'⟩ := bcell hw'
          go_simp
          first | rfl | exact ⟨rfl, rfl⟩ | exact ⟨rfl⟩
        clear hK K
        refine wpQuiet_step (fun K hK => ?_)
        go_simp
        refine ⟨_, fun w' hw' => rfl, hK _ ?_⟩
        clear hK K
        refine wpQuiet_step (fun K hK => ?_)
        go_simp
        refine ⟨_, fun w' hw' => rfl, hK _ ?_⟩
        clear hK K
        refine wpQuiet_nil ?_
        intro w2 hw2
        have hb2 : Below w.heap.size w w2 := (unhide HBW).trans (hw2.mono (unhide HBW).size)
        have hc2 : w2.cell? ⟨wr.heap.size, 10, none⟩ = some (.int .i64 (d.L k).turn) := (hw2.cell (p := ⟨wr.heap.size, 10, none⟩) hzW).trans y10
        have HB2 := hide hb2
        clear hw2 hb2 y0 y1 y2 y3 y4 y5 y6 y7 y8 y9 y10
        go_wp2
        go_roundw
        case rel => exact ⟨k + 1, live + 1, (d.L k).turn, by omega, by go_num, rfl, by go_num, unhide HT, by omega, by omega, unhide HB2⟩
        case measure => simp [intOf]; omega
end Go.Proofs.YtfceeijdmilieaaGreat
namespace Go.Proofs.YtfceeijdmilieaaGreat
open Go.RowKit
set_option linter.unusedVariables false
attribute [local go_sem] run_store_float run_equalIn_float

theorem not_D3 {d : Dc} {k : Nat} (hk : k < d.m) (h : ¬ okInt d k) : tells (D3 d) = false := tells_no (fun h' => h (h'.1 k hk))

set_option maxRecDepth 100000 in
set_option maxHeartbeats 2000000 in
theorem l1intsok_any (c o : Nat) (la : Option Addr) (lc : Nat) (ia : Option Addr) (ic : Nat) (xa : Option Addr) (xc : Nat) (d : Dc) (w : World) (hD : DPtr w c o la lc ia ic xa xc d) (hS : Small d) :
    Calls Tryz.prog 45 #[Pc c o] w fun e w' => e = .returned (.bool (tells (D3 d))) ∧ Below w.heap.size w w' := by
  have hn := hS.n
  have hm := hS.m
  have c1 := hD.c1
  have hlt := hD.lt
  have HD := hide hD
  clear hD hS
  go_enter Tryz.func45, Tryz.ntmps45
  go_wp2
  go_loopw [11] (fun i wr => ∃ (k : Nat), k ≤ d.m ∧ i = .int .i64 k ∧ (∀ j, j < k → okInt d j) ∧ Below w.heap.size w wr) (fun i _ => d.m - (intOf i).toNat)
  case atStart => exact ⟨0, by omega, rfl, fun j hj => by omega, Below.refl _ _⟩
  case round =>
    clear c1
    obtain ⟨k, hk, rfl, hall, hb⟩ := hrel
    have hD := (unhide HD).below hb
    have c0 := hD.c0
    have c1 := hD.c1
    have hcl := hD.lt
    have HALL := hide hall
    clear hD hall
    by_cases hkn : k < d.m
    case neg =>
      have hkn' : k = d.m := by omega
      subst hkn'
      by_cases h0 : d.m = 0
      · have HT := hide (tells_yes (p := D3 d) ⟨unhide HALL, .inl h0⟩)
        have h0' : ((d.m : Int) == 0) = true := by simp [h0]
        have HB := hide hb
        clear hb h0
        go_wp2_with fail
        go_quiet (fail)
        go_wp2
        go_ret
        exact ⟨by rw [unhide HT]; rfl, below_drewN' (unhide HB) _⟩
      have h0' : ((d.m : Int) == 0) = false := by simp; omega
      obtain ⟨q, hq⟩ : ∃ q, d.m = q + 1 := ⟨d.m - 1, by omega⟩
      obtain ⟨b, off, rfl, hbl, hcs⟩ := (unhide HD).rows.ints.resolve_left h0
      have e0 := (hb.cell (p := ⟨b, off + q, none⟩) hbl).trans (hcs q (by omega))
      have hq1 : IntKind.i64.wrap ((d.m : Int) - 1) = (q : Int) := by rw [IntKind.wrap_i64]; omega
      have hqm : q < d.m := by omega
      have hbw : b < wr.heap.size := Nat.lt_of_lt_of_le hbl hb.size
      have HB := hide hb
      clear hcs hb
      by_cases hp : 0 < d.I q
      · have HT := hide (tells_yes (p := D3 d) ⟨unhide HALL, .inr (by rw [hq]; exact hp)⟩)
        have hd : decide (0 < d.I q) = true := by simp [hp]
        have HQ := hide hq
        clear hp hq h0
        go_wp2_with fail
        go_quiet (fail)
        go_wp2
        go_ret
        exact ⟨by rw [unhide HT]; rfl, below_drewN' (unhide HB) _⟩
      · have HT := hide (tells_no (p := D3 d) (fun h => by
          rcases h.2 with h | h
          · exact h0 h
          · rw [hq] at h; exact hp h))
        have hd : decide (0 < d.I q) = false := by simp; omega
        have HQ := hide hq
        clear hp hq h0
        go_wp2_with fail
        go_quiet (fail)
        go_wp2
        go_ret
        exact ⟨by rw [unhide HT]; rfl, below_drewN' (unhide HB) _⟩
    obtain ⟨b, off, rfl, hbl, hcs⟩ := (unhide HD).rows.ints.resolve_left (by omega)
    have e0 := (hb.cell (p := ⟨b, off + k, none⟩) hbl).trans (hcs k hkn)
    have hwz := hb.size
    clear hcs
    by_cases h0 : d.I k = 0
    · have HB := hide hb
      have HO : Hid (okInt d k) := hide (.inl h0)
      rw [h0] at e0
      clear hb h0
      go_wp2
      go_roundw
      case rel => exact ⟨k + 1, by omega, by go_num, fun j hj => (by by_cases e : j = k; exact e ▸ unhide HO; exact unhide HALL j (by omega)), unhide HB⟩
      case measure => simp [intOf]; omega
    have h0' : (d.I k == 0) = false := by simp [h0]
    by_cases h1 : d.I k < 0
    · have HT := hide (not_D3 hkn (fun h => by rcases h with h | h; exact h0 h; omega))
      have HB := hide hb
      clear hb h0
      go_wp2
      go_ret
      exact ⟨by rw [unhide HT]; rfl, unhide HB⟩
    by_cases h2 : (d.n : Int) < d.I k
    · have HT := hide (not_D3 hkn (fun h => by rcases h with h | h; exact h0 h; omega))
      have HB := hide hb
      clear hb h0
      go_wp2
      go_ret
      exact ⟨by rw [unhide HT]; rfl, unhide HB⟩
    obtain ⟨q, hq⟩ : ∃ q : Nat, d.I k = (q : Int) + 1 := ⟨(d.I k - 1).toNat, by omega⟩
    have hqn : q < d.n := by omega
    obtain ⟨lb, lo, rfl, hll, hls⟩ := (unhide HD).rows.log.resolve_left (by omega)
    obtain ⟨e1, e2, e3, e4, e5, _, _, _, _, _, e11⟩ := (hls q hqn).keep (fun q => hb.cell (p := ⟨lb, q, none⟩) hll)
    have HA : Hid (d.at (d.I k) = d.L q) := hide (by unfold Dc.at; rw [hq]; congr 1; omega)
    have HB := hide hb
    rw [hq] at e0
    have g0 : ((q : Int) + 1 == 0) = false := by simp; omega
    have g1 : ¬ (q : Int) + 1 < 0 := by omega
    have g2 : ¬ (d.n : Int) < (q : Int) + 1 := by omega
    have HQ := hide hq
    have H0 := hide h0
    clear hls hb h0 h1 h2 h0' hq
    by_cases ht : (d.L q).turn = 0
    · have HT := hide (not_D3 hkn (fun h => by rcases h with h | h; exact unhide H0 h; rw [unhide HA] at h; exact h.2.2.1 ht))
      rw [ht] at e11
      clear ht
      go_wp2
      go_ret
      exact ⟨by rw [unhide HT]; rfl, unhide HB⟩
    have ht' : ((d.L q).turn == 0) = false := by simp [ht]
    have hw : IntKind.i64.wrap ((k : Int) + 1) = (k : Int) + 1 := by rw [IntKind.wrap_i64]; omega
    by_cases hk2 : (d.L q).key.kind = 2
    case neg =>
      have HT := hide (not_D3 hkn (fun h => by rcases h with h | h; exact unhide H0 h; rw [unhide HA] at h; exact hk2 h.2.2.2.1))
      have hk2' : ((d.L q).key.kind != 2) = true := by simp [hk2]
      clear hk2 ht
      go_wp2
      go_ret
      exact ⟨by rw [unhide HT]; rfl, (unhide HB).alloc (unhide HB).size _⟩
    have hk2' : ((d.L q).key.kind != 2) = false := by simp [hk2]
    by_cases hnm : (d.L q).key.num = (k : Int) + 1
    case neg =>
      have HT := hide (not_D3 hkn (fun h => by rcases h with h | h; exact unhide H0 h; rw [unhide HA] at h; exact hnm h.2.2.2.2))
      have hnm' : ((d.L q).key.num != (k : Int) + 1) = true := by simp [hnm]
      clear hk2 ht hnm
      go_wp2
      go_ret
      exact ⟨by rw [unhide HT]; rfl, (unhide HB).alloc (unhide HB).size _⟩
    have HO : Hid (okInt d k) := hide (.inr ⟨by rw [unhide HQ]; omega, by rw [unhide HQ]; omega, by rw [unhide HA]; exact ht, by rw [unhide HA]; exact hk2, by rw [unhide HA]; exact hnm⟩)
    have hnm' : ((d.L q).key.num != (k : Int) + 1) = false := by simp [hnm]
    clear hk2 ht hnm
    go_wp2
    go_roundw
    case rel => exact ⟨k + 1, by omega, by go_num, fun j hj => (by by_cases e : j = k; exact e ▸ unhide HO; exact unhide HALL j (by omega)), (unhide HB).alloc (unhide HB).size _⟩
    case measure => simp [intOf]; omega

theorem tells_and3 {a b c : Prop} : tells (a ∧ b ∧ c) = (tells a && tells b && tells c) := by
  by_cases ha : a <;> by_cases hb : b <;> by_cases hc : c <;> simp [tells, ha, hb, hc]
theorem tells_eq {a b : Int} : tells (a = b) = (a == b) := by
  by_cases h : a = b <;> simp [tells, h]
theorem tells_le {a b : Int} : tells (a ≤ b) = decide (a ≤ b) := by
  by_cases h : a ≤ b <;> simp [tells, h]

set_option maxHeartbeats 1000000 in
theorem l1small_any (c o : Nat) (la : Option Addr) (lc : Nat) (ia : Option Addr) (ic : Nat) (xa : Option Addr) (xc : Nat) (d : Dc) (v : Vl) (w : World) (hD : DPtr w c o la lc ia ic xa xc d) (hS : Small d) :
    Calls Tryz.prog 80 #[Pc c o, V v.kind v.num v.flt v.str v.ref] w fun e w' => e = .returned (.bool (tells (smallK d.m v))) ∧ Below w.heap.size w w' := by
  have hm := hS.m
  have c1 := hD.c1
  have hlt := hD.lt
  clear hD hS
  by_cases h1 : v.kind = 2
  case neg =>
    have HT := hide (tells_no (p := smallK d.m v) (fun h => h1 h.1))
    have h1' : (v.kind == 2) = false := by simp [h1]
    clear h1
    go_enter Tryz.func80, Tryz.ntmps80
    go_wp2
    go_quiet (fail)
    go_wp2
    go_ret
    exact ⟨by rw [unhide HT]; rfl, below_drewN' ((Below.refl _ _).alloc (Nat.le_refl _) _) _⟩
  have h1' : (v.kind == 2) = true := by simp [h1]
  by_cases h2 : 1 ≤ v.num
  case neg =>
    have HT := hide (tells_no (p := smallK d.m v) (fun h => h2 h.2.1))
    have h2' : decide (1 ≤ v.num) = false := by simp [h2]
    clear h1 h2
    go_enter Tryz.func80, Tryz.ntmps80
    go_wp2
    go_quiet (fail)
    go_wp2
    go_ret
    exact ⟨by rw [unhide HT]; rfl, below_drewN' ((Below.refl _ _).alloc (Nat.le_refl _) _) _⟩
  have h2' : decide (1 ≤ v.num) = true := by simp [h2]
  by_cases h3 : v.num ≤ (d.m : Int)
  · have HT := hide (tells_yes (p := smallK d.m v) ⟨h1, h2, h3⟩)
    have h3' : decide (v.num ≤ (d.m : Int)) = true := by simp [h3]
    clear h1 h2 h3
    go_enter Tryz.func80, Tryz.ntmps80
    go_wp2
    go_quiet (fail)
    go_wp2
    go_ret
    exact ⟨by rw [unhide HT]; rfl, below_drewN' ((Below.refl _ _).alloc (Nat.le_refl _) _) _⟩
  · have HT := hide (tells_no (p := smallK d.m v) (fun h => h3 h.2.2))
    have h3' : decide (v.num ≤ (d.m : Int)) = false := by simp [h3]
    clear h1 h2 h3
    go_enter Tryz.func80, Tryz.ntmps80
    go_wp2
    go_quiet (fail)
    go_wp2
    go_ret
    exact ⟨by rw [unhide HT]; rfl, below_drewN' ((Below.refl _ _).alloc (Nat.le_refl _) _) _⟩
end Go.Proofs.YtfceeijdmilieaaGreat
