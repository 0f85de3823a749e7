/-
  The drawing cursor: whole, flt.
-/
import Derived.Test.YtgiegkigfokdmaaDoorCurW
import Derived.Test.YtgiegkigfokdmaaDoorHashE
import Derived.Test.YtgiegkigfokdmaaDoorKeyD
namespace Go.Proofs.YtgiegkigfokdmaaDoor
open Go.RowKit
set_option linter.unusedVariables false
attribute [local go_sem] run_store_float run_equalIn_float

set_option maxHeartbeats 1000000 in
theorem whole_any (b N : Nat) (w : World) (h : Cu b N w) (hN : N ≤ 1099511620000) :
    Calls Tryd.prog 55 #[.pointer (some ⟨b, 0, none⟩)] w fun e w' => (∃ z : Int, e = .returned (.int .i64 z)) ∧ Cu b (N + 4) w' ∧ Stp b w w' := by
  have H : Hid (Cu b N w) := h
  clear h
  go_enter Tryd.func55, Tryd.ntmps55
  go_wp2_with fail
  refine (pick_any b N 6 _ H.out (by omega) (by omega) (by omega)).mono ?_
  rintro e w1 ⟨⟨x, rfl, hx0, hx1⟩, hc1, hs1⟩
  by_cases x0 : x = 0
  · subst x0
    go_wp2_with fail
    refine (pick_any b (N + 2) 3 _ hc1 (by omega) (by omega) (by omega)).mono ?_
    rintro e w2 ⟨⟨y, rfl, hy0, hy1⟩, hc2, hs2⟩
    go_wp2_with fail
    go_ret
    exact ⟨⟨_, rfl⟩, hc2, hs1.trans hs2⟩
  have b0 : (x == 0) = false := by simp [x0]
  by_cases x1 : x = 1
  · subst x1
    go_wp2_with fail
    refine (pick_any b (N + 2) 3 _ hc1 (by omega) (by omega) (by omega)).mono ?_
    rintro e w2 ⟨⟨y, rfl, hy0, hy1⟩, hc2, hs2⟩
    go_wp2_with fail
    go_ret
    exact ⟨⟨_, rfl⟩, hc2, hs1.trans hs2⟩
  have b1 : (x == 1) = false := by simp [x1]
  by_cases x2 : x = 2
  · subst x2
    go_wp2_with fail
    refine (pick_any b (N + 2) 70000 _ hc1 (by omega) (by omega) (by omega)).mono ?_
    rintro e w2 ⟨⟨y, rfl, hy0, hy1⟩, hc2, hs2⟩
    go_wp2_with fail
    go_ret
    exact ⟨⟨_, rfl⟩, hc2, hs1.trans hs2⟩
  have b2 : (x == 2) = false := by simp [x2]
  go_wp2_with fail
  refine (pick_any b (N + 2) 12 _ hc1 (by omega) (by omega) (by omega)).mono ?_
  rintro e w2 ⟨⟨y, rfl, hy0, hy1⟩, hc2, hs2⟩
  go_wp2_with fail
  go_ret
  exact ⟨⟨_, rfl⟩, hc2, hs1.trans hs2⟩

theorem div_nan : FloatKind.f64.format.div 0 0 = none := by decide
/-- 0 / 0: a NaN, whose bits the tape tells. -/
theorem nan_run (w : World) : ∃ r, (binOp .quo 30 (.float .f64 0) (.float .f64 0)).run Tryd.prog w = .ok (.float .f64 r) w.drew ∧ r < 18446744073709551616 := by
  refine ⟨(Question.nanBits .f64 0 0).cut (w.tape w.drawn (.nanBits .f64 0 0)), ?_, ?_⟩
  · simp [binOp, Op.floatArith, div_nan, Question.forced]
  · simp only [Question.cut]; omega

theorem div_one : floatBits .quo .f64 4607182418800017408 0 = some 9218868437227405312 := by decide
theorem div_mone : floatBits .quo .f64 13830554455654793216 0 = some 18442240474082181120 := by decide

set_option maxHeartbeats 400000 in
theorem l1flt_any (f : Nat) (w : World)  :
    Calls Tryd.prog 76 #[.float .f64 f] w fun e w' => e = .returned (V 3 0 f ⟨#[]⟩ 0) ∧ Below w.heap.size w w' := by
  go_enter Tryd.func76, Tryd.ntmps76
  go_wp2
  exact bodyPost_ret (v := V 3 0 f ⟨#[]⟩ 0) (by simp [results, go_sem]) rfl ⟨rfl, (Below.refl _ _).alloc (Nat.le_refl _) _⟩

set_option maxHeartbeats 400000 in
theorem l1str_any (s : ByteArray) (w : World)  :
    Calls Tryd.prog 56 #[.string s] w fun e w' => e = .returned (V 4 0 0 s 0) ∧ Below w.heap.size w w' := by
  go_enter Tryd.func56, Tryd.ntmps56
  go_wp2
  exact bodyPost_ret (v := V 4 0 0 s 0) (by simp [results, go_sem]) rfl ⟨rfl, (Below.refl _ _).alloc (Nat.le_refl _) _⟩

set_option maxHeartbeats 1000000 in
theorem flt_any (b N : Nat) (w : World) (h : Cu b N w) (hN : N ≤ 1099511620000) :
    Calls Tryd.prog 58 #[.pointer (some ⟨b, 0, none⟩)] w fun e w' => (∃ f : Nat, e = .returned (V 3 0 f ⟨#[]⟩ 0) ∧ f < 18446744073709551616) ∧ Cu b (N + 2) w' ∧ Gr b w w' := by
  have H : Hid (Cu b N w) := h
  have hbw := h.lt
  clear h
  have d1 : ∀ w : World, (binOp .quo 30 (.float .f64 4607182418800017408) (.float .f64 0)).run Tryd.prog w = .ok (.float .f64 9218868437227405312) w := fun w => run_float_arith w .quo 30 .f64 _ _ _ div_one
  have d2 : ∀ w : World, (binOp .quo 30 (.float .f64 13830554455654793216) (.float .f64 0)).run Tryd.prog w = .ok (.float .f64 18442240474082181120) w := fun w => run_float_arith w .quo 30 .f64 _ _ _ div_mone
  obtain ⟨r, d3, hr⟩ := nan_run (w.alloc (.cells #[.int .i64 0, .int .i64 0, .float .f64 0, .string ⟨#[]⟩, .int .i64 0] 32))
  go_enter Tryd.func58, Tryd.ntmps58
  go_wp2_with fail
  have hcu := H.out.below ((((Below.refl w.heap.size w).alloc (Nat.le_refl _) (.cells #[.int .i64 0, .int .i64 0, .float .f64 0, .string ⟨#[]⟩, .int .i64 0] 32)).alloc (by simp) (.cells #[.float .f64 4602678819172646912, .float .f64 4609434218613702656, .float .f64 4611686018427387904, .float .f64 13821547256400052224, .float .f64 9094988921128908188, .float .f64 4845873199050653696, .float .f64 14114281232179134464, .float .f64 4890909195324358656, .float .f64 9218868437227405312, .float .f64 18442240474082181120, .float .f64 r, .float .f64 0, .float .f64 4613937818241073152] 30)).drew) hbw
  refine (pick_any b N 13 _ hcu (by omega) (by omega) (by omega)).mono ?_
  rintro e w2 ⟨⟨x, rfl, hx0, hx1⟩, hc2, hs2⟩
  have n0 : ¬ w.heap.size = b := by omega
  have n1 : ¬ w.heap.size + 1 = b := by omega
  obtain ⟨g, hg, hg1⟩ : ∃ g : Nat, w2.cell? ⟨w.heap.size + 1, x.toNat, none⟩ = some (.float .f64 g) ∧ g < 18446744073709551616 := by
    rw [hs2.cell _ _ n1]
    have hx : x = 0 ∨ x = 1 ∨ x = 2 ∨ x = 3 ∨ x = 4 ∨ x = 5 ∨ x = 6 ∨ x = 7 ∨ x = 8 ∨ x = 9 ∨ x = 10 ∨ x = 11 ∨ x = 12 := by omega
    rcases hx with rfl | rfl | rfl | rfl | rfl | rfl | rfl | rfl | rfl | rfl | rfl | rfl | rfl
    all_goals (refine ⟨_, by simp [go_sem]; rfl, by omega⟩)
  have rc : ∀ o, w2.cell? ⟨w.heap.size, o, none⟩ = _ := fun o => hs2.cell w.heap.size o n0
  have rf : ∀ o, w2.frozen? ⟨w.heap.size, o, none⟩ = _ := fun o => hs2.frozen w.heap.size o n0
  have hz := hs2.size
  simp at hz
  have HS := hide hs2
  have HC := hide hc2
  clear hs2 hc2 hcu d1 d2 d3
  go_wp2_with (go_at_call 76; refine (l1flt_any g _).mono ?_; rintro e w3 ⟨rfl, hb3⟩; obtain ⟨hc3, hf3⟩ := bcell hb3; have hz3 := hb3.size; have hlt3 : w.heap.size < w2.heap.size := (by omega))
  have hT : Gr b w w2 := (Gr.of_below ((((Below.refl w.heap.size w).alloc (Nat.le_refl _) _).alloc (by simp) _).drew)).trans (unhide HS).gr
  have b3 := below_set5 (hb3.mono (Nat.le_of_lt hlt3)) w.heap.size (Nat.le_refl _) (.int .i64 3) (.int .i64 0) (.float .f64 g) (.string ⟨#[]⟩) (.int .i64 0)
  exact bodyPost_ret (v := V 3 0 g ⟨#[]⟩ 0) (by simp [results, Tryd.results58, go_sem, hc3, hlt3, rc]) rfl ⟨⟨g, rfl, hg1⟩, (unhide HC).below b3 hbw, hT.then_below b3 (by omega)⟩
end Go.Proofs.YtgiegkigfokdmaaDoor
