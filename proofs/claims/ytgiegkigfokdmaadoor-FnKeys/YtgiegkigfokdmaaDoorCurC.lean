/-
  The drawing cursor: a key, a value that is mostly not valid; what is drawn for KeyOf.
-/
import Derived.Test.YtgiegkigfokdmaaDoorCurB
import Derived.Test.YtgiegkigfokdmaaDoorKeyE
namespace Go.Proofs.YtgiegkigfokdmaaDoor
open Go.RowKit
set_option linter.unusedVariables false
attribute [local go_sem] run_store_float run_equalIn_float

set_option maxHeartbeats 4000000 in
theorem key_any (b N : Nat) (w : World) (h : Cu b N w) (hN : N ≤ 1099511610000) :
    Calls Tryd.prog 34 #[.pointer (some ⟨b, 0, none⟩)] w fun e w' => (∃ (kind num : Int) (flt : Nat) (s : ByteArray) (ref : Int), e = .returned (V kind num flt s ref) ∧ s.size ≤ 4000 ∧ flt < 18446744073709551616) ∧ Cu b (N + 10) w' ∧ Gr b w w' := by
  have hbw := h.lt
  have n0 : ¬ w.heap.size = b := by omega
  have hG0 : Gr b w (w.alloc (.cells #[.int .i64 0, .int .i64 0, .float .f64 0, .string ⟨#[]⟩, .int .i64 0] 32)) := Gr.of_below ((Below.refl w.heap.size w).alloc (Nat.le_refl _) _)
  have HG0 := hide hG0
  have H := hide (h.below ((Below.refl w.heap.size w).alloc (Nat.le_refl _) (.cells #[.int .i64 0, .int .i64 0, .float .f64 0, .string ⟨#[]⟩, .int .i64 0] 32)) hbw)
  clear h hG0
  go_enter Tryd.func34, Tryd.ntmps34
  go_wp2_with fail
  refine (pick_any b N 12 _ (unhide H) (by omega) (by omega) (by omega)).mono ?_
  rintro e w1 ⟨⟨x, rfl, hx0, hx1⟩, hc1, hs1⟩
  have hG0 := unhide HG0
  have HC1 := hide hc1
  have HS1 := hide hs1
  clear hc1 hs1
  by_cases x0 : x = 0
  · subst x0
    clear hG0
    go_wp2_with fail
    refine (pick_any b (N + 2) 9 _ (unhide HC1) (by omega) (by omega) (by omega)).mono ?_
    rintro e w2 ⟨⟨y, rfl, hy0, hy1⟩, hc2, hs2⟩
    have HG := hide ((unhide HS1).gr.trans hs2.gr)
    have HC2 := hide hc2
    clear hc2 hs2
    go_wp2_with fail
    refine (l1int_any (1 + y) _).mono ?_
    rintro e w3 ⟨rfl, hb3⟩
    have HG3 := hide ((unhide HG).trans (Gr.of_below hb3))
    have HC3 := hide ((unhide HC2).below hb3 (unhide HC2).lt)
    clear hb3
    have rc : ∀ o, w3.cell? ⟨w.heap.size, o, none⟩ = (w.alloc (.cells #[.int .i64 0, .int .i64 0, .float .f64 0, .string ⟨#[]⟩, .int .i64 0] 32)).cell? ⟨w.heap.size, o, none⟩ := fun o => ((unhide HG3)).cell w.heap.size o n0 (by simp)
    have rf : ∀ o, w3.frozen? ⟨w.heap.size, o, none⟩ = (w.alloc (.cells #[.int .i64 0, .int .i64 0, .float .f64 0, .string ⟨#[]⟩, .int .i64 0] 32)).frozen? ⟨w.heap.size, o, none⟩ := fun o => ((unhide HG3)).frozen w.heap.size o n0 (by simp)
    go_wp2_with fail
    have hG0 := unhide HG0
    have b9 := below_set5 (Below.refl w.heap.size w3) w.heap.size (Nat.le_refl _) (.int .i64 2) (.int .i64 (1 + y)) (.float .f64 0) (.string ⟨#[]⟩) (.int .i64 0)
    exact bodyPost_ret (v := V 2 (1 + y) 0 ⟨#[]⟩ 0) (by simp [results, Tryd.results34, go_sem, rc]) rfl ⟨⟨2, (1 + y), 0, ⟨#[]⟩, 0, rfl, by decide, by decide⟩, ((unhide HC3).mono (by omega)).below b9 hbw, (hG0.trans (unhide HG3)).then_below b9 (Nat.le_refl _)⟩
  have b0 : (x == 0) = false := by simp [x0]
  by_cases x1 : x = 1
  · subst x1
    clear hG0
    go_wp2_with fail
    refine (pick_any b (N + 2) 9 _ (unhide HC1) (by omega) (by omega) (by omega)).mono ?_
    rintro e w2 ⟨⟨y, rfl, hy0, hy1⟩, hc2, hs2⟩
    have HG := hide ((unhide HS1).gr.trans hs2.gr)
    have HC2 := hide hc2
    clear hc2 hs2
    go_wp2_with fail
    refine (l1int_any (1 + y) _).mono ?_
    rintro e w3 ⟨rfl, hb3⟩
    have HG3 := hide ((unhide HG).trans (Gr.of_below hb3))
    have HC3 := hide ((unhide HC2).below hb3 (unhide HC2).lt)
    clear hb3
    have rc : ∀ o, w3.cell? ⟨w.heap.size, o, none⟩ = (w.alloc (.cells #[.int .i64 0, .int .i64 0, .float .f64 0, .string ⟨#[]⟩, .int .i64 0] 32)).cell? ⟨w.heap.size, o, none⟩ := fun o => ((unhide HG3)).cell w.heap.size o n0 (by simp)
    have rf : ∀ o, w3.frozen? ⟨w.heap.size, o, none⟩ = (w.alloc (.cells #[.int .i64 0, .int .i64 0, .float .f64 0, .string ⟨#[]⟩, .int .i64 0] 32)).frozen? ⟨w.heap.size, o, none⟩ := fun o => ((unhide HG3)).frozen w.heap.size o n0 (by simp)
    go_wp2_with fail
    have hG0 := unhide HG0
    have b9 := below_set5 (Below.refl w.heap.size w3) w.heap.size (Nat.le_refl _) (.int .i64 2) (.int .i64 (1 + y)) (.float .f64 0) (.string ⟨#[]⟩) (.int .i64 0)
    exact bodyPost_ret (v := V 2 (1 + y) 0 ⟨#[]⟩ 0) (by simp [results, Tryd.results34, go_sem, rc]) rfl ⟨⟨2, (1 + y), 0, ⟨#[]⟩, 0, rfl, by decide, by decide⟩, ((unhide HC3).mono (by omega)).below b9 hbw, (hG0.trans (unhide HG3)).then_below b9 (Nat.le_refl _)⟩
  have b1 : (x == 1) = false := by simp [x1]
  by_cases x2 : x = 2
  · subst x2
    clear hG0
    go_wp2_with fail
    refine (pick_any b (N + 2) 9 _ (unhide HC1) (by omega) (by omega) (by omega)).mono ?_
    rintro e w2 ⟨⟨y, rfl, hy0, hy1⟩, hc2, hs2⟩
    have HG := hide ((unhide HS1).gr.trans hs2.gr)
    have HC2 := hide hc2
    clear hc2 hs2
    go_wp2_with fail
    refine (l1int_any (1 + y) _).mono ?_
    rintro e w3 ⟨rfl, hb3⟩
    have HG3 := hide ((unhide HG).trans (Gr.of_below hb3))
    have HC3 := hide ((unhide HC2).below hb3 (unhide HC2).lt)
    clear hb3
    have rc : ∀ o, w3.cell? ⟨w.heap.size, o, none⟩ = (w.alloc (.cells #[.int .i64 0, .int .i64 0, .float .f64 0, .string ⟨#[]⟩, .int .i64 0] 32)).cell? ⟨w.heap.size, o, none⟩ := fun o => ((unhide HG3)).cell w.heap.size o n0 (by simp)
    have rf : ∀ o, w3.frozen? ⟨w.heap.size, o, none⟩ = (w.alloc (.cells #[.int .i64 0, .int .i64 0, .float .f64 0, .string ⟨#[]⟩, .int .i64 0] 32)).frozen? ⟨w.heap.size, o, none⟩ := fun o => ((unhide HG3)).frozen w.heap.size o n0 (by simp)
    go_wp2_with fail
    have hG0 := unhide HG0
    have b9 := below_set5 (Below.refl w.heap.size w3) w.heap.size (Nat.le_refl _) (.int .i64 2) (.int .i64 (1 + y)) (.float .f64 0) (.string ⟨#[]⟩) (.int .i64 0)
    exact bodyPost_ret (v := V 2 (1 + y) 0 ⟨#[]⟩ 0) (by simp [results, Tryd.results34, go_sem, rc]) rfl ⟨⟨2, (1 + y), 0, ⟨#[]⟩, 0, rfl, by decide, by decide⟩, ((unhide HC3).mono (by omega)).below b9 hbw, (hG0.trans (unhide HG3)).then_below b9 (Nat.le_refl _)⟩
  have b2 : (x == 2) = false := by simp [x2]
  by_cases x3 : x = 3
  · subst x3
    clear hG0
    go_wp2_with fail
    refine (pick_any b (N + 2) 9 _ (unhide HC1) (by omega) (by omega) (by omega)).mono ?_
    rintro e w2 ⟨⟨y, rfl, hy0, hy1⟩, hc2, hs2⟩
    have HG := hide ((unhide HS1).gr.trans hs2.gr)
    have HC2 := hide hc2
    clear hc2 hs2
    go_wp2_with fail
    refine (l1int_any (1 + y) _).mono ?_
    rintro e w3 ⟨rfl, hb3⟩
    have HG3 := hide ((unhide HG).trans (Gr.of_below hb3))
    have HC3 := hide ((unhide HC2).below hb3 (unhide HC2).lt)
    clear hb3
    have rc : ∀ o, w3.cell? ⟨w.heap.size, o, none⟩ = (w.alloc (.cells #[.int .i64 0, .int .i64 0, .float .f64 0, .string ⟨#[]⟩, .int .i64 0] 32)).cell? ⟨w.heap.size, o, none⟩ := fun o => ((unhide HG3)).cell w.heap.size o n0 (by simp)
    have rf : ∀ o, w3.frozen? ⟨w.heap.size, o, none⟩ = (w.alloc (.cells #[.int .i64 0, .int .i64 0, .float .f64 0, .string ⟨#[]⟩, .int .i64 0] 32)).frozen? ⟨w.heap.size, o, none⟩ := fun o => ((unhide HG3)).frozen w.heap.size o n0 (by simp)
    go_wp2_with fail
    have hG0 := unhide HG0
    have b9 := below_set5 (Below.refl w.heap.size w3) w.heap.size (Nat.le_refl _) (.int .i64 2) (.int .i64 (1 + y)) (.float .f64 0) (.string ⟨#[]⟩) (.int .i64 0)
    exact bodyPost_ret (v := V 2 (1 + y) 0 ⟨#[]⟩ 0) (by simp [results, Tryd.results34, go_sem, rc]) rfl ⟨⟨2, (1 + y), 0, ⟨#[]⟩, 0, rfl, by decide, by decide⟩, ((unhide HC3).mono (by omega)).below b9 hbw, (hG0.trans (unhide HG3)).then_below b9 (Nat.le_refl _)⟩
  have b3 : (x == 3) = false := by simp [x3]
  by_cases x4 : x = 4
  · subst x4
    clear hG0
    go_wp2_with fail
    refine (whole_any b (N + 2) _ (unhide HC1) (by omega)).mono ?_
    rintro e w2 ⟨⟨y, rfl⟩, hc2, hs2⟩
    have HG := hide ((unhide HS1).gr.trans hs2.gr)
    have HC2 := hide hc2
    clear hc2 hs2
    go_wp2_with fail
    refine (l1int_any y _).mono ?_
    rintro e w3 ⟨rfl, hb3⟩
    have HG3 := hide ((unhide HG).trans (Gr.of_below hb3))
    have HC3 := hide ((unhide HC2).below hb3 (unhide HC2).lt)
    clear hb3
    have rc : ∀ o, w3.cell? ⟨w.heap.size, o, none⟩ = (w.alloc (.cells #[.int .i64 0, .int .i64 0, .float .f64 0, .string ⟨#[]⟩, .int .i64 0] 32)).cell? ⟨w.heap.size, o, none⟩ := fun o => ((unhide HG3)).cell w.heap.size o n0 (by simp)
    have rf : ∀ o, w3.frozen? ⟨w.heap.size, o, none⟩ = (w.alloc (.cells #[.int .i64 0, .int .i64 0, .float .f64 0, .string ⟨#[]⟩, .int .i64 0] 32)).frozen? ⟨w.heap.size, o, none⟩ := fun o => ((unhide HG3)).frozen w.heap.size o n0 (by simp)
    go_wp2_with fail
    have hG0 := unhide HG0
    have b9 := below_set5 (Below.refl w.heap.size w3) w.heap.size (Nat.le_refl _) (.int .i64 2) (.int .i64 y) (.float .f64 0) (.string ⟨#[]⟩) (.int .i64 0)
    exact bodyPost_ret (v := V 2 y 0 ⟨#[]⟩ 0) (by simp [results, Tryd.results34, go_sem, rc]) rfl ⟨⟨2, y, 0, ⟨#[]⟩, 0, rfl, by decide, by decide⟩, ((unhide HC3).mono (by omega)).below b9 hbw, (hG0.trans (unhide HG3)).then_below b9 (Nat.le_refl _)⟩
  have b4 : (x == 4) = false := by simp [x4]
  by_cases x5 : x = 5
  · subst x5
    clear hG0
    go_wp2_with fail
    refine (word_any b (N + 2) _ (unhide HC1) (by omega)).mono ?_
    rintro e w2 ⟨⟨s, rfl, hsz⟩, hc2, hg2⟩
    have HG := hide ((unhide HS1).gr.trans hg2)
    have HC2 := hide hc2
    clear hc2 hg2
    go_wp2_with fail
    refine (l1str_any s _).mono ?_
    rintro e w3 ⟨rfl, hb3⟩
    have HG3 := hide ((unhide HG).trans (Gr.of_below hb3))
    have HC3 := hide ((unhide HC2).below hb3 (unhide HC2).lt)
    clear hb3
    have rc : ∀ o, w3.cell? ⟨w.heap.size, o, none⟩ = (w.alloc (.cells #[.int .i64 0, .int .i64 0, .float .f64 0, .string ⟨#[]⟩, .int .i64 0] 32)).cell? ⟨w.heap.size, o, none⟩ := fun o => ((unhide HG3)).cell w.heap.size o n0 (by simp)
    have rf : ∀ o, w3.frozen? ⟨w.heap.size, o, none⟩ = (w.alloc (.cells #[.int .i64 0, .int .i64 0, .float .f64 0, .string ⟨#[]⟩, .int .i64 0] 32)).frozen? ⟨w.heap.size, o, none⟩ := fun o => ((unhide HG3)).frozen w.heap.size o n0 (by simp)
    go_wp2_with fail
    have hG0 := unhide HG0
    have b9 := below_set5 (Below.refl w.heap.size w3) w.heap.size (Nat.le_refl _) (.int .i64 4) (.int .i64 0) (.float .f64 0) (.string s) (.int .i64 0)
    exact bodyPost_ret (v := V 4 0 0 s 0) (by simp [results, Tryd.results34, go_sem, rc]) rfl ⟨⟨4, 0, 0, s, 0, rfl, hsz, by decide⟩, ((unhide HC3).mono (by omega)).below b9 hbw, (hG0.trans (unhide HG3)).then_below b9 (Nat.le_refl _)⟩
  have b5 : (x == 5) = false := by simp [x5]
  by_cases x6 : x = 6
  · subst x6
    clear hG0
    go_wp2_with fail
    refine (word_any b (N + 2) _ (unhide HC1) (by omega)).mono ?_
    rintro e w2 ⟨⟨s, rfl, hsz⟩, hc2, hg2⟩
    have HG := hide ((unhide HS1).gr.trans hg2)
    have HC2 := hide hc2
    clear hc2 hg2
    go_wp2_with fail
    refine (l1str_any s _).mono ?_
    rintro e w3 ⟨rfl, hb3⟩
    have HG3 := hide ((unhide HG).trans (Gr.of_below hb3))
    have HC3 := hide ((unhide HC2).below hb3 (unhide HC2).lt)
    clear hb3
    have rc : ∀ o, w3.cell? ⟨w.heap.size, o, none⟩ = (w.alloc (.cells #[.int .i64 0, .int .i64 0, .float .f64 0, .string ⟨#[]⟩, .int .i64 0] 32)).cell? ⟨w.heap.size, o, none⟩ := fun o => ((unhide HG3)).cell w.heap.size o n0 (by simp)
    have rf : ∀ o, w3.frozen? ⟨w.heap.size, o, none⟩ = (w.alloc (.cells #[.int .i64 0, .int .i64 0, .float .f64 0, .string ⟨#[]⟩, .int .i64 0] 32)).frozen? ⟨w.heap.size, o, none⟩ := fun o => ((unhide HG3)).frozen w.heap.size o n0 (by simp)
    go_wp2_with fail
    have hG0 := unhide HG0
    have b9 := below_set5 (Below.refl w.heap.size w3) w.heap.size (Nat.le_refl _) (.int .i64 4) (.int .i64 0) (.float .f64 0) (.string s) (.int .i64 0)
    exact bodyPost_ret (v := V 4 0 0 s 0) (by simp [results, Tryd.results34, go_sem, rc]) rfl ⟨⟨4, 0, 0, s, 0, rfl, hsz, by decide⟩, ((unhide HC3).mono (by omega)).below b9 hbw, (hG0.trans (unhide HG3)).then_below b9 (Nat.le_refl _)⟩
  have b6 : (x == 6) = false := by simp [x6]
  by_cases x7 : x = 7
  · subst x7
    clear hG0
    go_wp2_with fail
    refine (word_any b (N + 2) _ (unhide HC1) (by omega)).mono ?_
    rintro e w2 ⟨⟨s, rfl, hsz⟩, hc2, hg2⟩
    have HG := hide ((unhide HS1).gr.trans hg2)
    have HC2 := hide hc2
    clear hc2 hg2
    go_wp2_with fail
    refine (l1str_any s _).mono ?_
    rintro e w3 ⟨rfl, hb3⟩
    have HG3 := hide ((unhide HG).trans (Gr.of_below hb3))
    have HC3 := hide ((unhide HC2).below hb3 (unhide HC2).lt)
    clear hb3
    have rc : ∀ o, w3.cell? ⟨w.heap.size, o, none⟩ = (w.alloc (.cells #[.int .i64 0, .int .i64 0, .float .f64 0, .string ⟨#[]⟩, .int .i64 0] 32)).cell? ⟨w.heap.size, o, none⟩ := fun o => ((unhide HG3)).cell w.heap.size o n0 (by simp)
    have rf : ∀ o, w3.frozen? ⟨w.heap.size, o, none⟩ = (w.alloc (.cells #[.int .i64 0, .int .i64 0, .float .f64 0, .string ⟨#[]⟩, .int .i64 0] 32)).frozen? ⟨w.heap.size, o, none⟩ := fun o => ((unhide HG3)).frozen w.heap.size o n0 (by simp)
    go_wp2_with fail
    have hG0 := unhide HG0
    have b9 := below_set5 (Below.refl w.heap.size w3) w.heap.size (Nat.le_refl _) (.int .i64 4) (.int .i64 0) (.float .f64 0) (.string s) (.int .i64 0)
    exact bodyPost_ret (v := V 4 0 0 s 0) (by simp [results, Tryd.results34, go_sem, rc]) rfl ⟨⟨4, 0, 0, s, 0, rfl, hsz, by decide⟩, ((unhide HC3).mono (by omega)).below b9 hbw, (hG0.trans (unhide HG3)).then_below b9 (Nat.le_refl _)⟩
  have b7 : (x == 7) = false := by simp [x7]
  by_cases x8 : x = 8
  · subst x8
    clear hG0
    go_wp2_with fail
    refine (flt_any b (N + 2) _ (unhide HC1) (by omega)).mono ?_
    rintro e w2 ⟨⟨f, rfl, hf⟩, hc2, hg2⟩
    have HG := hide ((unhide HS1).gr.trans hg2)
    have HC2 := hide hc2
    clear hc2 hg2
    have rc : ∀ o, w2.cell? ⟨w.heap.size, o, none⟩ = (w.alloc (.cells #[.int .i64 0, .int .i64 0, .float .f64 0, .string ⟨#[]⟩, .int .i64 0] 32)).cell? ⟨w.heap.size, o, none⟩ := fun o => ((unhide HG)).cell w.heap.size o n0 (by simp)
    have rf : ∀ o, w2.frozen? ⟨w.heap.size, o, none⟩ = (w.alloc (.cells #[.int .i64 0, .int .i64 0, .float .f64 0, .string ⟨#[]⟩, .int .i64 0] 32)).frozen? ⟨w.heap.size, o, none⟩ := fun o => ((unhide HG)).frozen w.heap.size o n0 (by simp)
    go_wp2_with fail
    have hG0 := unhide HG0
    have b9 := below_set5 (Below.refl w.heap.size w2) w.heap.size (Nat.le_refl _) (.int .i64 3) (.int .i64 0) (.float .f64 f) (.string ⟨#[]⟩) (.int .i64 0)
    exact bodyPost_ret (v := V 3 0 f ⟨#[]⟩ 0) (by simp [results, Tryd.results34, go_sem, rc]) rfl ⟨⟨3, 0, f, ⟨#[]⟩, 0, rfl, by decide, hf⟩, ((unhide HC2).mono (by omega)).below b9 hbw, (hG0.trans (unhide HG)).then_below b9 (Nat.le_refl _)⟩
  have b8 : (x == 8) = false := by simp [x8]
  by_cases x9 : x = 9
  · subst x9
    clear hG0
    go_wp2_with fail
    refine (pick_any b (N + 2) 2 _ (unhide HC1) (by omega) (by omega) (by omega)).mono ?_
    rintro e w2 ⟨⟨y, rfl, hy0, hy1⟩, hc2, hs2⟩
    have HG := hide ((unhide HS1).gr.trans hs2.gr)
    have HC2 := hide hc2
    clear hc2 hs2
    have rc : ∀ o, w2.cell? ⟨w.heap.size, o, none⟩ = (w.alloc (.cells #[.int .i64 0, .int .i64 0, .float .f64 0, .string ⟨#[]⟩, .int .i64 0] 32)).cell? ⟨w.heap.size, o, none⟩ := fun o => ((unhide HG)).cell w.heap.size o n0 (by simp)
    have rf : ∀ o, w2.frozen? ⟨w.heap.size, o, none⟩ = (w.alloc (.cells #[.int .i64 0, .int .i64 0, .float .f64 0, .string ⟨#[]⟩, .int .i64 0] 32)).frozen? ⟨w.heap.size, o, none⟩ := fun o => ((unhide HG)).frozen w.heap.size o n0 (by simp)
    go_wp2_with fail
    have hG0 := unhide HG0
    have b9 := below_set5 (Below.refl w.heap.size w2) w.heap.size (Nat.le_refl _) (.int .i64 1) (.int .i64 y) (.float .f64 0) (.string ⟨#[]⟩) (.int .i64 0)
    exact bodyPost_ret (v := V 1 y 0 ⟨#[]⟩ 0) (by simp [results, Tryd.results34, go_sem, rc]) rfl ⟨⟨1, y, 0, ⟨#[]⟩, 0, rfl, by decide, by decide⟩, ((unhide HC2).mono (by omega)).below b9 hbw, (hG0.trans (unhide HG)).then_below b9 (Nat.le_refl _)⟩
  have b9' : (x == 9) = false := by simp [x9]
  by_cases x10 : x = 10
  · subst x10
    clear hG0
    go_wp2_with fail
    refine (pick_any b (N + 2) 3 _ (unhide HC1) (by omega) (by omega) (by omega)).mono ?_
    rintro e w2 ⟨⟨y, rfl, hy0, hy1⟩, hc2, hs2⟩
    have HG2 := hide ((unhide HS1).gr.trans hs2.gr)
    have HC2 := hide hc2
    clear hc2 hs2
    go_wp2_with fail
    refine (pick_any b (N + 4) 9 _ (unhide HC2) (by omega) (by omega) (by omega)).mono ?_
    rintro e w3 ⟨⟨z, rfl, hz0, hz1⟩, hc3, hs3⟩
    have HG := hide ((unhide HG2).trans hs3.gr)
    have HC3 := hide hc3
    clear hc3 hs3
    have rc : ∀ o, w3.cell? ⟨w.heap.size, o, none⟩ = (w.alloc (.cells #[.int .i64 0, .int .i64 0, .float .f64 0, .string ⟨#[]⟩, .int .i64 0] 32)).cell? ⟨w.heap.size, o, none⟩ := fun o => ((unhide HG)).cell w.heap.size o n0 (by simp)
    have rf : ∀ o, w3.frozen? ⟨w.heap.size, o, none⟩ = (w.alloc (.cells #[.int .i64 0, .int .i64 0, .float .f64 0, .string ⟨#[]⟩, .int .i64 0] 32)).frozen? ⟨w.heap.size, o, none⟩ := fun o => ((unhide HG)).frozen w.heap.size o n0 (by simp)
    go_wp2_with fail
    have hG0 := unhide HG0
    have b9 := below_set5 (Below.refl w.heap.size w3) w.heap.size (Nat.le_refl _) (.int .i64 (5 + y)) (.int .i64 0) (.float .f64 0) (.string ⟨#[]⟩) (.int .i64 z)
    exact bodyPost_ret (v := V (5 + y) 0 0 ⟨#[]⟩ z) (by simp [results, Tryd.results34, go_sem, rc]) rfl ⟨⟨(5 + y), 0, 0, ⟨#[]⟩, z, rfl, by decide, by decide⟩, ((unhide HC3).mono (by omega)).below b9 hbw, (hG0.trans (unhide HG)).then_below b9 (Nat.le_refl _)⟩
  have b10 : (x == 10) = false := by simp [x10]
  clear hG0
  go_wp2_with fail
  refine (pick_any b (N + 2) 3 _ (unhide HC1) (by omega) (by omega) (by omega)).mono ?_
  rintro e w2 ⟨⟨y, rfl, hy0, hy1⟩, hc2, hs2⟩
  have HG2 := hide ((unhide HS1).gr.trans hs2.gr)
  have HC2 := hide hc2
  clear hc2 hs2
  by_cases y0 : y = 0
  · subst y0
    have rc : ∀ o, w2.cell? ⟨w.heap.size, o, none⟩ = (w.alloc (.cells #[.int .i64 0, .int .i64 0, .float .f64 0, .string ⟨#[]⟩, .int .i64 0] 32)).cell? ⟨w.heap.size, o, none⟩ := fun o => ((unhide HG2)).cell w.heap.size o n0 (by simp)
    have rf : ∀ o, w2.frozen? ⟨w.heap.size, o, none⟩ = (w.alloc (.cells #[.int .i64 0, .int .i64 0, .float .f64 0, .string ⟨#[]⟩, .int .i64 0] 32)).frozen? ⟨w.heap.size, o, none⟩ := fun o => ((unhide HG2)).frozen w.heap.size o n0 (by simp)
    go_wp2_with fail
    have hG0 := unhide HG0
    have b9 := below_set5 (Below.refl w.heap.size w2) w.heap.size (Nat.le_refl _) (.int .i64 0) (.int .i64 0) (.float .f64 0) (.string ⟨#[]⟩) (.int .i64 0)
    exact bodyPost_ret (v := V 0 0 0 ⟨#[]⟩ 0) (by simp [results, Tryd.results34, go_sem, rc]) rfl ⟨⟨0, 0, 0, ⟨#[]⟩, 0, rfl, by decide, by decide⟩, ((unhide HC2).mono (by omega)).below b9 hbw, (hG0.trans (unhide HG2)).then_below b9 (Nat.le_refl _)⟩
  · have c0 : (y == 0) = false := by simp [y0]
    go_wp2_with fail
    refine (pick_any b (N + 4) 15 _ (unhide HC2) (by omega) (by omega) (by omega)).mono ?_
    rintro e w3 ⟨⟨z, rfl, hz0, hz1⟩, hc3, hs3⟩
    have HG := hide ((unhide HG2).trans hs3.gr)
    have HC3 := hide hc3
    clear hc3 hs3
    have rc : ∀ o, w3.cell? ⟨w.heap.size, o, none⟩ = (w.alloc (.cells #[.int .i64 0, .int .i64 0, .float .f64 0, .string ⟨#[]⟩, .int .i64 0] 32)).cell? ⟨w.heap.size, o, none⟩ := fun o => ((unhide HG)).cell w.heap.size o n0 (by simp)
    have rf : ∀ o, w3.frozen? ⟨w.heap.size, o, none⟩ = (w.alloc (.cells #[.int .i64 0, .int .i64 0, .float .f64 0, .string ⟨#[]⟩, .int .i64 0] 32)).frozen? ⟨w.heap.size, o, none⟩ := fun o => ((unhide HG)).frozen w.heap.size o n0 (by simp)
    go_wp2_with fail
    have hG0 := unhide HG0
    have b9 := below_set5 (Below.refl w.heap.size w3) w.heap.size (Nat.le_refl _) (.int .i64 8) (.int .i64 z) (.float .f64 0) (.string ⟨#[]⟩) (.int .i64 0)
    exact bodyPost_ret (v := V 8 z 0 ⟨#[]⟩ 0) (by simp [results, Tryd.results34, go_sem, rc]) rfl ⟨⟨8, z, 0, ⟨#[]⟩, 0, rfl, by decide, by decide⟩, ((unhide HC3).mono (by omega)).below b9 hbw, (hG0.trans (unhide HG)).then_below b9 (Nat.le_refl _)⟩
end Go.Proofs.YtgiegkigfokdmaaDoor
