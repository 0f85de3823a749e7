/-
  CurC, CurD, DtR, DyB, DyC, KeyW, DyD, DaA in one text.
-/
import Derived.Test.YtglcaejddckleaaGreatDoorBk3
import Derived.Test.YtglcaejddckleaaGreatDoorKeyE
import Derived.Test.YtglcaejddckleaaGreatDoorDiG
import Derived.OrdersHeld
import Derived.Deep.RegionHeld
import Derived.Test.YtglcaejddckleaaGreatDoorBk2
import Derived.Test.YtglcaejddckleaaGreatDoorBk0
import Derived.Test.YtglcaejddckleaaGreatDoorBk1
namespace Go.Proofs.YtglcaejddckleaaGreatDoor
open Go.RowKit
set_option linter.unusedVariables false
attribute [local go_sem] run_store_float run_equalIn_float

set_option maxHeartbeats 4000000 in
theorem key_any (b N : Nat) (w : World) (h : Cu b N w) (hN : N ≤ 1099511610000) :
    Calls Tryz.prog 47 #[.pointer (some ⟨b, 0, none⟩)] w fun e w' => (∃ (kind num : Int) (flt : Nat) (s : ByteArray) (ref : Int), e = .returned (V kind num flt s ref) ∧ s.size ≤ 4000 ∧ FOk flt) ∧ Cu b (N + 10) w' ∧ Gr b w w' := by
  have hbw := h.lt
  have n0 : ¬ w.heap.size = b := by omega
  have hG0 : Gr b w (w.alloc (.cells #[.int .i64 0, .int .i64 0, .float .f64 0, .string ⟨#[]⟩, .int .i64 0] 30)) := Gr.of_below ((Below.refl w.heap.size w).alloc (Nat.le_refl _) _)
  have HG0 := hide hG0
  have H := hide (h.below ((Below.refl w.heap.size w).alloc (Nat.le_refl _) (.cells #[.int .i64 0, .int .i64 0, .float .f64 0, .string ⟨#[]⟩, .int .i64 0] 30)) hbw)
  clear h hG0
  go_enter Tryz.func47, Tryz.ntmps47
  go_wp2_with fail
  refine (pick_any b N 12 _ (unhide H) (by omega) (by omega) (by omega)).mono ?_
  rintro e w1 ⟨⟨x, rfl, hx0, hx1⟩, hc1, hs1⟩
  have hG0 := unhide HG0
  have HC1 := hide hc1
  have HS1 := hide hs1
  clear hc1 hs1
  by_cases x0 : x = 0
  · subst x0
    clear hG0
    go_wp2_with fail
    refine (pick_any b (N + 2) 9 _ (unhide HC1) (by omega) (by omega) (by omega)).mono ?_
    rintro e w2 ⟨⟨y, rfl, hy0, hy1⟩, hc2, hs2⟩
    have HG := hide ((unhide HS1).gr.trans hs2.gr)
    have HC2 := hide hc2
    clear hc2 hs2
    go_wp2_with fail
    refine (l1int_any (1 + y) _).mono ?_
    rintro e w3 ⟨rfl, hb3⟩
    have HG3 := hide ((unhide HG).trans (Gr.of_below hb3))
    have HC3 := hide ((unhide HC2).below hb3 (unhide HC2).lt)
    clear hb3
    have rc : ∀ o, w3.cell? ⟨w.heap.size, o, none⟩ = (w.alloc (.cells #[.int .i64 0, .int .i64 0, .float .f64 0, .string ⟨#[]⟩, .int .i64 0] 30)).cell? ⟨w.heap.size, o, none⟩ := fun o => ((unhide HG3)).cell w.heap.size o n0 (by simp)
    have rf : ∀ o, w3.frozen? ⟨w.heap.size, o, none⟩ = (w.alloc (.cells #[.int .i64 0, .int .i64 0, .float .f64 0, .string ⟨#[]⟩, .int .i64 0] 30)).frozen? ⟨w.heap.size, o, none⟩ := fun o => ((unhide HG3)).frozen w.heap.size o n0 (by simp)
    go_wp2_with fail
    have hG0 := unhide HG0
    have b9 := below_set5 (Below.refl w.heap.size w3) w.heap.size (Nat.le_refl _) (.int .i64 2) (.int .i64 (1 + y)) (.float .f64 0) (.string ⟨#[]⟩) (.int .i64 0)
    exact bodyPost_ret (v := V 2 (1 + y) 0 ⟨#[]⟩ 0) (by simp [results, Tryz.results47, go_sem, rc]) rfl ⟨⟨2, (1 + y), 0, ⟨#[]⟩, 0, rfl, by decide, by decide⟩, ((unhide HC3).mono (by omega)).below b9 hbw, (hG0.trans (unhide HG3)).then_below b9 (Nat.le_refl _)⟩
  have b0 : (x == 0) = false := by simp [x0]
  by_cases x1 : x = 1
  · subst x1
    clear hG0
    go_wp2_with fail
    refine (pick_any b (N + 2) 9 _ (unhide HC1) (by omega) (by omega) (by omega)).mono ?_
    rintro e w2 ⟨⟨y, rfl, hy0, hy1⟩, hc2, hs2⟩
    have HG := hide ((unhide HS1).gr.trans hs2.gr)
    have HC2 := hide hc2
    clear hc2 hs2
    go_wp2_with fail
    refine (l1int_any (1 + y) _).mono ?_
    rintro e w3 ⟨rfl, hb3⟩
    have HG3 := hide ((unhide HG).trans (Gr.of_below hb3))
    have HC3 := hide ((unhide HC2).below hb3 (unhide HC2).lt)
    clear hb3
    have rc : ∀ o, w3.cell? ⟨w.heap.size, o, none⟩ = (w.alloc (.cells #[.int .i64 0, .int .i64 0, .float .f64 0, .string ⟨#[]⟩, .int .i64 0] 30)).cell? ⟨w.heap.size, o, none⟩ := fun o => ((unhide HG3)).cell w.heap.size o n0 (by simp)
    have rf : ∀ o, w3.frozen? ⟨w.heap.size, o, none⟩ = (w.alloc (.cells #[.int .i64 0, .int .i64 0, .float .f64 0, .string ⟨#[]⟩, .int .i64 0] 30)).frozen? ⟨w.heap.size, o, none⟩ := fun o => ((unhide HG3)).frozen w.heap.size o n0 (by simp)
    go_wp2_with fail
    have hG0 := unhide HG0
    have b9 := below_set5 (Below.refl w.heap.size w3) w.heap.size (Nat.le_refl _) (.int .i64 2) (.int .i64 (1 + y)) (.float .f64 0) (.string ⟨#[]⟩) (.int .i64 0)
    exact bodyPost_ret (v := V 2 (1 + y) 0 ⟨#[]⟩ 0) (by simp [results, Tryz.results47, go_sem, rc]) rfl ⟨⟨2, (1 + y), 0, ⟨#[]⟩, 0, rfl, by decide, by decide⟩, ((unhide HC3).mono (by omega)).below b9 hbw, (hG0.trans (unhide HG3)).then_below b9 (Nat.le_refl _)⟩
  have b1 : (x == 1) = false := by simp [x1]
  by_cases x2 : x = 2
  · subst x2
    clear hG0
    go_wp2_with fail
    refine (pick_any b (N + 2) 9 _ (unhide HC1) (by omega) (by omega) (by omega)).mono ?_
    rintro e w2 ⟨⟨y, rfl, hy0, hy1⟩, hc2, hs2⟩
    have HG := hide ((unhide HS1).gr.trans hs2.gr)
    have HC2 := hide hc2
    clear hc2 hs2
    go_wp2_with fail
    refine (l1int_any (1 + y) _).mono ?_
    rintro e w3 ⟨rfl, hb3⟩
    have HG3 := hide ((unhide HG).trans (Gr.of_below hb3))
    have HC3 := hide ((unhide HC2).below hb3 (unhide HC2).lt)
    clear hb3
    have rc : ∀ o, w3.cell? ⟨w.heap.size, o, none⟩ = (w.alloc (.cells #[.int .i64 0, .int .i64 0, .float .f64 0, .string ⟨#[]⟩, .int .i64 0] 30)).cell? ⟨w.heap.size, o, none⟩ := fun o => ((unhide HG3)).cell w.heap.size o n0 (by simp)
    have rf : ∀ o, w3.frozen? ⟨w.heap.size, o, none⟩ = (w.alloc (.cells #[.int .i64 0, .int .i64 0, .float .f64 0, .string ⟨#[]⟩, .int .i64 0] 30)).frozen? ⟨w.heap.size, o, none⟩ := fun o => ((unhide HG3)).frozen w.heap.size o n0 (by simp)
    go_wp2_with fail
    have hG0 := unhide HG0
    have b9 := below_set5 (Below.refl w.heap.size w3) w.heap.size (Nat.le_refl _) (.int .i64 2) (.int .i64 (1 + y)) (.float .f64 0) (.string ⟨#[]⟩) (.int .i64 0)
    exact bodyPost_ret (v := V 2 (1 + y) 0 ⟨#[]⟩ 0) (by simp [results, Tryz.results47, go_sem, rc]) rfl ⟨⟨2, (1 + y), 0, ⟨#[]⟩, 0, rfl, by decide, by decide⟩, ((unhide HC3).mono (by omega)).below b9 hbw, (hG0.trans (unhide HG3)).then_below b9 (Nat.le_refl _)⟩
  have b2 : (x == 2) = false := by simp [x2]
  by_cases x3 : x = 3
  · subst x3
    clear hG0
    go_wp2_with fail
    refine (pick_any b (N + 2) 9 _ (unhide HC1) (by omega) (by omega) (by omega)).mono ?_
    rintro e w2 ⟨⟨y, rfl, hy0, hy1⟩, hc2, hs2⟩
    have HG := hide ((unhide HS1).gr.trans hs2.gr)
    have HC2 := hide hc2
    clear hc2 hs2
    go_wp2_with fail
    refine (l1int_any (1 + y) _).mono ?_
    rintro e w3 ⟨rfl, hb3⟩
    have HG3 := hide ((unhide HG).trans (Gr.of_below hb3))
    have HC3 := hide ((unhide HC2).below hb3 (unhide HC2).lt)
    clear hb3
    have rc : ∀ o, w3.cell? ⟨w.heap.size, o, none⟩ = (w.alloc (.cells #[.int .i64 0, .int .i64 0, .float .f64 0, .string ⟨#[]⟩, .int .i64 0] 30)).cell? ⟨w.heap.size, o, none⟩ := fun o => ((unhide HG3)).cell w.heap.size o n0 (by simp)
    have rf : ∀ o, w3.frozen? ⟨w.heap.size, o, none⟩ = (w.alloc (.cells #[.int .i64 0, .int .i64 0, .float .f64 0, .string ⟨#[]⟩, .int .i64 0] 30)).frozen? ⟨w.heap.size, o, none⟩ := fun o => ((unhide HG3)).frozen w.heap.size o n0 (by simp)
    go_wp2_with fail
    have hG0 := unhide HG0
    have b9 := below_set5 (Below.refl w.heap.size w3) w.heap.size (Nat.le_refl _) (.int .i64 2) (.int .i64 (1 + y)) (.float .f64 0) (.string ⟨#[]⟩) (.int .i64 0)
    exact bodyPost_ret (v := V 2 (1 + y) 0 ⟨#[]⟩ 0) (by simp [results, Tryz.results47, go_sem, rc]) rfl ⟨⟨2, (1 + y), 0, ⟨#[]⟩, 0, rfl, by decide, by decide⟩, ((unhide HC3).mono (by omega)).below b9 hbw, (hG0.trans (unhide HG3)).then_below b9 (Nat.le_refl _)⟩
  have b3 : (x == 3) = false := by simp [x3]
  by_cases x4 : x = 4
  · subst x4
    clear hG0
    go_wp2_with fail
    refine (whole_any b (N + 2) _ (unhide HC1) (by omega)).mono ?_
    rintro e w2 ⟨⟨y, rfl⟩, hc2, hs2⟩
    have HG := hide ((unhide HS1).gr.trans hs2.gr)
    have HC2 := hide hc2
    clear hc2 hs2
    go_wp2_with fail
    refine (l1int_any y _).mono ?_
    rintro e w3 ⟨rfl, hb3⟩
    have HG3 := hide ((unhide HG).trans (Gr.of_below hb3))
    have HC3 := hide ((unhide HC2).below hb3 (unhide HC2).lt)
    clear hb3
    have rc : ∀ o, w3.cell? ⟨w.heap.size, o, none⟩ = (w.alloc (.cells #[.int .i64 0, .int .i64 0, .float .f64 0, .string ⟨#[]⟩, .int .i64 0] 30)).cell? ⟨w.heap.size, o, none⟩ := fun o => ((unhide HG3)).cell w.heap.size o n0 (by simp)
    have rf : ∀ o, w3.frozen? ⟨w.heap.size, o, none⟩ = (w.alloc (.cells #[.int .i64 0, .int .i64 0, .float .f64 0, .string ⟨#[]⟩, .int .i64 0] 30)).frozen? ⟨w.heap.size, o, none⟩ := fun o => ((unhide HG3)).frozen w.heap.size o n0 (by simp)
    go_wp2_with fail
    have hG0 := unhide HG0
    have b9 := below_set5 (Below.refl w.heap.size w3) w.heap.size (Nat.le_refl _) (.int .i64 2) (.int .i64 y) (.float .f64 0) (.string ⟨#[]⟩) (.int .i64 0)
    exact bodyPost_ret (v := V 2 y 0 ⟨#[]⟩ 0) (by simp [results, Tryz.results47, go_sem, rc]) rfl ⟨⟨2, y, 0, ⟨#[]⟩, 0, rfl, by decide, by decide⟩, ((unhide HC3).mono (by omega)).below b9 hbw, (hG0.trans (unhide HG3)).then_below b9 (Nat.le_refl _)⟩
  have b4 : (x == 4) = false := by simp [x4]
  by_cases x5 : x = 5
  · subst x5
    clear hG0
    go_wp2_with fail
    refine (word_any b (N + 2) _ (unhide HC1) (by omega)).mono ?_
    rintro e w2 ⟨⟨s, rfl, hsz⟩, hc2, hg2⟩
    have HG := hide ((unhide HS1).gr.trans hg2)
    have HC2 := hide hc2
    clear hc2 hg2
    go_wp2_with fail
    refine (l1str_any s _).mono ?_
    rintro e w3 ⟨rfl, hb3⟩
    have HG3 := hide ((unhide HG).trans (Gr.of_below hb3))
    have HC3 := hide ((unhide HC2).below hb3 (unhide HC2).lt)
    clear hb3
    have rc : ∀ o, w3.cell? ⟨w.heap.size, o, none⟩ = (w.alloc (.cells #[.int .i64 0, .int .i64 0, .float .f64 0, .string ⟨#[]⟩, .int .i64 0] 30)).cell? ⟨w.heap.size, o, none⟩ := fun o => ((unhide HG3)).cell w.heap.size o n0 (by simp)
    have rf : ∀ o, w3.frozen? ⟨w.heap.size, o, none⟩ = (w.alloc (.cells #[.int .i64 0, .int .i64 0, .float .f64 0, .string ⟨#[]⟩, .int .i64 0] 30)).frozen? ⟨w.heap.size, o, none⟩ := fun o => ((unhide HG3)).frozen w.heap.size o n0 (by simp)
    go_wp2_with fail
    have hG0 := unhide HG0
    have b9 := below_set5 (Below.refl w.heap.size w3) w.heap.size (Nat.le_refl _) (.int .i64 4) (.int .i64 0) (.float .f64 0) (.string s) (.int .i64 0)
    exact bodyPost_ret (v := V 4 0 0 s 0) (by simp [results, Tryz.results47, go_sem, rc]) rfl ⟨⟨4, 0, 0, s, 0, rfl, hsz, by decide⟩, ((unhide HC3).mono (by omega)).below b9 hbw, (hG0.trans (unhide HG3)).then_below b9 (Nat.le_refl _)⟩
  have b5 : (x == 5) = false := by simp [x5]
  by_cases x6 : x = 6
  · subst x6
    clear hG0
    go_wp2_with fail
    refine (word_any b (N + 2) _ (unhide HC1) (by omega)).mono ?_
    rintro e w2 ⟨⟨s, rfl, hsz⟩, hc2, hg2⟩
    have HG := hide ((unhide HS1).gr.trans hg2)
    have HC2 := hide hc2
    clear hc2 hg2
    go_wp2_with fail
    refine (l1str_any s _).mono ?_
    rintro e w3 ⟨rfl, hb3⟩
    have HG3 := hide ((unhide HG).trans (Gr.of_below hb3))
    have HC3 := hide ((unhide HC2).below hb3 (unhide HC2).lt)
    clear hb3
    have rc : ∀ o, w3.cell? ⟨w.heap.size, o, none⟩ = (w.alloc (.cells #[.int .i64 0, .int .i64 0, .float .f64 0, .string ⟨#[]⟩, .int .i64 0] 30)).cell? ⟨w.heap.size, o, none⟩ := fun o => ((unhide HG3)).cell w.heap.size o n0 (by simp)
    have rf : ∀ o, w3.frozen? ⟨w.heap.size, o, none⟩ = (w.alloc (.cells #[.int .i64 0, .int .i64 0, .float .f64 0, .string ⟨#[]⟩, .int .i64 0] 30)).frozen? ⟨w.heap.size, o, none⟩ := fun o => ((unhide HG3)).frozen w.heap.size o n0 (by simp)
    go_wp2_with fail
    have hG0 := unhide HG0
    have b9 := below_set5 (Below.refl w.heap.size w3) w.heap.size (Nat.le_refl _) (.int .i64 4) (.int .i64 0) (.float .f64 0) (.string s) (.int .i64 0)
    exact bodyPost_ret (v := V 4 0 0 s 0) (by simp [results, Tryz.results47, go_sem, rc]) rfl ⟨⟨4, 0, 0, s, 0, rfl, hsz, by decide⟩, ((unhide HC3).mono (by omega)).below b9 hbw, (hG0.trans (unhide HG3)).then_below b9 (Nat.le_refl _)⟩
  have b6 : (x == 6) = false := by simp [x6]
  by_cases x7 : x = 7
  · subst x7
    clear hG0
    go_wp2_with fail
    refine (word_any b (N + 2) _ (unhide HC1) (by omega)).mono ?_
    rintro e w2 ⟨⟨s, rfl, hsz⟩, hc2, hg2⟩
    have HG := hide ((unhide HS1).gr.trans hg2)
    have HC2 := hide hc2
    clear hc2 hg2
    go_wp2_with fail
    refine (l1str_any s _).mono ?_
    rintro e w3 ⟨rfl, hb3⟩
    have HG3 := hide ((unhide HG).trans (Gr.of_below hb3))
    have HC3 := hide ((unhide HC2).below hb3 (unhide HC2).lt)
    clear hb3
    have rc : ∀ o, w3.cell? ⟨w.heap.size, o, none⟩ = (w.alloc (.cells #[.int .i64 0, .int .i64 0, .float .f64 0, .string ⟨#[]⟩, .int .i64 0] 30)).cell? ⟨w.heap.size, o, none⟩ := fun o => ((unhide HG3)).cell w.heap.size o n0 (by simp)
    have rf : ∀ o, w3.frozen? ⟨w.heap.size, o, none⟩ = (w.alloc (.cells #[.int .i64 0, .int .i64 0, .float .f64 0, .string ⟨#[]⟩, .int .i64 0] 30)).frozen? ⟨w.heap.size, o, none⟩ := fun o => ((unhide HG3)).frozen w.heap.size o n0 (by simp)
    go_wp2_with fail
    have hG0 := unhide HG0
    have b9 := below_set5 (Below.refl w.heap.size w3) w.heap.size (Nat.le_refl _) (.int .i64 4) (.int .i64 0) (.float .f64 0) (.string s) (.int .i64 0)
    exact bodyPost_ret (v := V 4 0 0 s 0) (by simp [results, Tryz.results47, go_sem, rc]) rfl ⟨⟨4, 0, 0, s, 0, rfl, hsz, by decide⟩, ((unhide HC3).mono (by omega)).below b9 hbw, (hG0.trans (unhide HG3)).then_below b9 (Nat.le_refl _)⟩
  have b7 : (x == 7) = false := by simp [x7]
  by_cases x8 : x = 8
  · subst x8
    clear hG0
    go_wp2_with fail
    refine (flt_any b (N + 2) _ (unhide HC1) (by omega)).mono ?_
    rintro e w2 ⟨⟨f, rfl, hf⟩, hc2, hg2⟩
    have HG := hide ((unhide HS1).gr.trans hg2)
    have HC2 := hide hc2
    clear hc2 hg2
    have rc : ∀ o, w2.cell? ⟨w.heap.size, o, none⟩ = (w.alloc (.cells #[.int .i64 0, .int .i64 0, .float .f64 0, .string ⟨#[]⟩, .int .i64 0] 30)).cell? ⟨w.heap.size, o, none⟩ := fun o => ((unhide HG)).cell w.heap.size o n0 (by simp)
    have rf : ∀ o, w2.frozen? ⟨w.heap.size, o, none⟩ = (w.alloc (.cells #[.int .i64 0, .int .i64 0, .float .f64 0, .string ⟨#[]⟩, .int .i64 0] 30)).frozen? ⟨w.heap.size, o, none⟩ := fun o => ((unhide HG)).frozen w.heap.size o n0 (by simp)
    go_wp2_with fail
    have hG0 := unhide HG0
    have b9 := below_set5 (Below.refl w.heap.size w2) w.heap.size (Nat.le_refl _) (.int .i64 3) (.int .i64 0) (.float .f64 f) (.string ⟨#[]⟩) (.int .i64 0)
    exact bodyPost_ret (v := V 3 0 f ⟨#[]⟩ 0) (by simp [results, Tryz.results47, go_sem, rc]) rfl ⟨⟨3, 0, f, ⟨#[]⟩, 0, rfl, by decide, hf⟩, ((unhide HC2).mono (by omega)).below b9 hbw, (hG0.trans (unhide HG)).then_below b9 (Nat.le_refl _)⟩
  have b8 : (x == 8) = false := by simp [x8]
  by_cases x9 : x = 9
  · subst x9
    clear hG0
    go_wp2_with fail
    refine (pick_any b (N + 2) 2 _ (unhide HC1) (by omega) (by omega) (by omega)).mono ?_
    rintro e w2 ⟨⟨y, rfl, hy0, hy1⟩, hc2, hs2⟩
    have HG := hide ((unhide HS1).gr.trans hs2.gr)
    have HC2 := hide hc2
    clear hc2 hs2
    have rc : ∀ o, w2.cell? ⟨w.heap.size, o, none⟩ = (w.alloc (.cells #[.int .i64 0, .int .i64 0, .float .f64 0, .string ⟨#[]⟩, .int .i64 0] 30)).cell? ⟨w.heap.size, o, none⟩ := fun o => ((unhide HG)).cell w.heap.size o n0 (by simp)
    have rf : ∀ o, w2.frozen? ⟨w.heap.size, o, none⟩ = (w.alloc (.cells #[.int .i64 0, .int .i64 0, .float .f64 0, .string ⟨#[]⟩, .int .i64 0] 30)).frozen? ⟨w.heap.size, o, none⟩ := fun o => ((unhide HG)).frozen w.heap.size o n0 (by simp)
    go_wp2_with fail
    have hG0 := unhide HG0
    have b9 := below_set5 (Below.refl w.heap.size w2) w.heap.size (Nat.le_refl _) (.int .i64 1) (.int .i64 y) (.float .f64 0) (.string ⟨#[]⟩) (.int .i64 0)
    exact bodyPost_ret (v := V 1 y 0 ⟨#[]⟩ 0) (by simp [results, Tryz.results47, go_sem, rc]) rfl ⟨⟨1, y, 0, ⟨#[]⟩, 0, rfl, by decide, by decide⟩, ((unhide HC2).mono (by omega)).below b9 hbw, (hG0.trans (unhide HG)).then_below b9 (Nat.le_refl _)⟩
  have b9' : (x == 9) = false := by simp [x9]
  by_cases x10 : x = 10
  · subst x10
    clear hG0
    go_wp2_with fail
    refine (pick_any b (N + 2) 3 _ (unhide HC1) (by omega) (by omega) (by omega)).mono ?_
    rintro e w2 ⟨⟨y, rfl, hy0, hy1⟩, hc2, hs2⟩
    have HG2 := hide ((unhide HS1).gr.trans hs2.gr)
    have HC2 := hide hc2
    clear hc2 hs2
    go_wp2_with fail
    refine (pick_any b (N + 4) 9 _ (unhide HC2) (by omega) (by omega) (by omega)).mono ?_
    rintro e w3 ⟨⟨z, rfl, hz0, hz1⟩, hc3, hs3⟩
    have HG := hide ((unhide HG2).trans hs3.gr)
    have HC3 := hide hc3
    clear hc3 hs3
    have rc : ∀ o, w3.cell? ⟨w.heap.size, o, none⟩ = (w.alloc (.cells #[.int .i64 0, .int .i64 0, .float .f64 0, .string ⟨#[]⟩, .int .i64 0] 30)).cell? ⟨w.heap.size, o, none⟩ := fun o => ((unhide HG)).cell w.heap.size o n0 (by simp)
    have rf : ∀ o, w3.frozen? ⟨w.heap.size, o, none⟩ = (w.alloc (.cells #[.int .i64 0, .int .i64 0, .float .f64 0, .string ⟨#[]⟩, .int .i64 0] 30)).frozen? ⟨w.heap.size, o, none⟩ := fun o => ((unhide HG)).frozen w.heap.size o n0 (by simp)
    go_wp2_with fail
    have hG0 := unhide HG0
    have b9 := below_set5 (Below.refl w.heap.size w3) w.heap.size (Nat.le_refl _) (.int .i64 (5 + y)) (.int .i64 0) (.float .f64 0) (.string ⟨#[]⟩) (.int .i64 z)
    exact bodyPost_ret (v := V (5 + y) 0 0 ⟨#[]⟩ z) (by simp [results, Tryz.results47, go_sem, rc]) rfl ⟨⟨(5 + y), 0, 0, ⟨#[]⟩, z, rfl, by decide, by decide⟩, ((unhide HC3).mono (by omega)).below b9 hbw, (hG0.trans (unhide HG)).then_below b9 (Nat.le_refl _)⟩
  have b10 : (x == 10) = false := by simp [x10]
  clear hG0
  go_wp2_with fail
  refine (pick_any b (N + 2) 3 _ (unhide HC1) (by omega) (by omega) (by omega)).mono ?_
  rintro e w2 ⟨⟨y, rfl, hy0, hy1⟩, hc2, hs2⟩
  have HG2 := hide ((unhide HS1).gr.trans hs2.gr)
  have HC2 := hide hc2
  clear hc2 hs2
  by_cases y0 : y = 0
  · subst y0
    have rc : ∀ o, w2.cell? ⟨w.heap.size, o, none⟩ = (w.alloc (.cells #[.int .i64 0, .int .i64 0, .float .f64 0, .string ⟨#[]⟩, .int .i64 0] 30)).cell? ⟨w.heap.size, o, none⟩ := fun o => ((unhide HG2)).cell w.heap.size o n0 (by simp)
    have rf : ∀ o, w2.frozen? ⟨w.heap.size, o, none⟩ = (w.alloc (.cells #[.int .i64 0, .int .i64 0, .float .f64 0, .string ⟨#[]⟩, .int .i64 0] 30)).frozen? ⟨w.heap.size, o, none⟩ := fun o => ((unhide HG2)).frozen w.heap.size o n0 (by simp)
    go_wp2_with fail
    have hG0 := unhide HG0
    have b9 := below_set5 (Below.refl w.heap.size w2) w.heap.size (Nat.le_refl _) (.int .i64 0) (.int .i64 0) (.float .f64 0) (.string ⟨#[]⟩) (.int .i64 0)
    exact bodyPost_ret (v := V 0 0 0 ⟨#[]⟩ 0) (by simp [results, Tryz.results47, go_sem, rc]) rfl ⟨⟨0, 0, 0, ⟨#[]⟩, 0, rfl, by decide, by decide⟩, ((unhide HC2).mono (by omega)).below b9 hbw, (hG0.trans (unhide HG2)).then_below b9 (Nat.le_refl _)⟩
  · have c0 : (y == 0) = false := by simp [y0]
    go_wp2_with fail
    refine (pick_any b (N + 4) 15 _ (unhide HC2) (by omega) (by omega) (by omega)).mono ?_
    rintro e w3 ⟨⟨z, rfl, hz0, hz1⟩, hc3, hs3⟩
    have HG := hide ((unhide HG2).trans hs3.gr)
    have HC3 := hide hc3
    clear hc3 hs3
    have rc : ∀ o, w3.cell? ⟨w.heap.size, o, none⟩ = (w.alloc (.cells #[.int .i64 0, .int .i64 0, .float .f64 0, .string ⟨#[]⟩, .int .i64 0] 30)).cell? ⟨w.heap.size, o, none⟩ := fun o => ((unhide HG)).cell w.heap.size o n0 (by simp)
    have rf : ∀ o, w3.frozen? ⟨w.heap.size, o, none⟩ = (w.alloc (.cells #[.int .i64 0, .int .i64 0, .float .f64 0, .string ⟨#[]⟩, .int .i64 0] 30)).frozen? ⟨w.heap.size, o, none⟩ := fun o => ((unhide HG)).frozen w.heap.size o n0 (by simp)
    go_wp2_with fail
    have hG0 := unhide HG0
    have b9 := below_set5 (Below.refl w.heap.size w3) w.heap.size (Nat.le_refl _) (.int .i64 8) (.int .i64 z) (.float .f64 0) (.string ⟨#[]⟩) (.int .i64 0)
    exact bodyPost_ret (v := V 8 z 0 ⟨#[]⟩ 0) (by simp [results, Tryz.results47, go_sem, rc]) rfl ⟨⟨8, z, 0, ⟨#[]⟩, 0, rfl, by decide, by decide⟩, ((unhide HC3).mono (by omega)).below b9 hbw, (hG0.trans (unhide HG)).then_below b9 (Nat.le_refl _)⟩
end Go.Proofs.YtglcaejddckleaaGreatDoor
namespace Go.Proofs.YtglcaejddckleaaGreatDoor
open Go.RowKit
set_option linter.unusedVariables false
attribute [local go_sem] run_store_float run_equalIn_float

set_option maxHeartbeats 4000000 in
theorem bad_any (b N : Nat) (w : World) (h : Cu b N w) (hN : N ≤ 1099511600000) :
    Calls Tryz.prog 46 #[.pointer (some ⟨b, 0, none⟩)] w fun e w' => (∃ (kind num : Int) (flt : Nat) (s : ByteArray) (ref : Int), e = .returned (V kind num flt s ref) ∧ s.size ≤ 4000 ∧ FOk flt) ∧ Cu b (N + 20) w' ∧ Gr b w w' := by
  have hbw := h.lt
  have n0 : ¬ w.heap.size = b := by omega
  have HG0 := hide (Gr.of_below (b := b) ((Below.refl w.heap.size w).alloc (Nat.le_refl _) (.cells #[.int .i64 0, .int .i64 0, .float .f64 0, .string ⟨#[]⟩, .int .i64 0] 30)))
  have H := hide (h.below ((Below.refl w.heap.size w).alloc (Nat.le_refl _) (.cells #[.int .i64 0, .int .i64 0, .float .f64 0, .string ⟨#[]⟩, .int .i64 0] 30)) hbw)
  clear h
  go_enter Tryz.func46, Tryz.ntmps46
  go_wp2_with fail
  refine (key_any b N _ (unhide H) (by omega)).mono ?_
  rintro e w1 ⟨⟨kind, num, flt, s, ref, rfl, hsz, hf⟩, hc1, hg1⟩
  have hz1 := hg1.size
  simp at hz1
  have n1 : ¬ w1.heap.size = b := by omega
  have hbk : Below w1.heap.size w1 (w1.alloc (.cells #[.int .i64 kind, .int .i64 num, .float .f64 flt, .string s, .int .i64 ref] 30)) := (Below.refl _ _).alloc (Nat.le_refl _) _
  have HC1 := hide (hc1.below hbk hc1.lt)
  have HG1 := hide (hg1.trans (Gr.of_below hbk))
  clear hc1 hg1 hbk
  go_wp2_with fail
  refine (pick_any b (N + 10) 5 _ (unhide HC1) (by omega) (by omega) (by omega)).mono ?_
  rintro e w2 ⟨⟨x, rfl, hx0, hx1⟩, hc2, hs2⟩
  have hz2 := hs2.size
  simp at hz2
  have HG2 := hide ((unhide HG1).trans hs2.gr)
  have HC2 := hide hc2
  have rv : ∀ o, w2.cell? ⟨w1.heap.size, o, none⟩ = (w1.alloc (.cells #[.int .i64 kind, .int .i64 num, .float .f64 flt, .string s, .int .i64 ref] 30)).cell? ⟨w1.heap.size, o, none⟩ := fun o => hs2.cell w1.heap.size o n1
  have rvf : ∀ o, w2.frozen? ⟨w1.heap.size, o, none⟩ = (w1.alloc (.cells #[.int .i64 kind, .int .i64 num, .float .f64 flt, .string s, .int .i64 ref] 30)).frozen? ⟨w1.heap.size, o, none⟩ := fun o => hs2.frozen w1.heap.size o n1
  clear hc2 hs2
  have m1 : ¬ w.heap.size = w1.heap.size := by omega
  by_cases x0 : x = 0
  · subst x0
    go_wp2_with fail
    refine (pick_any b (N + 12) 11 _ (unhide HC2) (by omega) (by omega) (by omega)).mono ?_
    rintro e w3 ⟨⟨y, rfl, hy0, hy1⟩, hc3, hs3⟩
    have HG3 := hide ((unhide HG2).trans hs3.gr)
    have HC3 := hide hc3
    have rv3 : ∀ o, w3.cell? ⟨w1.heap.size, o, none⟩ = (w1.alloc (.cells #[.int .i64 kind, .int .i64 num, .float .f64 flt, .string s, .int .i64 ref] 30)).cell? ⟨w1.heap.size, o, none⟩ := fun o => (hs3.cell w1.heap.size o n1).trans (rv o)
    have rvf3 : ∀ o, w3.frozen? ⟨w1.heap.size, o, none⟩ = (w1.alloc (.cells #[.int .i64 kind, .int .i64 num, .float .f64 flt, .string s, .int .i64 ref] 30)).frozen? ⟨w1.heap.size, o, none⟩ := fun o => (hs3.frozen w1.heap.size o n1).trans (rvf o)
    clear hc3 hs3 rv rvf
    have rc : ∀ o, w3.cell? ⟨w.heap.size, o, none⟩ = (w.alloc (.cells #[.int .i64 0, .int .i64 0, .float .f64 0, .string ⟨#[]⟩, .int .i64 0] 30)).cell? ⟨w.heap.size, o, none⟩ := fun o => (unhide HG3).cell w.heap.size o n0 (by simp)
    have rf : ∀ o, w3.frozen? ⟨w.heap.size, o, none⟩ = (w.alloc (.cells #[.int .i64 0, .int .i64 0, .float .f64 0, .string ⟨#[]⟩, .int .i64 0] 30)).frozen? ⟨w.heap.size, o, none⟩ := fun o => (unhide HG3).frozen w.heap.size o n0 (by simp)
    go_wp2_with fail
    have b9 := below_set5 ((Below.refl w.heap.size w3).setCell (p := ⟨w1.heap.size, 0, none⟩) (by simp; omega) (.int .i64 (y - 1))) w.heap.size (Nat.le_refl _) (.int .i64 (y - 1)) (.int .i64 num) (.float .f64 flt) (.string s) (.int .i64 ref)
    exact bodyPost_ret (v := V (y - 1) num flt s ref) (by simp [results, Tryz.results46, go_sem, rc]) rfl ⟨⟨(y - 1), num, flt, s, ref, rfl, hsz, hf⟩, ((unhide HC3).mono (by omega)).below b9 hbw, ((unhide HG0).trans (unhide HG3)).then_below b9 (Nat.le_refl _)⟩
  have b0 : (x == 0) = false := by simp [x0]
  by_cases x1 : x = 1
  · subst x1
    go_wp2_with fail
    refine (whole_any b (N + 12) _ (unhide HC2) (by omega)).mono ?_
    rintro e w3 ⟨⟨y, rfl⟩, hc3, hs3⟩
    have HG3 := hide ((unhide HG2).trans hs3.gr)
    have HC3 := hide hc3
    have rv3 : ∀ o, w3.cell? ⟨w1.heap.size, o, none⟩ = (w1.alloc (.cells #[.int .i64 kind, .int .i64 num, .float .f64 flt, .string s, .int .i64 ref] 30)).cell? ⟨w1.heap.size, o, none⟩ := fun o => (hs3.cell w1.heap.size o n1).trans (rv o)
    have rvf3 : ∀ o, w3.frozen? ⟨w1.heap.size, o, none⟩ = (w1.alloc (.cells #[.int .i64 kind, .int .i64 num, .float .f64 flt, .string s, .int .i64 ref] 30)).frozen? ⟨w1.heap.size, o, none⟩ := fun o => (hs3.frozen w1.heap.size o n1).trans (rvf o)
    clear hc3 hs3 rv rvf
    have rc : ∀ o, w3.cell? ⟨w.heap.size, o, none⟩ = (w.alloc (.cells #[.int .i64 0, .int .i64 0, .float .f64 0, .string ⟨#[]⟩, .int .i64 0] 30)).cell? ⟨w.heap.size, o, none⟩ := fun o => (unhide HG3).cell w.heap.size o n0 (by simp)
    have rf : ∀ o, w3.frozen? ⟨w.heap.size, o, none⟩ = (w.alloc (.cells #[.int .i64 0, .int .i64 0, .float .f64 0, .string ⟨#[]⟩, .int .i64 0] 30)).frozen? ⟨w.heap.size, o, none⟩ := fun o => (unhide HG3).frozen w.heap.size o n0 (by simp)
    go_wp2_with fail
    have b9 := below_set5 ((Below.refl w.heap.size w3).setCell (p := ⟨w1.heap.size, 1, none⟩) (by simp; omega) (.int .i64 y)) w.heap.size (Nat.le_refl _) (.int .i64 kind) (.int .i64 y) (.float .f64 flt) (.string s) (.int .i64 ref)
    exact bodyPost_ret (v := V kind y flt s ref) (by simp [results, Tryz.results46, go_sem, rc]) rfl ⟨⟨kind, y, flt, s, ref, rfl, hsz, hf⟩, ((unhide HC3).mono (by omega)).below b9 hbw, ((unhide HG0).trans (unhide HG3)).then_below b9 (Nat.le_refl _)⟩
  have b1 : (x == 1) = false := by simp [x1]
  by_cases x2 : x = 2
  · subst x2
    have rc : ∀ o, w2.cell? ⟨w.heap.size, o, none⟩ = (w.alloc (.cells #[.int .i64 0, .int .i64 0, .float .f64 0, .string ⟨#[]⟩, .int .i64 0] 30)).cell? ⟨w.heap.size, o, none⟩ := fun o => (unhide HG2).cell w.heap.size o n0 (by simp)
    have rf : ∀ o, w2.frozen? ⟨w.heap.size, o, none⟩ = (w.alloc (.cells #[.int .i64 0, .int .i64 0, .float .f64 0, .string ⟨#[]⟩, .int .i64 0] 30)).frozen? ⟨w.heap.size, o, none⟩ := fun o => (unhide HG2).frozen w.heap.size o n0 (by simp)
    go_wp2_with fail
    have b9 := below_set5 ((Below.refl w.heap.size w2).setCell (p := ⟨w1.heap.size, 2, none⟩) (by simp; omega) (.float .f64 13826050856027422720)) w.heap.size (Nat.le_refl _) (.int .i64 kind) (.int .i64 num) (.float .f64 13826050856027422720) (.string s) (.int .i64 ref)
    exact bodyPost_ret (v := V kind num 13826050856027422720 s ref) (by simp [results, Tryz.results46, go_sem, rc]) rfl ⟨⟨kind, num, 13826050856027422720, s, ref, rfl, hsz, by decide⟩, ((unhide HC2).mono (by omega)).below b9 hbw, ((unhide HG0).trans (unhide HG2)).then_below b9 (Nat.le_refl _)⟩
  have b2 : (x == 2) = false := by simp [x2]
  by_cases x3 : x = 3
  · subst x3
    go_wp2_with fail
    refine (pick_any b (N + 12) 3 _ (unhide HC2) (by omega) (by omega) (by omega)).mono ?_
    rintro e w3 ⟨⟨y, rfl, hy0, hy1⟩, hc3, hs3⟩
    have HG3 := hide ((unhide HG2).trans hs3.gr)
    have HC3 := hide hc3
    have rv3 : ∀ o, w3.cell? ⟨w1.heap.size, o, none⟩ = (w1.alloc (.cells #[.int .i64 kind, .int .i64 num, .float .f64 flt, .string s, .int .i64 ref] 30)).cell? ⟨w1.heap.size, o, none⟩ := fun o => (hs3.cell w1.heap.size o n1).trans (rv o)
    have rvf3 : ∀ o, w3.frozen? ⟨w1.heap.size, o, none⟩ = (w1.alloc (.cells #[.int .i64 kind, .int .i64 num, .float .f64 flt, .string s, .int .i64 ref] 30)).frozen? ⟨w1.heap.size, o, none⟩ := fun o => (hs3.frozen w1.heap.size o n1).trans (rvf o)
    clear hc3 hs3 rv rvf
    have rc : ∀ o, w3.cell? ⟨w.heap.size, o, none⟩ = (w.alloc (.cells #[.int .i64 0, .int .i64 0, .float .f64 0, .string ⟨#[]⟩, .int .i64 0] 30)).cell? ⟨w.heap.size, o, none⟩ := fun o => (unhide HG3).cell w.heap.size o n0 (by simp)
    have rf : ∀ o, w3.frozen? ⟨w.heap.size, o, none⟩ = (w.alloc (.cells #[.int .i64 0, .int .i64 0, .float .f64 0, .string ⟨#[]⟩, .int .i64 0] 30)).frozen? ⟨w.heap.size, o, none⟩ := fun o => (unhide HG3).frozen w.heap.size o n0 (by simp)
    go_wp2_with fail
    have b9 := below_set5 ((Below.refl w.heap.size w3).setCell (p := ⟨w1.heap.size, 4, none⟩) (by simp; omega) (.int .i64 (y - 1))) w.heap.size (Nat.le_refl _) (.int .i64 kind) (.int .i64 num) (.float .f64 flt) (.string s) (.int .i64 (y - 1))
    exact bodyPost_ret (v := V kind num flt s (y - 1)) (by simp [results, Tryz.results46, go_sem, rc]) rfl ⟨⟨kind, num, flt, s, (y - 1), rfl, hsz, hf⟩, ((unhide HC3).mono (by omega)).below b9 hbw, ((unhide HG0).trans (unhide HG3)).then_below b9 (Nat.le_refl _)⟩
  have b3 : (x == 3) = false := by simp [x3]
  have rc : ∀ o, w2.cell? ⟨w.heap.size, o, none⟩ = (w.alloc (.cells #[.int .i64 0, .int .i64 0, .float .f64 0, .string ⟨#[]⟩, .int .i64 0] 30)).cell? ⟨w.heap.size, o, none⟩ := fun o => (unhide HG2).cell w.heap.size o n0 (by simp)
  have rf : ∀ o, w2.frozen? ⟨w.heap.size, o, none⟩ = (w.alloc (.cells #[.int .i64 0, .int .i64 0, .float .f64 0, .string ⟨#[]⟩, .int .i64 0] 30)).frozen? ⟨w.heap.size, o, none⟩ := fun o => (unhide HG2).frozen w.heap.size o n0 (by simp)
  go_wp2_with fail
  have b9 := below_set5 (Below.refl w.heap.size w2) w.heap.size (Nat.le_refl _) (.int .i64 kind) (.int .i64 num) (.float .f64 flt) (.string s) (.int .i64 ref)
  exact bodyPost_ret (v := V kind num flt s ref) (by simp [results, Tryz.results46, go_sem, rc]) rfl ⟨⟨kind, num, flt, s, ref, rfl, hsz, hf⟩, ((unhide HC2).mono (by omega)).below b9 hbw, ((unhide HG0).trans (unhide HG2)).then_below b9 (Nat.le_refl _)⟩

set_option maxHeartbeats 4000000 in
theorem drawKey_any (a : Option Addr) (len cap : Nat) (w : World) (hcode : CodeAt w w.heap.size a len) :
    Calls Tryz.prog 12 #[.slice a len cap] w fun e w' => (∃ (kind num : Int) (flt : Nat) (s : ByteArray) (ref : Int), e = .returned (V kind num flt s ref) ∧ s.size ≤ 4000 ∧ FOk flt) ∧ Below w.heap.size w w' := by
  have HCode := hide hcode
  clear hcode
  go_enter Tryz.func12, Tryz.ntmps12
  go_wp2_with fail
  have hU : Below w.heap.size w ((w.alloc (.cells #[.int .i64 0, .int .i64 0, .float .f64 0, .string ⟨#[]⟩, .int .i64 0] 30)).alloc (.cells #[.slice a len cap, .int .i64 0, .int .u64 0] 69)) := ((Below.refl w.heap.size w).alloc (Nat.le_refl _) _).alloc (by simp) _
  have n0 : ¬ w.heap.size = w.heap.size + 1 := by omega
  have hcu : Cu (w.heap.size + 1) 0 ((w.alloc (.cells #[.int .i64 0, .int .i64 0, .float .f64 0, .string ⟨#[]⟩, .int .i64 0] 30)).alloc (.cells #[.slice a len cap, .int .i64 0, .int .u64 0] 69)) := by
    refine ⟨⟨a, len, cap, 0, 0, by simp [go_sem], by simp [go_sem], by simp [go_sem], by omega, by omega, by omega, by omega, ?_⟩, fun o => by simp [go_sem]⟩
    obtain ⟨h1, h2⟩ := unhide HCode
    refine ⟨h1, ?_⟩
    rcases h2 with h | ⟨k, off, e, hk, hc⟩
    · exact .inl h
    · refine .inr ⟨k, off, e, by omega, fun i hi => ?_⟩
      obtain ⟨z, hz, hr⟩ := hc i hi
      exact ⟨z, (hU.cell (p := ⟨k, off + i, none⟩) hk).trans hz, hr⟩
  refine (pick_any (w.heap.size + 1) 0 2 _ hcu (by omega) (by omega) (by omega)).mono ?_
  rintro e w1 ⟨⟨x, rfl, hx0, hx1⟩, hc1, hs1⟩
  have HC1 := hide hc1
  have HS1 := hide hs1
  clear hc1 hs1 hcu
  by_cases x0 : x = 0
  · subst x0
    go_wp2_with fail
    refine (bad_any (w.heap.size + 1) 2 _ (unhide HC1) (by omega)).mono ?_
    rintro e w2 ⟨⟨kind, num, flt, s, ref, rfl, hsz, hf⟩, hc2, hg2⟩
    have HG := hide ((unhide HS1).gr.trans hg2)
    clear hc2 hg2
    have rc : ∀ o, w2.cell? ⟨w.heap.size, o, none⟩ = ((w.alloc (.cells #[.int .i64 0, .int .i64 0, .float .f64 0, .string ⟨#[]⟩, .int .i64 0] 30)).alloc (.cells #[.slice a len cap, .int .i64 0, .int .u64 0] 69)).cell? ⟨w.heap.size, o, none⟩ := fun o => (unhide HG).cell w.heap.size o n0 (by simp; omega)
    have rf : ∀ o, w2.frozen? ⟨w.heap.size, o, none⟩ = ((w.alloc (.cells #[.int .i64 0, .int .i64 0, .float .f64 0, .string ⟨#[]⟩, .int .i64 0] 30)).alloc (.cells #[.slice a len cap, .int .i64 0, .int .u64 0] 69)).frozen? ⟨w.heap.size, o, none⟩ := fun o => (unhide HG).frozen w.heap.size o n0 (by simp; omega)
    go_wp2_with fail
    have b9 := below_set5 (hU.trans ((unhide HG).below (B := w.heap.size) (by omega) (by simp; omega))) w.heap.size (Nat.le_refl _) (.int .i64 kind) (.int .i64 num) (.float .f64 flt) (.string s) (.int .i64 ref)
    exact bodyPost_ret (v := V kind num flt s ref) (by simp [results, Tryz.results12, go_sem, rc]) rfl ⟨⟨kind, num, flt, s, ref, rfl, hsz, hf⟩, b9⟩
  · have b0 : (x == 0) = false := by simp [x0]
    go_wp2_with fail
    refine (key_any (w.heap.size + 1) 2 _ (unhide HC1) (by omega)).mono ?_
    rintro e w2 ⟨⟨kind, num, flt, s, ref, rfl, hsz, hf⟩, hc2, hg2⟩
    have HG := hide ((unhide HS1).gr.trans hg2)
    clear hc2 hg2
    have rc : ∀ o, w2.cell? ⟨w.heap.size, o, none⟩ = ((w.alloc (.cells #[.int .i64 0, .int .i64 0, .float .f64 0, .string ⟨#[]⟩, .int .i64 0] 30)).alloc (.cells #[.slice a len cap, .int .i64 0, .int .u64 0] 69)).cell? ⟨w.heap.size, o, none⟩ := fun o => (unhide HG).cell w.heap.size o n0 (by simp; omega)
    have rf : ∀ o, w2.frozen? ⟨w.heap.size, o, none⟩ = ((w.alloc (.cells #[.int .i64 0, .int .i64 0, .float .f64 0, .string ⟨#[]⟩, .int .i64 0] 30)).alloc (.cells #[.slice a len cap, .int .i64 0, .int .u64 0] 69)).frozen? ⟨w.heap.size, o, none⟩ := fun o => (unhide HG).frozen w.heap.size o n0 (by simp; omega)
    go_wp2_with fail
    have b9 := below_set5 (hU.trans ((unhide HG).below (B := w.heap.size) (by omega) (by simp; omega))) w.heap.size (Nat.le_refl _) (.int .i64 kind) (.int .i64 num) (.float .f64 flt) (.string s) (.int .i64 ref)
    exact bodyPost_ret (v := V kind num flt s ref) (by simp [results, Tryz.results12, go_sem, rc]) rfl ⟨⟨kind, num, flt, s, ref, rfl, hsz, hf⟩, b9⟩
end Go.Proofs.YtglcaejddckleaaGreatDoor
namespace Go.Proofs.YtglcaejddckleaaGreatDoor
open Go.RowKit Go.Shelf
set_option linter.unusedVariables false

/-- What holds at the end that is plain; no other end is borne. -/
def QN (Q : Exit → Act → World → Prop) : Exit → Act → World → Prop
  | .normal, a, w => Q .normal a w
  | _, _, _ => False
theorem QN.no {Q : Exit → Act → World → Prop} : ¬ LetsOut (QN Q) := fun ⟨a, w, h⟩ => h

theorem QN.normal {Q : Exit → Act → World → Prop} {a : Act} {w : World} (h : Q .normal a w) : QN Q .normal a w := h

section
variable {P : Program} {ops : Array Oper} {md : Region.Mode}
theorem wpInR_of_wp {l n : Nat} {o : Oper} {a : Act} {K K' : Act → World → Prop} {Q : Exit → Act → World → Prop} {w : World} (hd : ∀ c, o.op ≠ .defer c) (h : ∀ a w, K a w → K' a w) (hh : o.wp P a w K (QN Q)) : o.wpIn (Fence.wide.inRound l) n P a w K' Q := by
  unfold Oper.wp at hh
  refine ⟨fun _ _ => trivial, ?_⟩
  show o.uponIn (Fence.wide.inRound l) n P a K' Q ((o.semAt (some l) a.eval).run P w)
  rw [Oper.semAt_some l _ _ hd]
  generalize (execOp a.eval o).run P w = r at *
  cases r with
  | ok x w' =>
    cases x <;> simp only [Oper.upon] at hh <;> simp only [Oper.uponIn]
    case value u => exact h _ _ hh
    case skip => exact h _ _ hh
    case defer d => exact h _ _ hh
    case enter f args =>
      refine ⟨fun hh => (by cases hh), CallsIn.inRound l (callsIn_wide.2 (hh.mono fun e w'' he => ?_))⟩
      cases e with
      | returned v => exact h _ _ he
      | panicked c => exact False.elim he
      | outgrown => exact absurd he QN.no
    case row row args =>
      refine ⟨fun hh => (by cases hh), fun c cs hr => ?_⟩
      obtain ⟨v, w'', r, s⟩ := hh c cs
      exact ⟨v, w'', h _ _ r, stepsIn_wide.2 s⟩
  | halt x w' => cases x <;> simp only [Oper.upon] at hh <;> exact False.elim hh

theorem wpOpInR_of_wpOp {l n i : Nat} {a : Act} {K K' : Act → World → Prop} {Q : Exit → Act → World → Prop} {w : World} (hd : noDefer ops = true) (h : ∀ a w, K a w → K' a w) (hh : wpOp P ops (QN Q) i K a w) : wpOpIn (Fence.wide.inRound l) n P ops Q i K' a w := by
  unfold wpOp at hh
  unfold wpOpIn
  split
  · rename_i ho; simp only [ho] at hh; exact h _ _ hh
  · rename_i o ho
    simp only [ho] at hh
    split
    · rename_i hw
      simp only [hw, if_true] at hh
      rcases hh with hh | hh
      · exact wpInR_of_wp (noDefer_spec hd ho) h hh
      · exact absurd hh.2 QN.no
    · rename_i hw; simp only [hw] at hh; exact ⟨fun _ _ => trivial, h _ _ hh⟩

theorem wpAnyInR_of_any {l n : Nat} {Q : Exit → Act → World → Prop} (hd : noDefer ops = true) : ∀ (fuel : Nat) (listed : Array Bool) (a : Act) (w : World), wpAny P md ops (QN Q) fuel listed a w → wpAnyIn (Fence.wide.inRound l) n P md ops Q fuel listed a w
  | 0, _, _, _, h => h
  | fuel + 1, _, _, _, h => ⟨h.1, fun i hi => wpOpInR_of_wpOp hd (fun a' w' h' => wpAnyInR_of_any hd fuel _ a' w' h') (h.2 i hi)⟩

/-- One order stands for all, where what is read stays. -/
theorem wpInR_held {l n id : Nat} {Q : Exit → Act → World → Prop} {a : Act} {w : World} (S : World → Prop) (hm : P.follows .mixedOrders = true) (hd : noDefer ops = true) (h : wpAnyH P .any ops (QN Q) S ops.size (Array.replicate ops.size false) a { w with drawn := w.drawn + 1 }) : (Code.region id ops true).wpIn (Fence.wide.inRound l) n P Q a w :=
  wpIn_region_any hm (wpAnyInR_of_any hd _ _ _ _ (wpAny_of_held _ _ _ _ h))
/-- One operation taken first. -/
theorem tk {Q : Exit → Act → World → Prop} {S : World → Prop} {l rest : List Oper} (i : Nat) {oi : Oper} {v : Value} {fuel : Nat} {listed : Array Bool} {a : Act} {w : World} (hd : l.drop i = oi :: rest) (hc : (Region.noSelect l.toArray && Region.free md l.toArray listed i && (Region.ready md l.toArray listed).contains i) = true)
    (hw : Region.wanted oi (yielded l.toArray a.tmps) = true) (hy : ∀ w, S w → (execOp a.eval oi).run P w = .ok (.value v) w) (hS : S w) (h : wpAnyH P md l.toArray (QN Q) S fuel (listed.setIfInBounds i true) (a.put oi.dst v) w) : wpAnyH P md l.toArray (QN Q) S (fuel + 1) listed a w := by
  simp only [Bool.and_eq_true] at hc
  have hi : l.toArray[i]? = some oi := by
    have h1 : (l.drop i)[0]? = some oi := by rw [hd]; rfl
    rw [List.getElem?_drop] at h1
    simpa using h1
  exact wpAnyH_take hi hc.1.1 hc.1.2 hc.2 (fun _ _ _ h => h) (Or.inl ⟨hw, hy⟩) hS h
theorem QN.imp {Q : Exit → Act → World → Prop} : ∀ (e : Exit) (a : Act) (w : World), QN Q e a w → Q e a w := fun e a w h => by
  cases e <;> first | exact h | exact False.elim h
theorem wpN_held {id : Nat} {Q : Exit → Act → World → Prop} {a : Act} {w : World} (S : World → Prop) (hm : P.follows .mixedOrders = true) (h : wpAnyH P .any ops (QN Q) S ops.size (Array.replicate ops.size false) a { w with drawn := w.drawn + 1 }) : (Code.region id ops true).wp P Q a w :=
  Code.wp_mono QN.imp (wp_region_held hm h)
theorem wpInW_held {n id : Nat} {Q : Exit → Act → World → Prop} {a : Act} {w : World} (S : World → Prop) (hm : P.follows .mixedOrders = true) (h : wpAnyH P .any ops (QN Q) S ops.size (Array.replicate ops.size false) a { w with drawn := w.drawn + 1 }) : (Code.region id ops true).wpIn Fence.wide n P Q a w :=
  wpIn_wide.2 (wpN_held S hm h)
end
end Go.Proofs.YtglcaejddckleaaGreatDoor
namespace Go.Proofs.YtglcaejddckleaaGreatDoor
open Go.RowKit Go.Shelf
set_option linter.unusedVariables false
attribute [local go_sem] run_store_float run_equalIn_float

theorem DMut.gr {w w' : World} {c o B b : Nat} {v0 v1 v2 : Value} {d : Dc} (h : DMut w c o B v0 v1 v2 d) (hg : Gr b w w') (hc : b ≠ c) (hB : b < B) : DMut w' c o B v0 v1 v2 d := by
  have e : ∀ q, w'.cell? ⟨c, q, none⟩ = w.cell? ⟨c, q, none⟩ := fun q => hg.cell c q (Ne.symm hc) h.lt
  have r : ∀ q, B ≤ q → q < w.heap.size → w'.heap[q]? = w.heap[q]? := fun q h1 h2 => hg.block q (by omega) h2
  exact ⟨Nat.lt_of_lt_of_le h.lt hg.size, (e _).trans h.c0, (e _).trans h.c1, (e _).trans h.c2, (e _).trans h.c3, (e _).trans h.c4, (e _).trans h.c5, fun q => (hg.frozen c q (Ne.symm hc) h.lt).trans (h.fz q), own_block h.log hg.size r, own_block h.ints hg.size r, own_block h.index hg.size r, h.ap, h.nc, Nat.le_trans h.base hg.size⟩

theorem nz_zero {a b c : Int} {s : ByteArray} : Nz ⟨a, b, 0, s, c⟩ := by show (0 : Nat) ≠ 9223372036854775808; decide
theorem ky_int (n : Int) : Ky ⟨2, n, 0, ⟨#[]⟩, 0⟩ := ⟨by unfold keyB Vl.ok validB; simp [fz_nil], ⟨by show (0 : Nat) < _; decide, Nat.zero_le _⟩⟩
theorem ok_int (n : Int) : (⟨2, n, 0, ⟨#[]⟩, 0⟩ : Vl).ok = true := by unfold Vl.ok validB; simp [fz_nil]
theorem ok_nil : (⟨0, 0, 0, ⟨#[]⟩, 0⟩ : Vl).ok = true := by unfold Vl.ok validB; simp [fz_nil]
theorem wf_int (n : Int) : Wf ⟨2, n, 0, ⟨#[]⟩, 0⟩ := ⟨by show (0 : Nat) < _; decide, Nat.zero_le _⟩
theorem wf_cat {a b : ByteArray} (ha : a.size ≤ 4000) (hb : b.size ≤ 4000) : Wf ⟨4, 0, 0, a ++ b, 0⟩ := ⟨by show (0 : Nat) < _; decide, by show (a ++ b).size ≤ _; rw [ByteArray.size_append]; unfold maxLen; omega⟩

/-- A key behind its code. -/
def HeldKd (x : Nat) (k : Vl) (W : World) : Prop := W.cell? ⟨x, 1, none⟩ = some (.int .i64 k.kind) ∧ W.cell? ⟨x, 2, none⟩ = some (.int .i64 k.num) ∧ W.cell? ⟨x, 3, none⟩ = some (.float .f64 k.flt) ∧ W.cell? ⟨x, 4, none⟩ = some (.string k.str) ∧ W.cell? ⟨x, 5, none⟩ = some (.int .i64 k.ref)
theorem HeldKd.of {x : Nat} {k : Vl} {W W' : World} (h : HeldKd x k W) (e : ∀ q, W'.cell? ⟨x, q, none⟩ = W.cell? ⟨x, q, none⟩) : HeldKd x k W' :=
  ⟨(e _).trans h.1, (e _).trans h.2.1, (e _).trans h.2.2.1, (e _).trans h.2.2.2.1, (e _).trans h.2.2.2.2⟩

/-- A dict that is drawn at c. -/
structure Dn (w : World) (c : Nat) (v0 v1 v2 : Value) (d : Dc) : Prop where
  mu : DMut w c 0 (c + 1) v0 v1 v2 d
  inv : Inv Ky hN d
  wf : WfD d
  nz : LogQ NzP d
theorem Dn.gr {w w' : World} {c b : Nat} {v0 v1 v2 : Value} {d : Dc} (h : Dn w c v0 v1 v2 d) (hg : Gr b w w') (hc : b < c) : Dn w' c v0 v1 v2 d := ⟨h.mu.gr hg (by omega) (by omega), h.inv, h.wf, h.nz⟩
theorem Dn.below {w w' : World} {c : Nat} {v0 v1 v2 : Value} {d : Dc} (h : Dn w c v0 v1 v2 d) (hg : Below w.heap.size w w') : Dn w' c v0 v1 v2 d := ⟨h.mu.below hg, h.inv, h.wf, h.nz⟩

theorem Dn.put {w : World} {c : Nat} {v0 v1 v2 : Value} {d : Dc} (h : Dn w c v0 v1 v2 d) (hm : d.m ≤ 4000000) {k v : Vl} (hk : Ky k) (hv : v.ok = true) (hvw : Wf v) (hkz : Nz k) :
    Calls Tryz.prog 66 #[.pointer (some ⟨c, 0, none⟩), V k.kind k.num k.flt k.str k.ref, V v.kind v.num v.flt v.str v.ref] w fun e w' => ((∃ u, e = .returned u) ∧ ∃ u0 u1 u2, Dn w' c u0 u1 u2 (putD hN d k v) ∧ (putD hN d k v).m ≤ d.m + 4002 ∧ (putD hN d k v).turns ≤ d.turns + 1) ∧ Below c w w' ∧ ∀ x, c < x → x < w.heap.size → ¬ Own3 v0 v1 v2 x → w'.heap[x]? = w.heap[x]? := by
  refine (l1put_any hN Ky keyLaw c 0 (c + 1) v0 v1 v2 d k v w h.mu (h.inv.small (by omega)) h.inv hsS_all hk hk.1 hv hm).mono ?_
  rintro e w' ⟨hu, u0, u1, u2, hM, hs⟩
  exact ⟨⟨hu, u0, u1, u2, ⟨hM, putD_inv keyLaw h.inv hk hk.1 hv, h.wf.put hk.2 hvw, NzP.put h.nz hkz⟩, putD_m keyLaw h.inv hk, (put_turns keyLaw h.inv hk hk.1 hv).2⟩, hs.below (Nat.le_refl _) (Nat.le_of_lt h.mu.lt) (fun b e => by have := (h.mu.own3 e).1; omega), fun x h1 h2 h3 => hs.block x h2 (by omega) h3⟩

set_option maxRecDepth 100000 in
set_option maxHeartbeats 8000000 in
theorem drawnDict_any (b N : Nat) (w : World) (h : Cu b N w) (hB : N ≤ 1099511000000) :
    Calls Tryz.prog 44 #[.pointer (some ⟨b, 0, none⟩)] w fun e w' => (∃ v0 v1 v2 d, e = .returned (.pointer (some ⟨w.heap.size, 0, none⟩)) ∧ Dn w' w.heap.size v0 v1 v2 d ∧ d.m ≤ 2400000 ∧ d.turns ≤ 600) ∧ Cu b (N + 4000) w' ∧ Gr b w w' := by
  have hbl := h.lt
  have hb0 : Below w.heap.size w (w.alloc (.cells #[.slice none 0 0, .slice none 0 0, .slice none 0 0, .int .i64 0, .int .i64 0, .int .i64 0] 26)) := (Below.refl _ _).alloc (Nat.le_refl _) _
  have hD0 : Dn (w.alloc (.cells #[.slice none 0 0, .slice none 0 0, .slice none 0 0, .int .i64 0, .int .i64 0, .int .i64 0] 26)) w.heap.size (.slice none 0 0) (.slice none 0 0) (.slice none 0 0) noD :=
    ⟨⟨by simp, by simp [go_sem], by simp [go_sem], by simp [go_sem], by simp [go_sem, noD], by simp [go_sem, noD], by simp [go_sem, noD], fun q => by simp [go_sem], ⟨rfl, .inl ⟨rfl, rfl⟩⟩, ⟨rfl, .inl ⟨rfl, rfl⟩⟩, ⟨rfl, .inl ⟨rfl, rfl⟩⟩, fun q e => (by cases e), fun e => (by rcases e with e | e | e <;> cases e), by simp⟩, noD_inv, WfD.noD, NzP.noD⟩
  have HC := hide (h.below hb0 hbl)
  have HG := hide (Gr.of_below (b := b) hb0)
  have HD := hide hD0
  clear h hb0 hD0
  go_enter Tryz.func44, Tryz.ntmps44
  go_wp2_with fail
  refine (pick_any b N 6 _ (unhide HC) (by omega) (by omega) (by omega)).mono ?_
  rintro e w1 ⟨⟨mo, rfl, hmo0, hmo1⟩, hc1, hs1⟩
  have HC1 := hide hc1
  have HG1 := hide ((unhide HG).trans hs1.gr)
  have HD1 := hide ((unhide HD).gr hs1.gr hbl)
  clear hc1 hs1 HC HG HD
  go_wp2_with fail
  refine (pick_any b (N + 2) 60 _ (unhide HC1) (by omega) (by omega) (by omega)).mono ?_
  rintro e w2 ⟨⟨n0, rfl, hn0, hn1⟩, hc2, hs2⟩
  have HC2 := hide hc2
  have HG2 := hide ((unhide HG1).trans hs2.gr)
  have HD2 := hide ((unhide HD1).gr hs2.gr hbl)
  clear hc2 hs2 HC1 HG1 HD1
  obtain ⟨m0, hm0⟩ : ∃ m0 : Nat, n0 = m0 := ⟨n0.toNat, by omega⟩
  subst hm0
  go_wp2_with fail
  go_loopw [5] (fun v wr => ∃ (left k : Nat) (v0 v1 v2 : Value) (d : Dc), v = .int .i64 left ∧ left + k ≤ 60 ∧ Dn wr w.heap.size v0 v1 v2 d ∧ d.m ≤ 4002 * k ∧ d.turns ≤ (k : Int) ∧ Cu b (N + 4 + 24 * k) wr ∧ Gr b w wr) (fun v _ => (intOf v).toNat)
  case atStart => exact ⟨m0, 0, _, _, _, noD, rfl, by omega, unhide HD2, Nat.zero_le _, Int.le_refl _, unhide HC2, unhide HG2⟩
  case round =>
    obtain ⟨left, k, v0, v1, v2, d, rfl, hlk, hD, hm, htn, hC, hG⟩ := hrel
    have hsz : w.heap.size < wr.heap.size := hD.mu.lt
    have hbr := hC.lt
    have HD := hide hD
    have HC := hide hC
    have HG := hide hG
    clear hD hC hG HD2 HC2 HG2
    by_cases hl0 : left = 0
    · subst hl0
      go_wp2_with fail
      refine (pick_any b (N + 4 + 24 * k) 30 _ (unhide HC) (by omega) (by omega) (by omega)).mono ?_
      rintro e w3 ⟨⟨y, rfl, hy0, hy1⟩, hc3, hs3⟩
      have HC3 := hide hc3
      have HG3 := hide ((unhide HG).trans hs3.gr)
      have HD3 := hide ((unhide HD).gr hs3.gr hbl)
      clear hc3 hs3 HC HG HD
      by_cases hy : y = 0
      · subst hy
        go_wp2_with fail
        go_loopw [8] (fun v wz => ∃ (j : Nat) (v0 v1 v2 : Value) (d : Dc), v = .int .i64 j ∧ j ≤ 501 ∧ Dn wz w.heap.size v0 v1 v2 d ∧ d.m ≤ 4002 * (60 + j) ∧ d.turns ≤ (60 + j : Int) ∧ Cu b (N + 2000) wz ∧ Gr b w wz) (fun v _ => (501 - intOf v).toNat)
        case atStart => exact ⟨0, v0, v1, v2, d, rfl, by omega, unhide HD3, by omega, by omega, (unhide HC3).mono (by omega), unhide HG3⟩
        case round =>
          clear HC3 HG3 HD3
          obtain ⟨j, s0, s1, s2, d', rfl, hj, hD, hm', htn', hC, hG⟩ := hrel
          have hsz' := hD.mu.lt
          have HD := hide hD
          have HC := hide hC
          have HG := hide hG
          clear hD hC hG
          by_cases hj1 : j = 501
          · subst hj1
            go_wp2
            refine bodyPost_ret (v := .pointer (some ⟨w.heap.size, 0, none⟩)) (by simp [results, Tryz.results44, go_sem]) rfl ?_
            exact ⟨⟨s0, s1, s2, d', rfl, unhide HD, by omega, by omega⟩, (unhide HC).mono (by omega), unhide HG⟩
          have hj2 : (j : Int) < 501 := by omega
          go_wp2_with fail
          refine (l1int_any (j * 3) _).mono ?_
          rintro e w4 ⟨rfl, hb4⟩
          have HD4 := hide ((unhide HD).below hb4)
          have HC4 := hide ((unhide HC).below hb4 (unhide HC).lt)
          have HG4 := hide ((unhide HG).trans (Gr.of_below hb4))
          clear hb4 HD HC HG
          go_wp2_with fail
          refine (l1int_any 1 _).mono ?_
          rintro e w5 ⟨rfl, hb5⟩
          have HD5 := hide ((unhide HD4).below hb5)
          have HC5 := hide ((unhide HC4).below hb5 (unhide HC4).lt)
          have HG5 := hide ((unhide HG4).trans (Gr.of_below hb5))
          clear hb5 HD4 HC4 HG4
          go_wp2_with fail
          refine ((unhide HD5).put (k := ⟨2, j * 3, 0, ⟨#[]⟩, 0⟩) (v := ⟨2, 1, 0, ⟨#[]⟩, 0⟩) (by omega) (ky_int _) (ok_int _) (wf_int _) nz_zero).mono ?_
          rintro e w6 ⟨⟨⟨u, rfl⟩, u0, u1, u2, hD6, hm6, ht6⟩, hb6, -⟩
          have HC6 := hide ((unhide HC5).below hb6 hbl)
          have HG6 := hide ((unhide HG5).then_below hb6 (Nat.le_refl _))
          have HD6 := hide hD6
          clear hb6 hD6 HD5 HC5 HG5
          go_wp2
          go_roundw
          case rel => exact ⟨j + 1, u0, u1, u2, _, rfl, by omega, unhide HD6, by omega, by omega, unhide HC6, unhide HG6⟩
          case measure => simp [intOf]; omega
      have hyd : (y == 0) = false := by simp [hy]
      go_wp2
      refine bodyPost_ret (v := .pointer (some ⟨w.heap.size, 0, none⟩)) (by simp [results, Tryz.results44, go_sem]) rfl ?_
      exact ⟨⟨v0, v1, v2, d, rfl, unhide HD3, by omega, by omega⟩, (unhide HC3).mono (by omega), unhide HG3⟩
    have hl1 : (0 : Int) < left := by omega
    go_wp2_with fail
    refine (key_any b (N + 4 + 24 * k) _ (unhide HC) (by omega)).mono ?_
    rintro e w1 ⟨⟨k0, k1, k2, k3, k4, rfl, hks, hkf⟩, hc1, hg1⟩
    have hz1 := hg1.size
    have hb1 := hc1.lt
    have HC1 := hide hc1
    have HR1 := hide hg1
    clear hc1 hg1 HC
    have hba : Below w1.heap.size w1 (w1.alloc (.cells #[.int .i64 k0, .int .i64 k1, .float .f64 k2, .string k3, .int .i64 k4] 30)) := (Below.refl w1.heap.size w1).alloc (Nat.le_refl _) _
    by_cases hmode : mo = 0
    · subst hmode
      go_wp2_with fail
      refine (pick_any b (N + 4 + 24 * k + 10) 40 _ ((unhide HC1).below hba hb1) (by omega) (by omega) (by omega)).mono ?_
      rintro e w2 ⟨⟨x, rfl, hx0, hx1⟩, hc2, hs2⟩
      have HC2 := hide hc2
      have HR2 := hide (((unhide HR1).then_below hba hz1).trans hs2.gr)
      have hz2 : w1.heap.size < w2.heap.size := by rw [hs2.size]; simp
      have rc2 : ∀ o, w2.cell? ⟨w1.heap.size, o, none⟩ = (w1.alloc (.cells #[.int .i64 k0, .int .i64 k1, .float .f64 k2, .string k3, .int .i64 k4] 30)).cell? ⟨w1.heap.size, o, none⟩ := fun o => hs2.cell _ _ (by omega)
      have rf2 : ∀ o, w2.frozen? ⟨w1.heap.size, o, none⟩ = (w1.alloc (.cells #[.int .i64 k0, .int .i64 k1, .float .f64 k2, .string k3, .int .i64 k4] 30)).frozen? ⟨w1.heap.size, o, none⟩ := fun o => hs2.frozen _ _ (by omega)
      clear hc2 hs2 hba HC1 HR1
      go_wp2_with fail
      refine (l1int_any (1 + x) _).mono ?_
      rintro e w3 ⟨rfl, hb3⟩
      have HC3 := hide ((unhide HC2).below hb3 (unhide HC2).lt)
      have HR3 := hide ((unhide HR2).trans (Gr.of_below hb3))
      have hz3 : w1.heap.size ≤ w3.heap.size := Nat.le_trans (Nat.le_of_lt hz2) hb3.size
      have rc : ∀ o, w3.cell? ⟨w1.heap.size, o, none⟩ = (w1.alloc (.cells #[.int .i64 k0, .int .i64 k1, .float .f64 k2, .string k3, .int .i64 k4] 30)).cell? ⟨w1.heap.size, o, none⟩ := fun o => (hb3.cell (p := ⟨w1.heap.size, o, none⟩) hz2).trans (rc2 o)
      have rf : ∀ o, w3.frozen? ⟨w1.heap.size, o, none⟩ = (w1.alloc (.cells #[.int .i64 k0, .int .i64 k1, .float .f64 k2, .string k3, .int .i64 k4] 30)).frozen? ⟨w1.heap.size, o, none⟩ := fun o => (hb3.frozen (p := ⟨w1.heap.size, o, none⟩) hz2).trans (rf2 o)
      clear hb3 rc2 rf2 HC2 HR2
      go_wp2_with fail
      obtain ⟨cd, kv, hkv, hky⟩ := keyedK ⟨2, 1 + x, 0, ⟨#[]⟩, 0⟩ (wf_int _)
      refine (skey_any (2) (1 + x) (0) (⟨#[]⟩) (0) _).mono ?_
      rintro e w4 ⟨rfl, hb4⟩
      have hNz : Nz kv := keyV_nz hkv nz_zero
      have hkv : keyV (2) (1 + x) (0) (⟨#[]⟩) (0) = KV cd kv.kind kv.num kv.flt kv.str kv.ref := hkv
      rw [hkv]
      have hbq := below_set5 (Below.refl w1.heap.size w3) w1.heap.size (Nat.le_refl _) (.int .i64 2) (.int .i64 (1 + x)) (.float .f64 0) (.string ⟨#[]⟩) (.int .i64 0)
      have hb5 := hbq.trans (hb4.mono (Nat.le_trans hz3 hbq.size))
      have hz4 : w1.heap.size ≤ w4.heap.size := Nat.le_trans hz3 hb5.size
      have HC4 := hide ((unhide HC3).below hb5 hb1)
      have HR4 := hide ((unhide HR3).then_below hb5 hz1)
      clear hb5 hb4 hbq hkv
      by_cases hc0 : cd = 0
      case neg =>
        have hc' : (cd != 0) = true := by simp [hc0]
        go_wp2
        go_roundw
        case rel =>
          have hR := (unhide HR4).then_below ((Below.refl w4.heap.size w4).alloc (Nat.le_refl _) (.cells #[.int .i64 cd, .int .i64 kv.kind, .int .i64 kv.num, .float .f64 kv.flt, .string kv.str, .int .i64 kv.ref] 34)) (Nat.le_trans hz1 hz4)
          exact ⟨left - 1, k + 1, v0, v1, v2, d, by congr 1; omega, by omega, (unhide HD).gr hR hbl, by omega, by omega, ((unhide HC4).mono (by omega)).below ((Below.refl w4.heap.size w4).alloc (Nat.le_refl _) _) (unhide HC4).lt, (unhide HG).trans hR⟩
        case measure => simp [intOf]; omega
      subst hc0
      have hKy := hky rfl
      clear hky
      have hba : Below w4.heap.size w4 (w4.alloc (.cells #[.int .i64 0, .int .i64 kv.kind, .int .i64 kv.num, .float .f64 kv.flt, .string kv.str, .int .i64 kv.ref] 34)) := (Below.refl w4.heap.size w4).alloc (Nat.le_refl _) _
      have HCA := hide ((unhide HC4).below hba (unhide HC4).lt)
      have HRA := hide ((unhide HR4).then_below hba (Nat.le_trans hz1 hz4))
      have hxb : b < w4.heap.size := (unhide HC4).lt
      clear hba
      go_wp2_with fail
      refine (pick_any b (N + 4 + 24 * k + 12) 3 _ (unhide HCA) (by omega) (by omega) (by omega)).mono ?_
      rintro e w5 ⟨⟨y, rfl, hy0, hy1⟩, hc5, hs5⟩
      have hz5 : w4.heap.size < w5.heap.size := by rw [hs5.size]; simp
      have hX5 : HeldKd w4.heap.size kv w5 := HeldKd.of (W := w4.alloc (.cells #[.int .i64 0, .int .i64 kv.kind, .int .i64 kv.num, .float .f64 kv.flt, .string kv.str, .int .i64 kv.ref] 34)) ⟨by simp [go_sem], by simp [go_sem], by simp [go_sem], by simp [go_sem], by simp [go_sem]⟩ (fun q => hs5.cell _ _ (by omega))
      have HC5 := hide hc5
      have HR5 := hide ((unhide HRA).trans hs5.gr)
      clear hc5 hs5 HCA HRA HC4 HR4
      have hxo : ¬ Own3 v0 v1 v2 w4.heap.size := fun e => by have := ((unhide HD).mu.own3 e).2; omega
      by_cases hy : 0 < y
      · have hyd : decide (0 < y) = true := by simpa using hy
        have hS0 : HeldKd w4.heap.size kv w5.drew := hX5
        have HI : Hid (∀ n : Int, Calls Tryz.prog 59 #[.int .i64 n] w5.drew fun e w' => e = .returned (V 2 n 0 ⟨#[]⟩ 0) ∧ HeldKd w4.heap.size kv w' ∧ Below w5.heap.size w5 w') := hide (fun n => (l1int_any n w5.drew).mono (by
          rintro e w' ⟨h1, h2⟩
          exact ⟨h1, hX5.of (fun q => h2.cell (p := ⟨w4.heap.size, q, none⟩) hz5), Below.trans (Below.refl _ _).drew h2⟩))
        clear hX5
        go_wp2_with fail
        refine wpN_held (HeldKd w4.heap.size kv) (by kernel_rfl) ?_
        change wpAnyH _ _ _ _ _ _ _ _ (World.drew _)
        refine tk 0 (v := ?_) rfl (by kernel_rfl) (by rfl) ?_ (by assumption) ?_
        rotate_left
        · intro w' ⟨s0, s1, s2, s3, s4⟩; go_simp; first | done | with_reducible rfl
        simp only [Act.put, List.setIfInBounds_toArray, List.set_cons_succ, List.set_cons_zero]
        refine tk 1 (v := ?_) rfl (by kernel_rfl) (by rfl) ?_ (by assumption) ?_
        rotate_left
        · intro w' ⟨s0, s1, s2, s3, s4⟩; go_simp; first | done | with_reducible rfl
        simp only [Act.put, List.setIfInBounds_toArray, List.set_cons_succ, List.set_cons_zero]
        refine tk 2 (v := ?_) rfl (by kernel_rfl) (by rfl) ?_ (by assumption) ?_
        rotate_left
        · intro w' ⟨s0, s1, s2, s3, s4⟩; go_simp; first | done | with_reducible rfl
        simp only [Act.put, List.setIfInBounds_toArray, List.set_cons_succ, List.set_cons_zero]
        refine tk 3 (v := ?_) rfl (by kernel_rfl) (by rfl) ?_ (by assumption) ?_
        rotate_left
        · intro w' ⟨s0, s1, s2, s3, s4⟩; go_simp; first | done | with_reducible rfl
        simp only [Act.put, List.setIfInBounds_toArray, List.set_cons_succ, List.set_cons_zero]
        refine wpAnyH_ready (rs := [4]) (by kernel_rfl) (by simp) ?_
        refine AllReadyH.cons rfl (fun K hK => ?_) AllReadyH.nil
        go_simp
        refine (unhide HI _).mono ?_
        rintro e w6 ⟨rfl, hS6, hb6⟩
        refine hK.out _ _ hS6 (fun _ => ?_)
        clear hK K hS0 HI
        have hR6 := (unhide HR5).then_below hb6 (by omega)
        have hz6 := hb6.size
        refine wpAnyH_ready (rs := [5]) (by kernel_rfl) (by simp) ?_
        refine AllReadyH.cons rfl (fun K hK => ?_) AllReadyH.nil
        go_simp
        refine (((unhide HD).gr hR6 hbl).put (k := kv) (v := ⟨2, left, 0, ⟨#[]⟩, 0⟩) (by omega) hKy (ok_int _) (wf_int _) hNz).mono ?_
        rintro e w7 ⟨⟨⟨u, rfl⟩, u0, u1, u2, hD7, hm7, ht7⟩, hb7, ho7⟩
        have hS7 : HeldKd w4.heap.size kv w7 := hS6.of (fun q => World.cell?_of_block (ho7 w4.heap.size (by omega) (by omega) hxo))
        have HD7 := hide hD7
        have HC7 := hide (((unhide HC5).below hb6 (unhide HC5).lt).below hb7 hbl)
        have HG7 := hide (((unhide HG).trans hR6).then_below hb7 (Nat.le_refl _))
        refine hK.out _ _ hS7 (fun _ => ?_)
        clear hK K hS7 hD7 hb7 ho7 hR6 hS6 hb6
        refine wpAnyH_done (by kernel_rfl) ?_ _
        refine QN.normal ?_
        go_wp2
        go_roundw
        case rel => exact ⟨left - 1, k + 1, u0, u1, u2, _, by congr 1; omega, by omega, unhide HD7, by omega, by omega, (unhide HC7).mono (by omega), unhide HG7⟩
        case measure => simp [intOf]; omega
      · have hyd : decide (0 < y) = false := by simpa using hy
        have e1 := hX5.1
        have e2 := hX5.2.1
        have e3 := hX5.2.2.1
        have e4 := hX5.2.2.2.1
        have e5 := hX5.2.2.2.2
        go_wp2_with fail
        refine (((unhide HD).gr (unhide HR5) hbl).put (k := kv) (v := ⟨0, 0, 0, ⟨#[]⟩, 0⟩) (by omega) hKy ok_nil ⟨by decide, by decide⟩ hNz).mono ?_
        rintro e w7 ⟨⟨⟨u, rfl⟩, u0, u1, u2, hD7, hm7, ht7⟩, hb7, ho7⟩
        have HD7 := hide hD7
        have HC7 := hide ((unhide HC5).below hb7 hbl)
        have HG7 := hide (((unhide HG).trans (unhide HR5)).then_below hb7 (Nat.le_refl _))
        clear hD7 hb7 ho7 e1 e2 e3 e4 e5 hX5
        go_wp2
        go_roundw
        case rel => exact ⟨left - 1, k + 1, u0, u1, u2, _, by congr 1; omega, by omega, unhide HD7, by omega, by omega, (unhide HC7).mono (by omega), unhide HG7⟩
        case measure => simp [intOf]; omega
    by_cases hmode1 : mo = 1
    · subst hmode1
      go_wp2_with fail
      refine (word_any b (N + 4 + 24 * k + 10) _ ((unhide HC1).below hba hb1) (by omega)).mono ?_
      rintro e wa ⟨⟨sa, rfl, hsa⟩, hca, hga⟩
      have HCa := hide hca
      have HRa := hide (((unhide HR1).then_below hba hz1).trans hga)
      have hza : w1.heap.size < wa.heap.size := Nat.lt_of_lt_of_le (by simp) hga.size
      have rca : ∀ o, wa.cell? ⟨w1.heap.size, o, none⟩ = (w1.alloc (.cells #[.int .i64 k0, .int .i64 k1, .float .f64 k2, .string k3, .int .i64 k4] 30)).cell? ⟨w1.heap.size, o, none⟩ := fun o => hga.cell _ _ (by omega) (by simp)
      have rfa : ∀ o, wa.frozen? ⟨w1.heap.size, o, none⟩ = (w1.alloc (.cells #[.int .i64 k0, .int .i64 k1, .float .f64 k2, .string k3, .int .i64 k4] 30)).frozen? ⟨w1.heap.size, o, none⟩ := fun o => hga.frozen _ _ (by omega) (by simp)
      clear hca hga hba HC1 HR1
      go_wp2_with fail
      refine (word_any b (N + 4 + 24 * k + 14) _ (unhide HCa) (by omega)).mono ?_
      rintro e w2 ⟨⟨sb, rfl, hsb⟩, hc2, hg2⟩
      have HC2 := hide hc2
      have HR2 := hide ((unhide HRa).trans hg2)
      have hz2 : w1.heap.size < w2.heap.size := Nat.lt_of_lt_of_le hza hg2.size
      have rc2 : ∀ o, w2.cell? ⟨w1.heap.size, o, none⟩ = (w1.alloc (.cells #[.int .i64 k0, .int .i64 k1, .float .f64 k2, .string k3, .int .i64 k4] 30)).cell? ⟨w1.heap.size, o, none⟩ := fun o => (hg2.cell _ _ (by omega) hza).trans (rca o)
      have rf2 : ∀ o, w2.frozen? ⟨w1.heap.size, o, none⟩ = (w1.alloc (.cells #[.int .i64 k0, .int .i64 k1, .float .f64 k2, .string k3, .int .i64 k4] 30)).frozen? ⟨w1.heap.size, o, none⟩ := fun o => (hg2.frozen _ _ (by omega) hza).trans (rfa o)
      clear hc2 hg2 rca rfa HCa HRa
      go_wp2_with fail
      refine (l1str_any (sa ++ sb) _).mono ?_
      rintro e w3 ⟨rfl, hb3⟩
      have HC3 := hide ((unhide HC2).below hb3 (unhide HC2).lt)
      have HR3 := hide ((unhide HR2).trans (Gr.of_below hb3))
      have hz3 : w1.heap.size ≤ w3.heap.size := Nat.le_trans (Nat.le_of_lt hz2) hb3.size
      have rc : ∀ o, w3.cell? ⟨w1.heap.size, o, none⟩ = (w1.alloc (.cells #[.int .i64 k0, .int .i64 k1, .float .f64 k2, .string k3, .int .i64 k4] 30)).cell? ⟨w1.heap.size, o, none⟩ := fun o => (hb3.cell (p := ⟨w1.heap.size, o, none⟩) hz2).trans (rc2 o)
      have rf : ∀ o, w3.frozen? ⟨w1.heap.size, o, none⟩ = (w1.alloc (.cells #[.int .i64 k0, .int .i64 k1, .float .f64 k2, .string k3, .int .i64 k4] 30)).frozen? ⟨w1.heap.size, o, none⟩ := fun o => (hb3.frozen (p := ⟨w1.heap.size, o, none⟩) hz2).trans (rf2 o)
      clear hb3 rc2 rf2 HC2 HR2
      go_wp2_with fail
      obtain ⟨cd, kv, hkv, hky⟩ := keyedK ⟨4, 0, 0, sa ++ sb, 0⟩ (wf_cat hsa hsb)
      refine (skey_any (4) (0) (0) (sa ++ sb) (0) _).mono ?_
      rintro e w4 ⟨rfl, hb4⟩
      have hNz : Nz kv := keyV_nz hkv nz_zero
      have hkv : keyV (4) (0) (0) (sa ++ sb) (0) = KV cd kv.kind kv.num kv.flt kv.str kv.ref := hkv
      rw [hkv]
      have hbq := below_set5 (Below.refl w1.heap.size w3) w1.heap.size (Nat.le_refl _) (.int .i64 4) (.int .i64 0) (.float .f64 0) (.string (sa ++ sb)) (.int .i64 0)
      have hb5 := hbq.trans (hb4.mono (Nat.le_trans hz3 hbq.size))
      have hz4 : w1.heap.size ≤ w4.heap.size := Nat.le_trans hz3 hb5.size
      have HC4 := hide ((unhide HC3).below hb5 hb1)
      have HR4 := hide ((unhide HR3).then_below hb5 hz1)
      clear hb5 hb4 hbq hkv
      by_cases hc0 : cd = 0
      case neg =>
        have hc' : (cd != 0) = true := by simp [hc0]
        go_wp2
        go_roundw
        case rel =>
          have hR := (unhide HR4).then_below ((Below.refl w4.heap.size w4).alloc (Nat.le_refl _) (.cells #[.int .i64 cd, .int .i64 kv.kind, .int .i64 kv.num, .float .f64 kv.flt, .string kv.str, .int .i64 kv.ref] 34)) (Nat.le_trans hz1 hz4)
          exact ⟨left - 1, k + 1, v0, v1, v2, d, by congr 1; omega, by omega, (unhide HD).gr hR hbl, by omega, by omega, ((unhide HC4).mono (by omega)).below ((Below.refl w4.heap.size w4).alloc (Nat.le_refl _) _) (unhide HC4).lt, (unhide HG).trans hR⟩
        case measure => simp [intOf]; omega
      subst hc0
      have hKy := hky rfl
      clear hky
      have hba : Below w4.heap.size w4 (w4.alloc (.cells #[.int .i64 0, .int .i64 kv.kind, .int .i64 kv.num, .float .f64 kv.flt, .string kv.str, .int .i64 kv.ref] 34)) := (Below.refl w4.heap.size w4).alloc (Nat.le_refl _) _
      have HCA := hide ((unhide HC4).below hba (unhide HC4).lt)
      have HRA := hide ((unhide HR4).then_below hba (Nat.le_trans hz1 hz4))
      have hxb : b < w4.heap.size := (unhide HC4).lt
      clear hba
      go_wp2_with fail
      refine (pick_any b (N + 4 + 24 * k + 18) 3 _ (unhide HCA) (by omega) (by omega) (by omega)).mono ?_
      rintro e w5 ⟨⟨y, rfl, hy0, hy1⟩, hc5, hs5⟩
      have hz5 : w4.heap.size < w5.heap.size := by rw [hs5.size]; simp
      have hX5 : HeldKd w4.heap.size kv w5 := HeldKd.of (W := w4.alloc (.cells #[.int .i64 0, .int .i64 kv.kind, .int .i64 kv.num, .float .f64 kv.flt, .string kv.str, .int .i64 kv.ref] 34)) ⟨by simp [go_sem], by simp [go_sem], by simp [go_sem], by simp [go_sem], by simp [go_sem]⟩ (fun q => hs5.cell _ _ (by omega))
      have HC5 := hide hc5
      have HR5 := hide ((unhide HRA).trans hs5.gr)
      clear hc5 hs5 HCA HRA HC4 HR4
      have hxo : ¬ Own3 v0 v1 v2 w4.heap.size := fun e => by have := ((unhide HD).mu.own3 e).2; omega
      by_cases hy : 0 < y
      · have hyd : decide (0 < y) = true := by simpa using hy
        have hS0 : HeldKd w4.heap.size kv w5.drew := hX5
        have HI : Hid (∀ n : Int, Calls Tryz.prog 59 #[.int .i64 n] w5.drew fun e w' => e = .returned (V 2 n 0 ⟨#[]⟩ 0) ∧ HeldKd w4.heap.size kv w' ∧ Below w5.heap.size w5 w') := hide (fun n => (l1int_any n w5.drew).mono (by
          rintro e w' ⟨h1, h2⟩
          exact ⟨h1, hX5.of (fun q => h2.cell (p := ⟨w4.heap.size, q, none⟩) hz5), Below.trans (Below.refl _ _).drew h2⟩))
        clear hX5
        go_wp2_with fail
        refine wpN_held (HeldKd w4.heap.size kv) (by kernel_rfl) ?_
        change wpAnyH _ _ _ _ _ _ _ _ (World.drew _)
        refine tk 0 (v := ?_) rfl (by kernel_rfl) (by rfl) ?_ (by assumption) ?_
        rotate_left
        · intro w' ⟨s0, s1, s2, s3, s4⟩; go_simp; first | done | with_reducible rfl
        simp only [Act.put, List.setIfInBounds_toArray, List.set_cons_succ, List.set_cons_zero]
        refine tk 1 (v := ?_) rfl (by kernel_rfl) (by rfl) ?_ (by assumption) ?_
        rotate_left
        · intro w' ⟨s0, s1, s2, s3, s4⟩; go_simp; first | done | with_reducible rfl
        simp only [Act.put, List.setIfInBounds_toArray, List.set_cons_succ, List.set_cons_zero]
        refine tk 2 (v := ?_) rfl (by kernel_rfl) (by rfl) ?_ (by assumption) ?_
        rotate_left
        · intro w' ⟨s0, s1, s2, s3, s4⟩; go_simp; first | done | with_reducible rfl
        simp only [Act.put, List.setIfInBounds_toArray, List.set_cons_succ, List.set_cons_zero]
        refine tk 3 (v := ?_) rfl (by kernel_rfl) (by rfl) ?_ (by assumption) ?_
        rotate_left
        · intro w' ⟨s0, s1, s2, s3, s4⟩; go_simp; first | done | with_reducible rfl
        simp only [Act.put, List.setIfInBounds_toArray, List.set_cons_succ, List.set_cons_zero]
        refine wpAnyH_ready (rs := [4]) (by kernel_rfl) (by simp) ?_
        refine AllReadyH.cons rfl (fun K hK => ?_) AllReadyH.nil
        go_simp
        refine (unhide HI _).mono ?_
        rintro e w6 ⟨rfl, hS6, hb6⟩
        refine hK.out _ _ hS6 (fun _ => ?_)
        clear hK K hS0 HI
        have hR6 := (unhide HR5).then_below hb6 (by omega)
        have hz6 := hb6.size
        refine wpAnyH_ready (rs := [5]) (by kernel_rfl) (by simp) ?_
        refine AllReadyH.cons rfl (fun K hK => ?_) AllReadyH.nil
        go_simp
        refine (((unhide HD).gr hR6 hbl).put (k := kv) (v := ⟨2, left, 0, ⟨#[]⟩, 0⟩) (by omega) hKy (ok_int _) (wf_int _) hNz).mono ?_
        rintro e w7 ⟨⟨⟨u, rfl⟩, u0, u1, u2, hD7, hm7, ht7⟩, hb7, ho7⟩
        have hS7 : HeldKd w4.heap.size kv w7 := hS6.of (fun q => World.cell?_of_block (ho7 w4.heap.size (by omega) (by omega) hxo))
        have HD7 := hide hD7
        have HC7 := hide (((unhide HC5).below hb6 (unhide HC5).lt).below hb7 hbl)
        have HG7 := hide (((unhide HG).trans hR6).then_below hb7 (Nat.le_refl _))
        refine hK.out _ _ hS7 (fun _ => ?_)
        clear hK K hS7 hD7 hb7 ho7 hR6 hS6 hb6
        refine wpAnyH_done (by kernel_rfl) ?_ _
        refine QN.normal ?_
        go_wp2
        go_roundw
        case rel => exact ⟨left - 1, k + 1, u0, u1, u2, _, by congr 1; omega, by omega, unhide HD7, by omega, by omega, (unhide HC7).mono (by omega), unhide HG7⟩
        case measure => simp [intOf]; omega
      · have hyd : decide (0 < y) = false := by simpa using hy
        have e1 := hX5.1
        have e2 := hX5.2.1
        have e3 := hX5.2.2.1
        have e4 := hX5.2.2.2.1
        have e5 := hX5.2.2.2.2
        go_wp2_with fail
        refine (((unhide HD).gr (unhide HR5) hbl).put (k := kv) (v := ⟨0, 0, 0, ⟨#[]⟩, 0⟩) (by omega) hKy ok_nil ⟨by decide, by decide⟩ hNz).mono ?_
        rintro e w7 ⟨⟨⟨u, rfl⟩, u0, u1, u2, hD7, hm7, ht7⟩, hb7, ho7⟩
        have HD7 := hide hD7
        have HC7 := hide ((unhide HC5).below hb7 hbl)
        have HG7 := hide (((unhide HG).trans (unhide HR5)).then_below hb7 (Nat.le_refl _))
        clear hD7 hb7 ho7 e1 e2 e3 e4 e5 hX5
        go_wp2
        go_roundw
        case rel => exact ⟨left - 1, k + 1, u0, u1, u2, _, by congr 1; omega, by omega, unhide HD7, by omega, by omega, (unhide HC7).mono (by omega), unhide HG7⟩
        case measure => simp [intOf]; omega
    have hm0 : (mo == 0) = false := by simp [hmode]
    have hm1 : (mo == 1) = false := by simp [hmode1]
    go_wp2_with fail
    obtain ⟨cd, kv, hkv, hky⟩ := keyedK ⟨k0, k1, k2, k3, k4⟩ ⟨hkf.1, Nat.le_trans hks (by decide)⟩
    refine (skey_any (k0) (k1) (k2) (k3) (k4) _).mono ?_
    rintro e w4 ⟨rfl, hb4⟩
    have hNz : Nz kv := keyV_nz hkv hkf.2
    have hkv : keyV (k0) (k1) (k2) (k3) (k4) = KV cd kv.kind kv.num kv.flt kv.str kv.ref := hkv
    rw [hkv]
    have hbq := hba
    have hb5 := hbq.trans (hb4.mono (Nat.le_trans (Nat.le_refl _) hbq.size))
    have hz4 : w1.heap.size ≤ w4.heap.size := Nat.le_trans (Nat.le_refl _) hb5.size
    have HC4 := hide ((unhide HC1).below hb5 hb1)
    have HR4 := hide ((unhide HR1).then_below hb5 hz1)
    clear hb5 hb4 hbq hkv
    by_cases hc0 : cd = 0
    case neg =>
      have hc' : (cd != 0) = true := by simp [hc0]
      go_wp2
      go_roundw
      case rel =>
        have hR := (unhide HR4).then_below ((Below.refl w4.heap.size w4).alloc (Nat.le_refl _) (.cells #[.int .i64 cd, .int .i64 kv.kind, .int .i64 kv.num, .float .f64 kv.flt, .string kv.str, .int .i64 kv.ref] 34)) (Nat.le_trans hz1 hz4)
        exact ⟨left - 1, k + 1, v0, v1, v2, d, by congr 1; omega, by omega, (unhide HD).gr hR hbl, by omega, by omega, ((unhide HC4).mono (by omega)).below ((Below.refl w4.heap.size w4).alloc (Nat.le_refl _) _) (unhide HC4).lt, (unhide HG).trans hR⟩
      case measure => simp [intOf]; omega
    subst hc0
    have hKy := hky rfl
    clear hky
    have hba : Below w4.heap.size w4 (w4.alloc (.cells #[.int .i64 0, .int .i64 kv.kind, .int .i64 kv.num, .float .f64 kv.flt, .string kv.str, .int .i64 kv.ref] 34)) := (Below.refl w4.heap.size w4).alloc (Nat.le_refl _) _
    have HCA := hide ((unhide HC4).below hba (unhide HC4).lt)
    have HRA := hide ((unhide HR4).then_below hba (Nat.le_trans hz1 hz4))
    have hxb : b < w4.heap.size := (unhide HC4).lt
    clear hba
    go_wp2_with fail
    refine (pick_any b (N + 4 + 24 * k + 10) 3 _ (unhide HCA) (by omega) (by omega) (by omega)).mono ?_
    rintro e w5 ⟨⟨y, rfl, hy0, hy1⟩, hc5, hs5⟩
    have hz5 : w4.heap.size < w5.heap.size := by rw [hs5.size]; simp
    have hX5 : HeldKd w4.heap.size kv w5 := HeldKd.of (W := w4.alloc (.cells #[.int .i64 0, .int .i64 kv.kind, .int .i64 kv.num, .float .f64 kv.flt, .string kv.str, .int .i64 kv.ref] 34)) ⟨by simp [go_sem], by simp [go_sem], by simp [go_sem], by simp [go_sem], by simp [go_sem]⟩ (fun q => hs5.cell _ _ (by omega))
    have HC5 := hide hc5
    have HR5 := hide ((unhide HRA).trans hs5.gr)
    clear hc5 hs5 HCA HRA HC4 HR4
    have hxo : ¬ Own3 v0 v1 v2 w4.heap.size := fun e => by have := ((unhide HD).mu.own3 e).2; omega
    by_cases hy : 0 < y
    · have hyd : decide (0 < y) = true := by simpa using hy
      have hS0 : HeldKd w4.heap.size kv w5.drew := hX5
      have HI : Hid (∀ n : Int, Calls Tryz.prog 59 #[.int .i64 n] w5.drew fun e w' => e = .returned (V 2 n 0 ⟨#[]⟩ 0) ∧ HeldKd w4.heap.size kv w' ∧ Below w5.heap.size w5 w') := hide (fun n => (l1int_any n w5.drew).mono (by
        rintro e w' ⟨h1, h2⟩
        exact ⟨h1, hX5.of (fun q => h2.cell (p := ⟨w4.heap.size, q, none⟩) hz5), Below.trans (Below.refl _ _).drew h2⟩))
      clear hX5
      go_wp2_with fail
      refine wpN_held (HeldKd w4.heap.size kv) (by kernel_rfl) ?_
      change wpAnyH _ _ _ _ _ _ _ _ (World.drew _)
      refine tk 0 (v := ?_) rfl (by kernel_rfl) (by rfl) ?_ (by assumption) ?_
      rotate_left
      · intro w' ⟨s0, s1, s2, s3, s4⟩; go_simp; first | done | with_reducible rfl
      simp only [Act.put, List.setIfInBounds_toArray, List.set_cons_succ, List.set_cons_zero]
      refine tk 1 (v := ?_) rfl (by kernel_rfl) (by rfl) ?_ (by assumption) ?_
      rotate_left
      · intro w' ⟨s0, s1, s2, s3, s4⟩; go_simp; first | done | with_reducible rfl
      simp only [Act.put, List.setIfInBounds_toArray, List.set_cons_succ, List.set_cons_zero]
      refine tk 2 (v := ?_) rfl (by kernel_rfl) (by rfl) ?_ (by assumption) ?_
      rotate_left
      · intro w' ⟨s0, s1, s2, s3, s4⟩; go_simp; first | done | with_reducible rfl
      simp only [Act.put, List.setIfInBounds_toArray, List.set_cons_succ, List.set_cons_zero]
      refine tk 3 (v := ?_) rfl (by kernel_rfl) (by rfl) ?_ (by assumption) ?_
      rotate_left
      · intro w' ⟨s0, s1, s2, s3, s4⟩; go_simp; first | done | with_reducible rfl
      simp only [Act.put, List.setIfInBounds_toArray, List.set_cons_succ, List.set_cons_zero]
      refine wpAnyH_ready (rs := [4]) (by kernel_rfl) (by simp) ?_
      refine AllReadyH.cons rfl (fun K hK => ?_) AllReadyH.nil
      go_simp
      refine (unhide HI _).mono ?_
      rintro e w6 ⟨rfl, hS6, hb6⟩
      refine hK.out _ _ hS6 (fun _ => ?_)
      clear hK K hS0 HI
      have hR6 := (unhide HR5).then_below hb6 (by omega)
      have hz6 := hb6.size
      refine wpAnyH_ready (rs := [5]) (by kernel_rfl) (by simp) ?_
      refine AllReadyH.cons rfl (fun K hK => ?_) AllReadyH.nil
      go_simp
      refine (((unhide HD).gr hR6 hbl).put (k := kv) (v := ⟨2, left, 0, ⟨#[]⟩, 0⟩) (by omega) hKy (ok_int _) (wf_int _) hNz).mono ?_
      rintro e w7 ⟨⟨⟨u, rfl⟩, u0, u1, u2, hD7, hm7, ht7⟩, hb7, ho7⟩
      have hS7 : HeldKd w4.heap.size kv w7 := hS6.of (fun q => World.cell?_of_block (ho7 w4.heap.size (by omega) (by omega) hxo))
      have HD7 := hide hD7
      have HC7 := hide (((unhide HC5).below hb6 (unhide HC5).lt).below hb7 hbl)
      have HG7 := hide (((unhide HG).trans hR6).then_below hb7 (Nat.le_refl _))
      refine hK.out _ _ hS7 (fun _ => ?_)
      clear hK K hS7 hD7 hb7 ho7 hR6 hS6 hb6
      refine wpAnyH_done (by kernel_rfl) ?_ _
      refine QN.normal ?_
      go_wp2
      go_roundw
      case rel => exact ⟨left - 1, k + 1, u0, u1, u2, _, by congr 1; omega, by omega, unhide HD7, by omega, by omega, (unhide HC7).mono (by omega), unhide HG7⟩
      case measure => simp [intOf]; omega
    · have hyd : decide (0 < y) = false := by simpa using hy
      have e1 := hX5.1
      have e2 := hX5.2.1
      have e3 := hX5.2.2.1
      have e4 := hX5.2.2.2.1
      have e5 := hX5.2.2.2.2
      go_wp2_with fail
      refine (((unhide HD).gr (unhide HR5) hbl).put (k := kv) (v := ⟨0, 0, 0, ⟨#[]⟩, 0⟩) (by omega) hKy ok_nil ⟨by decide, by decide⟩ hNz).mono ?_
      rintro e w7 ⟨⟨⟨u, rfl⟩, u0, u1, u2, hD7, hm7, ht7⟩, hb7, ho7⟩
      have HD7 := hide hD7
      have HC7 := hide ((unhide HC5).below hb7 hbl)
      have HG7 := hide (((unhide HG).trans (unhide HR5)).then_below hb7 (Nat.le_refl _))
      clear hD7 hb7 ho7 e1 e2 e3 e4 e5 hX5
      go_wp2
      go_roundw
      case rel => exact ⟨left - 1, k + 1, u0, u1, u2, _, by congr 1; omega, by omega, unhide HD7, by omega, by omega, (unhide HC7).mono (by omega), unhide HG7⟩
      case measure => simp [intOf]; omega
end Go.Proofs.YtglcaejddckleaaGreatDoor
namespace Go.Proofs.YtglcaejddckleaaGreatDoor
open Go.RowKit Go.Shelf
set_option linter.unusedVariables false

set_option maxRecDepth 100000 in
set_option maxHeartbeats 4000000 in
theorem dicts_any (a : Option Addr) (len cap : Nat) (w : World) (hcode : CodeAt w w.heap.size a len) :
    Calls Tryz.prog 11 #[.slice a len cap] w fun e w' => (∃ la lc ia ic xa xc d, e = .returned (Dv la lc ia ic xa xc d) ∧ DAt w' la ia xa d ∧ Inv Ky hN d ∧ WfD d ∧ d.m ≤ 2400000 ∧ d.turns ≤ 600 ∧ LogQ NzP d) ∧ Below w.heap.size w w' := by
  have HCode := hide hcode
  clear hcode
  go_enter Tryz.func11, Tryz.ntmps11
  go_wp2_with fail
  have hU : Below w.heap.size w ((w.alloc (.cells #[.slice none 0 0, .slice none 0 0, .slice none 0 0, .int .i64 0, .int .i64 0, .int .i64 0] 26)).alloc (.cells #[.slice a len cap, .int .i64 0, .int .u64 0] 69)) := ((Below.refl w.heap.size w).alloc (Nat.le_refl _) _).alloc (by simp) _
  have n0 : ¬ w.heap.size = w.heap.size + 1 := by omega
  have hcu : Cu (w.heap.size + 1) 0 ((w.alloc (.cells #[.slice none 0 0, .slice none 0 0, .slice none 0 0, .int .i64 0, .int .i64 0, .int .i64 0] 26)).alloc (.cells #[.slice a len cap, .int .i64 0, .int .u64 0] 69)) := by
    refine ⟨⟨a, len, cap, 0, 0, by simp [go_sem], by simp [go_sem], by simp [go_sem], by omega, by omega, by omega, by omega, ?_⟩, fun o => by simp [go_sem]⟩
    obtain ⟨h1, h2⟩ := unhide HCode
    refine ⟨h1, ?_⟩
    rcases h2 with h | ⟨k, off, e, hk, hc⟩
    · exact .inl h
    · refine .inr ⟨k, off, e, by omega, fun i hi => ?_⟩
      obtain ⟨z, hz, hr⟩ := hc i hi
      exact ⟨z, (hU.cell (p := ⟨k, off + i, none⟩) hk).trans hz, hr⟩
  refine (drawnDict_any (w.heap.size + 1) 0 _ hcu (by omega)).mono ?_
  rintro e w1 ⟨⟨v0, v1, v2, d, rfl, hD, hm, htn⟩, hc1, hg1⟩
  have hB1 : Below w.heap.size w w1 := hU.trans (hg1.below (by omega) hU.size)
  have rc : ∀ o, w1.cell? ⟨w.heap.size, o, none⟩ = ((w.alloc (.cells #[.slice none 0 0, .slice none 0 0, .slice none 0 0, .int .i64 0, .int .i64 0, .int .i64 0] 26)).alloc (.cells #[.slice a len cap, .int .i64 0, .int .u64 0] 69)).cell? ⟨w.heap.size, o, none⟩ := fun o => hg1.cell _ _ (by omega) (by simp; omega)
  have rf : ∀ o, w1.frozen? ⟨w.heap.size, o, none⟩ = ((w.alloc (.cells #[.slice none 0 0, .slice none 0 0, .slice none 0 0, .int .i64 0, .int .i64 0, .int .i64 0] 26)).alloc (.cells #[.slice a len cap, .int .i64 0, .int .u64 0] 69)).frozen? ⟨w.heap.size, o, none⟩ := fun o => hg1.frozen _ _ (by omega) (by simp; omega)
  obtain ⟨la, lc, ia, ic, xa, xc, e0, e1, e2, hP⟩ := hD.mu.ptr
  subst e0 e1 e2
  have hz : ((w.alloc (.cells #[.slice none 0 0, .slice none 0 0, .slice none 0 0, .int .i64 0, .int .i64 0, .int .i64 0] 26)).alloc (.cells #[.slice a len cap, .int .i64 0, .int .u64 0] 69)).heap.size = w.heap.size + 1 + 1 := by simp
  rw [hz] at hD ⊢
  have q0 : w1.cell? ⟨w.heap.size + 1 + 1, 0, none⟩ = some (.slice la d.n lc) := hD.mu.c0
  have q1 : w1.cell? ⟨w.heap.size + 1 + 1, 1, none⟩ = some (.slice ia d.m ic) := hD.mu.c1
  have q2 : w1.cell? ⟨w.heap.size + 1 + 1, 2, none⟩ = some (.slice xa d.x xc) := hD.mu.c2
  have q3 : w1.cell? ⟨w.heap.size + 1 + 1, 3, none⟩ = some (.int .i64 d.used) := hD.mu.c3
  have q4 : w1.cell? ⟨w.heap.size + 1 + 1, 4, none⟩ = some (.int .i64 d.live) := hD.mu.c4
  have q5 : w1.cell? ⟨w.heap.size + 1 + 1, 5, none⟩ = some (.int .i64 d.turns) := hD.mu.c5
  have HD := hide hD
  have HB := hide hB1
  clear hD hB1 hP hg1 hc1 hcu hU hz
  go_wp2
  refine bodyPost_ret (v := Dv la lc ia ic xa xc d) (by simp [results, Tryz.results11, go_sem, rc]) rfl ⟨⟨la, lc, ia, ic, xa, xc, d, rfl, ?_, (unhide HD).inv, (unhide HD).wf, hm, htn, (unhide HD).nz⟩, ?_⟩
  · obtain ⟨la', lc', ia', ic', xa', xc', e0, e1, e2, hA⟩ := (unhide HD).mu.rows (w' := (((((w1.setCell ⟨w.heap.size, 0, none⟩ (.slice la d.n lc)).setCell ⟨w.heap.size, 1, none⟩ (.slice ia d.m ic)).setCell ⟨w.heap.size, 2, none⟩ (.slice xa d.x xc)).setCell ⟨w.heap.size, 3, none⟩ (.int .i64 d.used)).setCell ⟨w.heap.size, 4, none⟩ (.int .i64 d.live)).setCell ⟨w.heap.size, 5, none⟩ (.int .i64 d.turns)) (by simp) (fun q h1 h2 => by
      have hq : q ≠ w.heap.size := by omega
      rw [Deep.blk_setCell_other _ _ _ _ (by exact hq), Deep.blk_setCell_other _ _ _ _ (by exact hq), Deep.blk_setCell_other _ _ _ _ (by exact hq), Deep.blk_setCell_other _ _ _ _ (by exact hq), Deep.blk_setCell_other _ _ _ _ (by exact hq), Deep.blk_setCell_other _ _ _ _ (by exact hq)])
    cases e0; cases e1; cases e2
    exact hA
  · iterate 6 (refine Below.setCell ?_ (by exact Nat.le_refl _) _)
    exact unhide HB
end Go.Proofs.YtglcaejddckleaaGreatDoor
namespace Go.Proofs.YtglcaejddckleaaGreatDoor
open Go.RowKit
set_option linter.unusedVariables false
attribute [local go_sem] run_store_float run_equalIn_float

theorem zero_num' {x : Nat} (h : fz x = true) : ∃ s i, Ieee.double.read x = .number s 0 i := by
  have h' : (Ieee.double.order x 0 == some .eq) = true := h
  rcases Fl.read_cases x with ⟨s, m, i, hr, hi, hi2, hm, _⟩ | ⟨s, hr⟩ | ⟨s, t, hr⟩
  · rw [Fl.ord_of hr Fl.read_nil hi (by omega), Fl.cmp_eq, Fl.sc_zero] at h'
    have h0 : Fl.sc s m i = 0 := by simpa using h'
    unfold Fl.sc at h0
    rw [Fl.signed_eq] at h0
    have hp := Fl.pow_pos' (i + 1074).toNat
    have : m = 0 := by
      generalize (2 : Int) ^ (i + 1074).toNat = u at h0 hp
      have h1 : (m : Int) * u = 0 := by
        cases s
        · simpa using h0
        · simpa using h0
      rcases Int.mul_eq_zero.1 h1 with h | h <;> omega
    subst this
    exact ⟨s, i, hr⟩
  · exfalso
    unfold Ieee.Format.order at h'
    rw [hr, Fl.read_nil] at h'
    cases s <;> simp [Ieee.Datum.order] at h'
  · exfalso
    unfold Ieee.Format.order at h'
    rw [hr] at h'
    simp [Ieee.Datum.order] at h'

theorem quo_zero' {x : Nat} (h : fz x = true) : ∃ r, floatBits .quo .f64 4607182418800017408 x = some r ∧ (FloatKind.f64.format.order r r == some .eq) = true := by
  obtain ⟨s, i, hr⟩ := zero_num' h
  refine ⟨Ieee.double.write (.infinity (false ^^ s)), ?_, ?_⟩
  · show ((Ieee.double.read 4607182418800017408).quotient _ (Ieee.double.read x)).map Ieee.double.write = _
    rw [hr, Fl.read_one]
    simp [Ieee.Datum.quotient]
  · cases s <;> decide

set_option maxHeartbeats 1000000 in
theorem wVal_self (kind num : Int) (flt : Nat) (s : ByteArray) (ref : Int) (w : World) :
    Calls Tryz.prog 22 #[V kind num flt s ref, V kind num flt s ref] w fun e w' => e = .returned (.bool true) ∧ Below w.heap.size w w' := by
  by_cases h1 : fnan flt = true
  · have g1 : (FloatKind.f64.format.order flt flt != some .eq) = true := h1
    clear h1
    go_enter Tryz.func22, Tryz.ntmps22
    go_wp2
    go_ret
    exact ⟨rfl, ((Below.refl _ _).alloc (Nat.le_refl _) _).alloc (by simp) _⟩
  have g1 : (FloatKind.f64.format.order flt flt != some .eq) = false := (by simpa using h1 : fnan flt = false)
  have g2 : (FloatKind.f64.format.order flt flt == some .eq) = true := by simpa using g1
  by_cases h2 : fz flt = true
  · have g3 : (FloatKind.f64.format.order flt 0 != some .eq) = false := by
      have : (FloatKind.f64.format.order flt 0 == some .eq) = true := h2
      simpa using this
    obtain ⟨r, hr, g4⟩ := quo_zero' h2
    have hq : ∀ w : World, (binOp .quo 28 (.float .f64 4607182418800017408) (.float .f64 flt)).run Tryz.prog w = .ok (.float .f64 r) w := fun w => run_float_arith w .quo 28 .f64 _ _ r hr
    clear h1 h2 hr
    go_enter Tryz.func22, Tryz.ntmps22
    go_wp2
    go_ret
    exact ⟨rfl, ((Below.refl _ _).alloc (Nat.le_refl _) _).alloc (by simp) _⟩
  · have g3 : (FloatKind.f64.format.order flt 0 != some .eq) = true := by
      have : (FloatKind.f64.format.order flt 0 == some .eq) = false := (by simpa using h2 : fz flt = false)
      simpa using this
    clear h1 h2
    go_enter Tryz.func22, Tryz.ntmps22
    go_wp2
    go_ret
    exact ⟨rfl, ((Below.refl _ _).alloc (Nat.le_refl _) _).alloc (by simp) _⟩

theorem fz_nilW : fz 0 = true := by decide

/-- KeyOf of a key is the key. -/
theorem keyV_again (kind num : Int) (flt : Nat) (s : ByteArray) (ref : Int) {k n : Int} {f : Nat} {t : ByteArray} {r : Int} (h : keyV kind num flt s ref = KV 0 k n f t r) : keyV k n f t r = KV 0 k n f t r := by
  unfold keyV at h
  by_cases hv : validB kind num flt s ref = true
  · rw [if_pos hv] at h
    by_cases h0 : kind = 0
    · rw [if_pos h0] at h; simp at h
    · rw [if_neg h0] at h
      by_cases h3 : kind = 3
      · rw [if_pos h3] at h
        by_cases hn : fnan flt = true
        · rw [if_pos hn] at h; simp at h
        · rw [if_neg hn] at h
          by_cases hw : wholeB flt = true
          · rw [if_pos hw] at h
            simp only [Value.agg.injEq, Array.mk.injEq, List.cons.injEq, Value.int.injEq, Value.float.injEq, Value.string.injEq, true_and, and_true] at h
            obtain ⟨rfl, rfl, rfl, rfl, rfl⟩ := h
            unfold keyV
            have : validB 2 (fint flt) 0 ⟨#[]⟩ 0 = true := by unfold validB; simp [fz_nilW]
            rw [if_pos this, if_neg (by decide), if_neg (by decide)]
          · rw [if_neg hw] at h
            simp only [Value.agg.injEq, Array.mk.injEq, List.cons.injEq, Value.int.injEq, Value.float.injEq, Value.string.injEq, true_and, and_true] at h
            obtain ⟨rfl, rfl, rfl, rfl, rfl⟩ := h
            unfold keyV
            rw [if_pos hv, if_neg h0, if_pos h3, if_neg hn, if_neg hw]
      · rw [if_neg h3] at h
        simp only [Value.agg.injEq, Array.mk.injEq, List.cons.injEq, Value.int.injEq, Value.float.injEq, Value.string.injEq, true_and, and_true] at h
        obtain ⟨rfl, rfl, rfl, rfl, rfl⟩ := h
        unfold keyV
        rw [if_pos hv, if_neg h0, if_neg h3]
  · rw [if_neg hv] at h; simp at h

/-- A small int as a float: that int as a key. -/
theorem keyV_float (i : Int) (h1 : -1000 < i) (h2 : i < 1000) : keyV 3 0 (floatOfInt .f64 i) ⟨#[]⟩ 0 = KV 0 2 i 0 ⟨#[]⟩ 0 ∧ keyV 2 i 0 ⟨#[]⟩ 0 = KV 0 2 i 0 ⟨#[]⟩ 0 := by
  obtain ⟨q, l, hr, hl, hv⟩ := Fl.nearest_whole (decide (i < 0)) i.natAbs (Fl.fits_small (by omega))
  rw [Fl.sg_again] at hv
  have hx : Ieee.double.read (floatOfInt .f64 i) = .number (decide (i < 0)) q l := hr
  have hu := Fl.U_pos
  obtain ⟨hl2, hq⟩ : l ≤ 971 ∧ q < 2 ^ 53 := by
    rcases Fl.read_cases (floatOfInt .f64 i) with ⟨s, m, j, hr', _, h2, h3, _⟩ | ⟨s, hr'⟩ | ⟨s, t, hr'⟩
    · rw [hr'] at hx; injection hx with _ e1 e2; rw [← e1, ← e2]; exact ⟨h2, h3⟩
    · rw [hr'] at hx; cases hx
    · rw [hr'] at hx; cases hx
  have hiu : i * Fl.U < 9223372036854775808 * Fl.U := Int.mul_lt_mul_of_pos_right (by omega) hu
  have hil : -9223372036854775808 * Fl.U < i * Fl.U := Int.mul_lt_mul_of_pos_right (by omega) hu
  have hwl : Fl.sg (decide (i < 0)) (Fl.whole q l) = i := by
    have hb := Fl.whole_bounds q l hl
    by_cases hneg : i < 0
    · simp only [hneg, decide_true] at hv ⊢
      rw [Fl.sc_neg] at hv
      have e : Fl.sc false q l = ((-i : Int)) * Fl.U := by rw [Int.neg_mul]; omega
      rw [e] at hb
      have a1 := Int.le_of_mul_le_mul_right hb.1 hu
      have a2 := Int.lt_of_mul_lt_mul_right hb.2 (by omega)
      simp only [Fl.sg, if_true]; omega
    · simp only [hneg, decide_false] at hv ⊢
      rw [hv] at hb
      have a1 := Int.le_of_mul_le_mul_right hb.1 hu
      have a2 := Int.lt_of_mul_lt_mul_right hb.2 (by omega)
      simp only [Fl.sg, Bool.false_eq_true, if_false]; omega
  have g : geB (floatOfInt .f64 i) = true := by
    show (Ieee.double.order _ 14114281232179134464 == some .gt || Ieee.double.order _ 14114281232179134464 == some .eq) = true
    rw [Fl.ord_of hx Fl.read_m63 hl (by omega), Fl.sc_m63, Fl.cmp_gt, Fl.cmp_eq, hv]
    simp only [Bool.or_eq_true, decide_eq_true_eq]; left; omega
  have lt : ltB (floatOfInt .f64 i) = true := by
    show (Ieee.double.order _ 4890909195324358656 == some .lt) = true
    rw [Fl.ord_of hx Fl.read_c63 hl (by omega), Fl.sc_c63, Fl.cmp_lt, hv]
    simp only [decide_eq_true_eq]; omega
  have iw : isW (floatOfInt .f64 i) = true := by
    unfold isW; rw [hx]; simp only [decide_eq_true_eq]; rw [hwl, hv]
  have fi : fint (floatOfInt .f64 i) = i := by unfold fint; rw [hx]; exact hwl
  have hn : fnan (floatOfInt .f64 i) = false := by
    show (!(Ieee.double.order _ _ == some .eq)) = false
    rw [Fl.ord_of hx hx hl hl, Fl.cmp_eq]; simp
  have hw : wholeB (floatOfInt .f64 i) = true := by unfold wholeB; rw [g, lt, iw]; rfl
  constructor
  · unfold keyV
    have : validB 3 0 (floatOfInt .f64 i) ⟨#[]⟩ 0 = true := by unfold validB; simp
    rw [if_pos this, if_neg (by decide), if_pos rfl, if_neg (by rw [hn]; decide), if_pos hw, fi]
  · unfold keyV
    have : validB 2 i 0 ⟨#[]⟩ 0 = true := by unfold validB; simp [fz_nilW]
    rw [if_pos this, if_neg (by decide), if_neg (by decide)]
end Go.Proofs.YtglcaejddckleaaGreatDoor
namespace Go.Proofs.YtglcaejddckleaaGreatDoor
open Go.RowKit Go.Shelf
set_option linter.unusedVariables false
attribute [local go_sem] run_store_float run_equalIn_float

set_option maxRecDepth 100000 in
set_option maxHeartbeats 2000000 in
theorem wPair_self (p : Pr) (w : World) : Calls Tryz.prog 26 #[PV p, PV p] w fun e w' => e = .returned (.bool true) ∧ Below w.heap.size w w' := by
  have hb0 : Below w.heap.size w ((w.alloc (.cells #[.int .i64 p.key.kind, .int .i64 p.key.num, .float .f64 p.key.flt, .string p.key.str, .int .i64 p.key.ref, .int .i64 p.val.kind, .int .i64 p.val.num, .float .f64 p.val.flt, .string p.val.str, .int .i64 p.val.ref, .int .i64 p.turn] 43)).alloc (.cells #[.int .i64 p.key.kind, .int .i64 p.key.num, .float .f64 p.key.flt, .string p.key.str, .int .i64 p.key.ref, .int .i64 p.val.kind, .int .i64 p.val.num, .float .f64 p.val.flt, .string p.val.str, .int .i64 p.val.ref, .int .i64 p.turn] 43)) := ((Below.refl _ _).alloc (Nat.le_refl _) _).alloc (by simp) _
  have HB0 := hide hb0
  clear hb0
  go_enter Tryz.func26, Tryz.ntmps26
  go_wp2_with fail
  refine (wVal_self _ _ _ _ _ _).mono ?_
  rintro e w1 ⟨rfl, hb1⟩
  obtain ⟨hc1, hf1⟩ := bcell hb1
  have rc : ∀ o, w1.cell? ⟨w.heap.size, o, none⟩ = _ := fun o => hc1 _ _ (by simp; omega)
  have rd : ∀ o, w1.cell? ⟨w.heap.size + 1, o, none⟩ = _ := fun o => hc1 _ _ (by simp)
  have HB1 := hide ((unhide HB0).trans (hb1.mono (unhide HB0).size))
  have hz : w.heap.size + 1 < w1.heap.size := Nat.lt_of_lt_of_le (by simp) hb1.size
  clear hb1 hc1 hf1
  go_wp2_with fail
  refine (wVal_self _ _ _ _ _ _).mono ?_
  rintro e w2 ⟨rfl, hb2⟩
  have sc : ∀ o, w2.cell? ⟨w.heap.size, o, none⟩ = _ := fun o => (hb2.cell (p := ⟨w.heap.size, o, none⟩) (by show w.heap.size < w1.heap.size; omega)).trans (rc o)
  have sd : ∀ o, w2.cell? ⟨w.heap.size + 1, o, none⟩ = _ := fun o => (hb2.cell (p := ⟨w.heap.size + 1, o, none⟩) hz).trans (rd o)
  have HB2 := hide ((unhide HB1).trans (hb2.mono (unhide HB1).size))
  clear hb2 rc rd
  go_wp2
  go_ret
  exact ⟨rfl, unhide HB2⟩

set_option maxRecDepth 100000 in
set_option maxHeartbeats 2000000 in
theorem wPairs_same (a a' : Option Addr) (n cap cap' : Nat) (f : Nat → Pr) (w : World) (hA : PAt w a n f) (hB : PAt w a' n f) (hn : n ≤ 4194304) :
    Calls Tryz.prog 23 #[.slice a n cap, .slice a' n cap'] w fun e w' => e = .returned (.bool true) ∧ Below w.heap.size w w' := by
  have HA := hide hA
  have HB := hide hB
  clear hA hB
  go_enter Tryz.func23, Tryz.ntmps23
  go_wp2
  go_loopw [13] (fun i wr => ∃ (k : Nat), k ≤ n ∧ i = .int .i64 k ∧ Below w.heap.size w wr) (fun i _ => n - (intOf i).toNat)
  case atStart => exact ⟨0, by omega, rfl, Below.refl _ _⟩
  case round =>
    obtain ⟨k, hk, rfl, hb⟩ := hrel
    by_cases hlt : k < n
    · obtain ⟨b, off, rfl, hbl, hcs⟩ := (unhide HA).resolve_left (by omega)
      obtain ⟨b', off', rfl, hbl', hcs'⟩ := (unhide HB).resolve_left (by omega)
      obtain ⟨e0, e1, e2, e3, e4, e5, e6, e7, e8, e9, e10⟩ := (hcs k hlt).keep (fun q => hb.cell (p := ⟨b, q, none⟩) hbl)
      obtain ⟨d0, d1, d2, d3, d4, d5, d6, d7, d8, d9, d10⟩ := (hcs' k hlt).keep (fun q => hb.cell (p := ⟨b', q, none⟩) hbl')
      have hx : b < wr.heap.size := Nat.lt_of_lt_of_le hbl hb.size
      have hx' : b' < wr.heap.size := Nat.lt_of_lt_of_le hbl' hb.size
      have HBW := hide hb
      clear hb hcs hcs'
      go_wp2_with fail
      refine wp_region_quiet (C := fun w' => Below wr.heap.size wr w') (by kernel_rfl) (by kernel_rfl) ((Below.refl _ _).drew) ?_
      show wpQuiet _ _ _ _ [_, _, _, _, _, _, _, _, _, _] _
      refine wpQuiet_step (fun K hK => ?_)
      go_simp
      refine ⟨_, fun w' hw' => rfl, hK _ ?_⟩
      clear hK K
      refine wpQuiet_step (fun K hK => ?_)
      go_simp
      refine ⟨_, fun w' hw' => rfl, hK _ ?_⟩
      clear hK K
      refine wpQuiet_step (fun K hK => ?_)
      go_simp
      refine ⟨_, fun w' hw' => rfl, hK _ ?_⟩
      clear hK K
      refine wpQuiet_step (fun K hK => ?_)
      go_simp
      apply Exists.intro
      refine And.intro (fun w' hw' => ?_) (hK _ ?_)
      · obtain ⟨hc', hf'⟩ := bcell hw'
        go_simp
        first | rfl | exact ⟨rfl, rfl⟩ | exact ⟨rfl⟩
      clear hK K
      refine wpQuiet_step (fun K hK => ?_)
      go_simp
      refine ⟨_, fun w' hw' => rfl, hK _ ?_⟩
      clear hK K
      refine wpQuiet_step (fun K hK => ?_)
      go_simp
      refine ⟨_, fun w' hw' => rfl, hK _ ?_⟩
      clear hK K
      refine wpQuiet_step (fun K hK => ?_)
      go_simp
      refine ⟨_, fun w' hw' => rfl, hK _ ?_⟩
      clear hK K
      refine wpQuiet_step (fun K hK => ?_)
      go_simp
      apply Exists.intro
      refine And.intro (fun w' hw' => ?_) (hK _ ?_)
      · obtain ⟨hc', hf'⟩ := bcell hw'
        go_simp
        first | rfl | exact ⟨rfl, rfl⟩ | exact ⟨rfl⟩
      clear hK K
      refine wpQuiet_step (fun K hK => ?_)
      go_simp
      apply Exists.intro
      refine And.intro (fun w' hw' => ?_) (hK _ ?_)
      · refine (wPair_self (f k) _).mono ?_
        rintro e w'' ⟨rfl, hb⟩
        exact ⟨rfl, hw'.trans (hb.mono hw'.size)⟩
      clear hK K
      refine wpQuiet_step (fun K hK => ?_)
      go_simp
      refine ⟨_, fun w' hw' => rfl, hK _ ?_⟩
      clear hK K
      refine wpQuiet_nil ?_
      intro w2 hw2
      have HB2 := hide ((unhide HBW).trans (hw2.mono (unhide HBW).size))
      clear hw2 e0 e1 e2 e3 e4 e5 e6 e7 e8 e9 e10 d0 d1 d2 d3 d4 d5 d6 d7 d8 d9 d10
      go_wp2
      go_roundw
      case rel => exact ⟨k + 1, by omega, by go_num, unhide HB2⟩
      case measure => simp [intOf]; omega
    · have : k = n := by omega
      subst this
      have HB2 := hide hb
      clear hb
      go_wp2
      go_ret
      exact ⟨rfl, unhide HB2⟩
end Go.Proofs.YtglcaejddckleaaGreatDoor
namespace Go.Proofs.YtglcaejddckleaaGreatDoor
open Go.RowKit Go.Shelf
set_option linter.unusedVariables false
attribute [local go_sem] run_store_float run_equalIn_float Oper.semAt_some

/-- A Found. -/
abbrev FV (b : Bool) (p : Pr) : Value := .agg #[.bool b, .int .i64 p.key.kind, .int .i64 p.key.num, .float .f64 p.key.flt, .string p.key.str, .int .i64 p.key.ref, .int .i64 p.val.kind, .int .i64 p.val.num, .float .f64 p.val.flt, .string p.val.str, .int .i64 p.val.ref, .int .i64 p.turn]
/-- The first living pair whose turn is above t. -/
def aftL (d : Dc) (t : Int) (l : List Nat) : Option Nat := l.find? (fun i => decide (t < (d.L i).turn))
theorem aftL_none {d : Dc} {t : Int} {l : List Nat} (h : ∀ i ∈ l, ¬ t < (d.L i).turn) : aftL d t l = none := by
  unfold aftL
  rw [List.find?_eq_none]
  intro i hi
  simpa using h i hi
theorem aftL_hit {d : Dc} {t : Int} {l l' : List Nat} {i : Nat} (h : ∀ j ∈ l, ¬ t < (d.L j).turn) (hp : l ++ [i] <+: l') (hi : t < (d.L i).turn) : aftL d t l' = some i := by
  obtain ⟨r, rfl⟩ := hp
  have h1 : (l ++ [i]).find? (fun i => decide (t < (d.L i).turn)) = some i := by
    rw [List.find?_append, show l.find? (fun i => decide (t < (d.L i).turn)) = none from aftL_none h]
    simp [hi]
  unfold aftL
  rw [List.find?_append, h1]
  rfl
def outP (d : Dc) : Option Nat → Bool × Pr
  | none => (false, default)
  | some i => (true, d.L i)
open Classical in
noncomputable def outA (d : Dc) (t : Int) : Bool × Pr := if dictOk d (hD d) = 0 then outP d (aftL d t (livL d d.n)) else (false, default)
theorem outA_none {d : Dc} {t : Int} (h : dictOk d (hD d) = 0) (e : aftL d t (livL d d.n) = none) : outA d t = (false, default) := by unfold outA; rw [if_pos h, e]; rfl
theorem outA_some {d : Dc} {t : Int} {i : Nat} (h : dictOk d (hD d) = 0) (e : aftL d t (livL d d.n) = some i) : outA d t = (true, d.L i) := by unfold outA; rw [if_pos h, e]; rfl
theorem outA_bad {d : Dc} {t : Int} (h : dictOk d (hD d) ≠ 0) : outA d t = (false, default) := if_neg h

set_option maxRecDepth 100000 in
set_option maxHeartbeats 2000000 in
theorem l1after_any (la : Option Addr) (lc : Nat) (d : Dc) (t : Int) (w : World) (hP : PAt w la d.n d.L) (hS : Small d) (h2 : D2 d) :
    Calls Tryz.prog 84 #[.slice la d.n lc, .int .i64 t] w fun e w' => e = .returned (FV (outP d (aftL d t (livL d d.n))).1 (outP d (aftL d t (livL d d.n))).2) ∧ Below w.heap.size w w' := by
  have hn := hS.n
  have HP := hide hP
  have H2 := hide h2
  clear hP hS h2
  go_enter Tryz.func84, Tryz.ntmps84
  go_wp2
  go_loopw [9] (fun i wr => ∃ k : Nat, k ≤ d.n ∧ i = .int .i64 k ∧ (∀ j ∈ livL d k, ¬ t < (d.L j).turn) ∧ w.heap.size < wr.heap.size ∧ (∀ o, o < 12 → wr.cell? ⟨w.heap.size, o, none⟩ = (w.alloc (.cells #[.bool false, .int .i64 0, .int .i64 0, .float .f64 0, .string ⟨#[]⟩, .int .i64 0, .int .i64 0, .int .i64 0, .float .f64 0, .string ⟨#[]⟩, .int .i64 0, .int .i64 0] 47)).cell? ⟨w.heap.size, o, none⟩) ∧ (∀ o, wr.frozen? ⟨w.heap.size, o, none⟩ = false) ∧ Below w.heap.size w wr) (fun i _ => d.n - (intOf i).toNat)
  case atStart => exact ⟨0, by omega, rfl, fun j hj => by simp [livL] at hj, by simp, fun o _ => rfl, fun o => by simp [go_sem], (Below.refl _ _).alloc (Nat.le_refl _) _⟩
  case round =>
    obtain ⟨k, hk, rfl, hno, hz, hcl, hfr, hb⟩ := hrel
    have HNO := hide hno
    have HCL := hide hcl
    have r0 := (hcl 0 (by omega)).trans (by simp [go_sem] : _ = some (.bool false))
    have r1 := (hcl 1 (by omega)).trans (by simp [go_sem] : _ = some (.int .i64 0))
    have r2 := (hcl 2 (by omega)).trans (by simp [go_sem] : _ = some (.int .i64 0))
    have r3 := (hcl 3 (by omega)).trans (by simp [go_sem] : _ = some (.float .f64 0))
    have r4 := (hcl 4 (by omega)).trans (by simp [go_sem] : _ = some (.string ⟨#[]⟩))
    have r5 := (hcl 5 (by omega)).trans (by simp [go_sem] : _ = some (.int .i64 0))
    have r6 := (hcl 6 (by omega)).trans (by simp [go_sem] : _ = some (.int .i64 0))
    have r7 := (hcl 7 (by omega)).trans (by simp [go_sem] : _ = some (.int .i64 0))
    have r8 := (hcl 8 (by omega)).trans (by simp [go_sem] : _ = some (.float .f64 0))
    have r9 := (hcl 9 (by omega)).trans (by simp [go_sem] : _ = some (.string ⟨#[]⟩))
    have r10 := (hcl 10 (by omega)).trans (by simp [go_sem] : _ = some (.int .i64 0))
    have r11 := (hcl 11 (by omega)).trans (by simp [go_sem] : _ = some (.int .i64 0))
    clear hno hcl
    by_cases hkn : k < d.n
    · obtain ⟨b, off, rfl, hbl, hcs⟩ := (unhide HP).resolve_left (by omega)
      obtain ⟨e0, e1, e2, e3, e4, e5, e6, e7, e8, e9, e10⟩ := (hcs k hkn).keep (fun q => hb.cell (p := ⟨b, q, none⟩) hbl)
      have HB := hide hb
      clear hcs hb
      by_cases hp : 0 < (d.L k).turn
      · have hne : (d.L k).turn ≠ 0 := by omega
        by_cases ht : t < (d.L k).turn
        · have HR : Hid (aftL d t (livL d d.n) = some k) := hide (aftL_hit (unhide HNO) (by rw [← livL_live hne]; exact livL_prefix (by omega)) ht)
          clear hne
          go_wp2
          refine bodyPost_ret (v := FV true (d.L k)) (by simp [results, Tryz.results84, go_sem, hz, r0, r1, r2, r3, r4, r5, r6, r7, r8, r9, r10, r11]) rfl ⟨by rw [unhide HR]; rfl, ?_⟩
          refine Below.alloc ?_ (by have := (unhide HB).size; simpa using this) _
          iterate 12 (refine Below.setCell ?_ (by exact Nat.le_refl _) _)
          exact unhide HB
        · have HN : Hid (∀ j ∈ livL d (k + 1), ¬ t < (d.L j).turn) := hide (fun j hj => by
            rw [livL_live hne] at hj
            rcases List.mem_append.1 hj with hj | hj
            · exact unhide HNO j hj
            · simp at hj; subst hj; exact ht)
          clear hne
          go_wp2
          go_roundw
          case rel => exact ⟨k + 1, by omega, by go_num, unhide HN, by simp; omega, fun o ho => (World.cell?_alloc_lt _ _ _ (by exact hz)).trans (unhide HCL o ho), fun o => (((Below.refl wr.heap.size wr).alloc (Nat.le_refl _) _).frozen (p := ⟨w.heap.size, o, none⟩) hz).trans (hfr o), (unhide HB).alloc (unhide HB).size _⟩
          case measure => simp [intOf]; omega
      · have hz0 : (d.L k).turn = 0 := by
          rcases (unhide H2).entry hkn with h | h
          · exact h.1
          · exact absurd h.1 hp
        have HN : Hid (∀ j ∈ livL d (k + 1), ¬ t < (d.L j).turn) := hide (by rw [livL_dead hz0]; exact unhide HNO)
        clear hp
        rw [hz0] at e10
        clear hz0
        go_wp2
        go_roundw
        case rel => exact ⟨k + 1, by omega, by go_num, unhide HN, by simp; omega, fun o ho => (World.cell?_alloc_lt _ _ _ (by exact hz)).trans (unhide HCL o ho), fun o => (((Below.refl wr.heap.size wr).alloc (Nat.le_refl _) _).frozen (p := ⟨w.heap.size, o, none⟩) hz).trans (hfr o), (unhide HB).alloc (unhide HB).size _⟩
        case measure => simp [intOf]; omega
    · have hkn' : k = d.n := by omega
      subst hkn'
      have HR : Hid (aftL d t (livL d d.n) = none) := hide (aftL_none (unhide HNO))
      have HB := hide hb
      clear hb
      go_wp2
      refine bodyPost_ret (v := .agg #[.bool false, .int .i64 0, .int .i64 0, .float .f64 0, .string ⟨#[]⟩, .int .i64 0, .int .i64 0, .int .i64 0, .float .f64 0, .string ⟨#[]⟩, .int .i64 0, .int .i64 0]) (by simp [results, Tryz.results84, go_sem, r0, r1, r2, r3, r4, r5, r6, r7, r8, r9, r10, r11]) rfl ⟨by rw [unhide HR]; rfl, ?_⟩
      iterate 12 (refine Below.setCell ?_ (by exact Nat.le_refl _) _)
      exact unhide HB

set_option maxRecDepth 100000 in
set_option maxHeartbeats 2000000 in
theorem specAfter (la : Option Addr) (lc : Nat) (ia : Option Addr) (ic : Nat) (xa : Option Addr) (xc : Nat) (d : Dc) (t : Int) (w : World) (hA : DAt w la ia xa d) (hS : Small d) (hW : WfD d) :
    Calls Tryz.prog 38 #[Dv la lc ia ic xa xc d, .int .i64 t] w fun e w' => e = .returned (FV (outA d t).1 (outA d t).2) ∧ Below w.heap.size w w' := by
  have HA := hide hA
  have HS := hide hS
  have HW := hide hW
  clear hA hS hW
  have hb0 : Below w.heap.size w ((w.alloc (.cells #[.slice la d.n lc, .slice ia d.m ic, .slice xa d.x xc, .int .i64 d.used, .int .i64 d.live, .int .i64 d.turns] 26)).alloc (.cells #[.bool false, .int .i64 0, .int .i64 0, .float .f64 0, .string ⟨#[]⟩, .int .i64 0, .int .i64 0, .int .i64 0, .float .f64 0, .string ⟨#[]⟩, .int .i64 0, .int .i64 0] 47)) := ((Below.refl _ _).alloc (Nat.le_refl _) _).alloc (by simp) _
  have HB0 := hide hb0
  clear hb0
  go_enter Tryz.func38, Tryz.ntmps38
  go_wp2_with fail
  refine (specOk la lc ia ic xa xc d _ ((unhide HA).below (unhide HB0)) (unhide HS) (unhide HW)).mono ?_
  rintro e w1 ⟨rfl, hb1⟩
  obtain ⟨hc1, hf1⟩ := bcell hb1
  have hz1 := hb1.size
  simp at hz1
  have y0 : w.heap.size < w1.heap.size := by omega
  have y1 : w.heap.size + 1 < w1.heap.size := by omega
  have q0 : w1.cell? ⟨w.heap.size, 0, none⟩ = some (.slice la d.n lc) := by rw [hc1 _ _ (by simp; omega)]; simp [go_sem]
  have r0 : w1.cell? ⟨w.heap.size + 1, 0, none⟩ = some (.bool false) := by rw [hc1 _ _ (by simp)]; simp [go_sem]
  have r1 : w1.cell? ⟨w.heap.size + 1, 1, none⟩ = some (.int .i64 0) := by rw [hc1 _ _ (by simp)]; simp [go_sem]
  have r2 : w1.cell? ⟨w.heap.size + 1, 2, none⟩ = some (.int .i64 0) := by rw [hc1 _ _ (by simp)]; simp [go_sem]
  have r3 : w1.cell? ⟨w.heap.size + 1, 3, none⟩ = some (.float .f64 0) := by rw [hc1 _ _ (by simp)]; simp [go_sem]
  have r4 : w1.cell? ⟨w.heap.size + 1, 4, none⟩ = some (.string ⟨#[]⟩) := by rw [hc1 _ _ (by simp)]; simp [go_sem]
  have r5 : w1.cell? ⟨w.heap.size + 1, 5, none⟩ = some (.int .i64 0) := by rw [hc1 _ _ (by simp)]; simp [go_sem]
  have r6 : w1.cell? ⟨w.heap.size + 1, 6, none⟩ = some (.int .i64 0) := by rw [hc1 _ _ (by simp)]; simp [go_sem]
  have r7 : w1.cell? ⟨w.heap.size + 1, 7, none⟩ = some (.int .i64 0) := by rw [hc1 _ _ (by simp)]; simp [go_sem]
  have r8 : w1.cell? ⟨w.heap.size + 1, 8, none⟩ = some (.float .f64 0) := by rw [hc1 _ _ (by simp)]; simp [go_sem]
  have r9 : w1.cell? ⟨w.heap.size + 1, 9, none⟩ = some (.string ⟨#[]⟩) := by rw [hc1 _ _ (by simp)]; simp [go_sem]
  have r10 : w1.cell? ⟨w.heap.size + 1, 10, none⟩ = some (.int .i64 0) := by rw [hc1 _ _ (by simp)]; simp [go_sem]
  have r11 : w1.cell? ⟨w.heap.size + 1, 11, none⟩ = some (.int .i64 0) := by rw [hc1 _ _ (by simp)]; simp [go_sem]
  have fr : ∀ o, w1.frozen? ⟨w.heap.size + 1, o, none⟩ = false := fun o => by rw [hf1 _ _ (by simp)]; simp [go_sem]
  have HB1 := hide ((unhide HB0).trans (hb1.mono (unhide HB0).size))
  clear hb1 hc1 hf1
  by_cases hk : dictOk d (hD d) = 0
  case neg =>
    have HR : Hid (outA d t = (false, default)) := hide (outA_bad hk)
    have hk' : (dictOk d (hD d) != 0) = true := by simp [hk]
    clear hk
    generalize dictOk d (hD d) = ok at hk'
    go_wp2
    refine bodyPost_ret (v := .agg #[.bool false, .int .i64 0, .int .i64 0, .float .f64 0, .string ⟨#[]⟩, .int .i64 0, .int .i64 0, .int .i64 0, .float .f64 0, .string ⟨#[]⟩, .int .i64 0, .int .i64 0]) (by simp [results, Tryz.results38, go_sem, r0, r1, r2, r3, r4, r5, r6, r7, r8, r9, r10, r11]) rfl ⟨by rw [unhide HR]; rfl, ?_⟩
    iterate 12 (refine Below.setCell ?_ (by show w.heap.size ≤ w.heap.size + 1; omega) _)
    exact unhide HB1
  have HR : Hid (outA d t = outP d (aftL d t (livL d d.n))) := hide (if_pos hk)
  have HSd := hide (sound_of hk)
  rw [hk]
  clear hk
  go_wp2_with fail
  refine (l1after_any la lc d t _ ((unhide HA).below (unhide HB1)).log (unhide HS) (unhide HSd).d2).mono ?_
  rintro e w2 ⟨rfl, hb2⟩
  rw [← unhide HR]
  obtain ⟨hc2, hf2⟩ := bcell hb2
  have z1 : w.heap.size + 1 < w2.heap.size := Nat.lt_of_lt_of_le y1 hb2.size
  have s0 : w2.cell? ⟨w.heap.size + 1, 0, none⟩ = some (.bool false) := (hc2 _ _ y1).trans r0
  have s1 : w2.cell? ⟨w.heap.size + 1, 1, none⟩ = some (.int .i64 0) := (hc2 _ _ y1).trans r1
  have s2 : w2.cell? ⟨w.heap.size + 1, 2, none⟩ = some (.int .i64 0) := (hc2 _ _ y1).trans r2
  have s3 : w2.cell? ⟨w.heap.size + 1, 3, none⟩ = some (.float .f64 0) := (hc2 _ _ y1).trans r3
  have s4 : w2.cell? ⟨w.heap.size + 1, 4, none⟩ = some (.string ⟨#[]⟩) := (hc2 _ _ y1).trans r4
  have s5 : w2.cell? ⟨w.heap.size + 1, 5, none⟩ = some (.int .i64 0) := (hc2 _ _ y1).trans r5
  have s6 : w2.cell? ⟨w.heap.size + 1, 6, none⟩ = some (.int .i64 0) := (hc2 _ _ y1).trans r6
  have s7 : w2.cell? ⟨w.heap.size + 1, 7, none⟩ = some (.int .i64 0) := (hc2 _ _ y1).trans r7
  have s8 : w2.cell? ⟨w.heap.size + 1, 8, none⟩ = some (.float .f64 0) := (hc2 _ _ y1).trans r8
  have s9 : w2.cell? ⟨w.heap.size + 1, 9, none⟩ = some (.string ⟨#[]⟩) := (hc2 _ _ y1).trans r9
  have s10 : w2.cell? ⟨w.heap.size + 1, 10, none⟩ = some (.int .i64 0) := (hc2 _ _ y1).trans r10
  have s11 : w2.cell? ⟨w.heap.size + 1, 11, none⟩ = some (.int .i64 0) := (hc2 _ _ y1).trans r11
  have fr2 : ∀ o, w2.frozen? ⟨w.heap.size + 1, o, none⟩ = false := fun o => (hf2 _ _ y1).trans (fr o)
  have HB2 := hide ((unhide HB1).trans (hb2.mono (unhide HB1).size))
  clear hb2 hc2 hf2 fr r0 r1 r2 r3 r4 r5 r6 r7 r8 r9 r10 r11
  obtain ⟨oo, hoo⟩ : ∃ oo, oo = outA d t := ⟨_, rfl⟩
  rw [← hoo]
  have HOO := hide hoo
  clear hoo
  go_wp2
  refine bodyPost_ret (v := FV oo.1 oo.2) (by simp [results, Tryz.results38, go_sem, s0, s1, s2, s3, s4, s5, s6, s7, s8, s9, s10, s11]) rfl ⟨by rw [unhide HOO], ?_⟩
  iterate 12 (refine Below.setCell ?_ (by show w.heap.size ≤ w.heap.size + 1; omega) _)
  exact unhide HB2

def afNo (d : Dc) (t : Int) (pre : List (Liv d)) : Prop := ∀ y ∈ pre, ¬ t < (d.L y.1).turn
def afX (d : Dc) (t : Int) (b : Nat) (pre : List (Liv d)) (W : World) : Prop := ∃ (pre' : List (Liv d)) (y : Liv d), pre = pre' ++ [y] ∧ afNo d t pre' ∧ t < (d.L y.1).turn ∧ W.cell? ⟨b, 0, none⟩ = some (.bool true) ∧ W.cell? ⟨b, 1, none⟩ = some (.int .i64 (d.L y.1).key.kind) ∧ W.cell? ⟨b, 2, none⟩ = some (.int .i64 (d.L y.1).key.num) ∧ W.cell? ⟨b, 3, none⟩ = some (.float .f64 (d.L y.1).key.flt) ∧ W.cell? ⟨b, 4, none⟩ = some (.string (d.L y.1).key.str) ∧ W.cell? ⟨b, 5, none⟩ = some (.int .i64 (d.L y.1).key.ref) ∧ W.cell? ⟨b, 6, none⟩ = some (.int .i64 (d.L y.1).val.kind) ∧ W.cell? ⟨b, 7, none⟩ = some (.int .i64 (d.L y.1).val.num) ∧ W.cell? ⟨b, 8, none⟩ = some (.float .f64 (d.L y.1).val.flt) ∧ W.cell? ⟨b, 9, none⟩ = some (.string (d.L y.1).val.str) ∧ W.cell? ⟨b, 10, none⟩ = some (.int .i64 (d.L y.1).val.ref) ∧ W.cell? ⟨b, 11, none⟩ = some (.int .i64 (d.L y.1).turn)

set_option maxRecDepth 100000 in
set_option maxHeartbeats 4000000 in
theorem implAfter (la : Option Addr) (lc : Nat) (ia : Option Addr) (ic : Nat) (xa : Option Addr) (xc : Nat) (d : Dc) (t : Int) (w : World) (hT : Tabs w) (hA : DAt w la ia xa d) (hS : Small d) (hW : WfD d) :
    Calls Tryz.prog 25 #[Dv la lc ia ic xa xc d, .int .i64 t] w fun e w' => e = .returned (FV (outA d t).1 (outA d t).2) ∧ Below w.heap.size w w' := by
  have HA := hide hA
  have HS := hide hS
  have HW := hide hW
  have HT := hide hT
  clear hA hS hW hT
  have hb0 : Below w.heap.size w (((w.alloc (.cells #[.slice la d.n lc, .slice ia d.m ic, .slice xa d.x xc, .int .i64 d.used, .int .i64 d.live, .int .i64 d.turns] 26)).alloc (.cells #[.int .i64 t] 3)).alloc (.cells #[.bool false, .int .i64 0, .int .i64 0, .float .f64 0, .string ⟨#[]⟩, .int .i64 0, .int .i64 0, .int .i64 0, .float .f64 0, .string ⟨#[]⟩, .int .i64 0, .int .i64 0] 47)) := (((Below.refl _ _).alloc (Nat.le_refl _) _).alloc (by simp) _).alloc (by simp; omega) _
  have HB0 := hide hb0
  clear hb0
  refine (callsIn_wide (n := 20)).1 ?_
  refine callsIn_of_wp_marks Tryz.func25 rfl trivial ?_ rfl
  simp only [Tryz.ntmps25, List.size_toArray, List.length_cons, List.length_nil, Nat.reduceAdd, Nat.reduceSub, Array.replicate_succ, Array.replicate_zero, List.push_toArray, List.append_toArray, List.nil_append, List.cons_append]
  gi_wp2_with fail
  refine ⟨trivial, ?_⟩
  refine (callsIn_wide.2 (implOk la lc ia ic xa xc d _ (lastsT _ _ (unhide HT) (unhide HB0)) ((unhide HA).below (unhide HB0)) (unhide HS) (unhide HW))).mono ?_
  rintro e w1 ⟨rfl, hb1⟩
  obtain ⟨hc1, hf1⟩ := bcell hb1
  have hz1 := hb1.size
  simp at hz1
  have y0 : w.heap.size < w1.heap.size := by omega
  have y1 : w.heap.size + 1 < w1.heap.size := by omega
  have y2 : w.heap.size + 1 + 1 < w1.heap.size := by omega
  have q0 : w1.cell? ⟨w.heap.size, 0, none⟩ = some (.slice la d.n lc) := by rw [hc1 _ _ (by simp; omega)]; simp [go_sem]
  have q1 : w1.cell? ⟨w.heap.size, 1, none⟩ = some (.slice ia d.m ic) := by rw [hc1 _ _ (by simp; omega)]; simp [go_sem]
  have q2 : w1.cell? ⟨w.heap.size, 2, none⟩ = some (.slice xa d.x xc) := by rw [hc1 _ _ (by simp; omega)]; simp [go_sem]
  have q3 : w1.cell? ⟨w.heap.size, 3, none⟩ = some (.int .i64 d.used) := by rw [hc1 _ _ (by simp; omega)]; simp [go_sem]
  have q4 : w1.cell? ⟨w.heap.size, 4, none⟩ = some (.int .i64 d.live) := by rw [hc1 _ _ (by simp; omega)]; simp [go_sem]
  have q5 : w1.cell? ⟨w.heap.size, 5, none⟩ = some (.int .i64 d.turns) := by rw [hc1 _ _ (by simp; omega)]; simp [go_sem]
  have tq : w1.cell? ⟨w.heap.size + 1, 0, none⟩ = some (.int .i64 t) := by rw [hc1 _ _ (by simp)]; simp [go_sem]
  have r0 : w1.cell? ⟨w.heap.size + 1 + 1, 0, none⟩ = some (.bool false) := by rw [hc1 _ _ (by simp)]; simp [go_sem]
  have r1 : w1.cell? ⟨w.heap.size + 1 + 1, 1, none⟩ = some (.int .i64 0) := by rw [hc1 _ _ (by simp)]; simp [go_sem]
  have r2 : w1.cell? ⟨w.heap.size + 1 + 1, 2, none⟩ = some (.int .i64 0) := by rw [hc1 _ _ (by simp)]; simp [go_sem]
  have r3 : w1.cell? ⟨w.heap.size + 1 + 1, 3, none⟩ = some (.float .f64 0) := by rw [hc1 _ _ (by simp)]; simp [go_sem]
  have r4 : w1.cell? ⟨w.heap.size + 1 + 1, 4, none⟩ = some (.string ⟨#[]⟩) := by rw [hc1 _ _ (by simp)]; simp [go_sem]
  have r5 : w1.cell? ⟨w.heap.size + 1 + 1, 5, none⟩ = some (.int .i64 0) := by rw [hc1 _ _ (by simp)]; simp [go_sem]
  have r6 : w1.cell? ⟨w.heap.size + 1 + 1, 6, none⟩ = some (.int .i64 0) := by rw [hc1 _ _ (by simp)]; simp [go_sem]
  have r7 : w1.cell? ⟨w.heap.size + 1 + 1, 7, none⟩ = some (.int .i64 0) := by rw [hc1 _ _ (by simp)]; simp [go_sem]
  have r8 : w1.cell? ⟨w.heap.size + 1 + 1, 8, none⟩ = some (.float .f64 0) := by rw [hc1 _ _ (by simp)]; simp [go_sem]
  have r9 : w1.cell? ⟨w.heap.size + 1 + 1, 9, none⟩ = some (.string ⟨#[]⟩) := by rw [hc1 _ _ (by simp)]; simp [go_sem]
  have r10 : w1.cell? ⟨w.heap.size + 1 + 1, 10, none⟩ = some (.int .i64 0) := by rw [hc1 _ _ (by simp)]; simp [go_sem]
  have r11 : w1.cell? ⟨w.heap.size + 1 + 1, 11, none⟩ = some (.int .i64 0) := by rw [hc1 _ _ (by simp)]; simp [go_sem]
  have fr : ∀ o, w1.frozen? ⟨w.heap.size + 1 + 1, o, none⟩ = false := fun o => by rw [hf1 _ _ (by simp)]; simp [go_sem]
  have HB1 := hide ((unhide HB0).trans (hb1.mono (unhide HB0).size))
  clear hb1 hc1 hf1
  by_cases hk : dictOk d (hD d) = 0
  case neg =>
    have HR : Hid (outA d t = (false, default)) := hide (outA_bad hk)
    have hk' : (dictOk d (hD d) != 0) = true := by simp [hk]
    clear hk
    generalize dictOk d (hD d) = ok at hk'
    gi_wp2
    refine ⟨.agg #[.bool false, .int .i64 0, .int .i64 0, .float .f64 0, .string ⟨#[]⟩, .int .i64 0, .int .i64 0, .int .i64 0, .float .f64 0, .string ⟨#[]⟩, .int .i64 0, .int .i64 0], ?_, by rw [unhide HR]; rfl, ?_⟩
    · simp [results, Tryz.f25, go_sem, r0, r1, r2, r3, r4, r5, r6, r7, r8, r9, r10, r11]
    · iterate 12 (refine Below.setCell ?_ (by show w.heap.size ≤ w.heap.size + 1 + 1; omega) _)
      exact unhide HB1
  have HOK := hide hk
  have HSd := hide (sound_of hk)
  rw [hk]
  clear hk
  gi_wp2_with fail
  refine ⟨trivial, ?_⟩
  refine (callsIn_wide.2 (openBook_any la lc ia ic xa xc d _ ((unhide HA).below (unhide HB1)) (unhide HS) (unhide HSd).d3 (unhide HSd).d4)).mono ?_
  rintro e w2 ⟨⟨bk, R0, R1, R2, E, S, rfl, hBk⟩, hb2⟩
  have HB2 := hide ((unhide HB1).trans (hb2.mono (unhide HB1).size))
  have HX2 := hide hb2
  have HBk := hide hBk
  clear hb2 hBk
  gi_wp2_with fail
  refine ⟨trivial, ?_⟩
  refine (callsIn_wide.2 (living_any bk _)).mono ?_
  rintro e w4 ⟨rfl, rfl⟩
  gi_wp2_with fail
  obtain ⟨u, hu⟩ : ∃ u, u = w2.alloc (.cells #[.pointer (some ⟨bk, 0, none⟩)] 77) := ⟨_, rfl⟩
  rw [← hu]
  have zu : u.heap.size = w2.heap.size + 1 := by rw [hu]; simp
  have b2u : Below w2.heap.size w2 u := by rw [hu]; exact (Below.refl _ _).alloc (Nat.le_refl _) _
  have mb0 : u.cell? ⟨w2.heap.size, 0, none⟩ = some (.pointer (some ⟨bk, 0, none⟩)) := by rw [hu]; simp [go_sem]
  clear hu
  have hBu := (unhide HBk).below b2u
  have b1u : Below w1.heap.size w1 u := (unhide HX2).trans (b2u.mono (unhide HX2).size)
  have bwu : Below w.heap.size w u := (unhide HB1).trans (b1u.mono (unhide HB1).size)
  have tu := (b1u.cell (p := ⟨w.heap.size + 1, 0, none⟩) y1).trans tq
  have x0 := (b1u.cell (p := ⟨w.heap.size + 1 + 1, 0, none⟩) y2).trans r0
  have x1 := (b1u.cell (p := ⟨w.heap.size + 1 + 1, 1, none⟩) y2).trans r1
  have x2 := (b1u.cell (p := ⟨w.heap.size + 1 + 1, 2, none⟩) y2).trans r2
  have x3 := (b1u.cell (p := ⟨w.heap.size + 1 + 1, 3, none⟩) y2).trans r3
  have x4 := (b1u.cell (p := ⟨w.heap.size + 1 + 1, 4, none⟩) y2).trans r4
  have x5 := (b1u.cell (p := ⟨w.heap.size + 1 + 1, 5, none⟩) y2).trans r5
  have x6 := (b1u.cell (p := ⟨w.heap.size + 1 + 1, 6, none⟩) y2).trans r6
  have x7 := (b1u.cell (p := ⟨w.heap.size + 1 + 1, 7, none⟩) y2).trans r7
  have x8 := (b1u.cell (p := ⟨w.heap.size + 1 + 1, 8, none⟩) y2).trans r8
  have x9 := (b1u.cell (p := ⟨w.heap.size + 1 + 1, 9, none⟩) y2).trans r9
  have x10 := (b1u.cell (p := ⟨w.heap.size + 1 + 1, 10, none⟩) y2).trans r10
  have x11 := (b1u.cell (p := ⟨w.heap.size + 1 + 1, 11, none⟩) y2).trans r11
  have fu : ∀ o, u.frozen? ⟨w.heap.size + 1 + 1, o, none⟩ = false := fun o => (b1u.frozen (p := ⟨w.heap.size + 1 + 1, o, none⟩) y2).trans (fr o)
  have yu1 : w.heap.size + 1 < u.heap.size := Nat.lt_of_lt_of_le y1 b1u.size
  have yu2 : w.heap.size + 1 + 1 < u.heap.size := Nat.lt_of_lt_of_le y2 b1u.size
  have HZu := hide (Nat.le_trans (Nat.le_of_lt yu1) (Nat.le_refl _))
  clear zu
  clear HBk HX2 b1u b2u q0 q1 q2 q3 q4 q5 tq r0 r1 r2 r3 r4 r5 r6 r7 r8 r9 r10 r11 fr
  refine wpIn_rangeFunc_ownF rfl (by decide) (gf := 107) (lb := #[.pointer (some ⟨w2.heap.size, 0, none⟩)]) rfl trivial (enters_of Tryz.func107 (by kernel_rfl) rfl)
    (living_stops 19 (by decide) bk R0 R1 R2 w2.heap.size u.heap.size E S d u hBu (unhide HS) hBu.l0 (fun i hi => (hBu.ent i hi).lt) mb0) belowK_t (belowK_b (Nat.le_refl _)) (Below.refl _ _) (fun _ => rfl)
    (fun pre W => afNo d t pre ∧ Below u.heap.size u W)
    (fun c pre W => (c = .ret ∧ afX d t (w.heap.size + 1 + 1) pre W) ∧ Below w.heap.size w W)
    (OwnFrom.and (ownFrom_pure _ (fun pre : List (Liv d) => afNo d t pre)) (ownFrom_below (Nat.le_refl _) (Nat.le_refl _)))
    (fun c => OwnFrom.and (Own.from (fun s A B row hs hg hr => ⟨hs.1, by obtain ⟨pre', y, h1, h2, h3, c0, c1, c2, c3, c4, c5, c6, c7, c8, c9, c10, c11⟩ := hs.2; exact ⟨pre', y, h1, h2, h3, cell_kept c0 hg hr, cell_kept c1 hg hr, cell_kept c2 hg hr, cell_kept c3 hg hr, cell_kept c4 hg hr, cell_kept c5 hg hr, cell_kept c6 hg hr, cell_kept c7 hg hr, cell_kept c8 hg hr, cell_kept c9 hg hr, cell_kept c10 hg hr, cell_kept c11 hg hr⟩⟩) _) (ownFrom_below (Nat.le_refl _) (by have := unhide HZu; have := y1; omega)))
    ⟨fun y hy => (by cases hy), Below.refl _ _⟩
    ?a1 ?assign ?body ?done ?stop
  case assign =>
    intro l x W K hK
    gi_wp2
    exact hK
  case body =>
    rintro l pre ⟨i, hi, ht⟩ W ⟨hp, hBW⟩ _
    have hBk := hBu.below hBW
    obtain ⟨hel, k0, k1, k2, k3, k4, v0, v1, v2, v3, v4, tn, _, _⟩ := hBk.ent i hi
    have tW := (hBW.cell (p := ⟨w.heap.size + 1, 0, none⟩) yu1).trans tu
    have hN1 : w.heap.size + 1 < W.heap.size := Nat.lt_of_lt_of_le yu1 hBW.size
    have hN2 : w.heap.size + 1 + 1 < W.heap.size := Nat.lt_of_lt_of_le yu2 hBW.size
    have a0 := (hBW.cell (p := ⟨w.heap.size + 1 + 1, 0, none⟩) yu2).trans x0
    have a1 := (hBW.cell (p := ⟨w.heap.size + 1 + 1, 1, none⟩) yu2).trans x1
    have a2 := (hBW.cell (p := ⟨w.heap.size + 1 + 1, 2, none⟩) yu2).trans x2
    have a3 := (hBW.cell (p := ⟨w.heap.size + 1 + 1, 3, none⟩) yu2).trans x3
    have a4 := (hBW.cell (p := ⟨w.heap.size + 1 + 1, 4, none⟩) yu2).trans x4
    have a5 := (hBW.cell (p := ⟨w.heap.size + 1 + 1, 5, none⟩) yu2).trans x5
    have a6 := (hBW.cell (p := ⟨w.heap.size + 1 + 1, 6, none⟩) yu2).trans x6
    have a7 := (hBW.cell (p := ⟨w.heap.size + 1 + 1, 7, none⟩) yu2).trans x7
    have a8 := (hBW.cell (p := ⟨w.heap.size + 1 + 1, 8, none⟩) yu2).trans x8
    have a9 := (hBW.cell (p := ⟨w.heap.size + 1 + 1, 9, none⟩) yu2).trans x9
    have a10 := (hBW.cell (p := ⟨w.heap.size + 1 + 1, 10, none⟩) yu2).trans x10
    have a11 := (hBW.cell (p := ⟨w.heap.size + 1 + 1, 11, none⟩) yu2).trans x11
    have fW : ∀ o, W.frozen? ⟨w.heap.size + 1 + 1, o, none⟩ = false := fun o => (hBW.frozen (p := ⟨w.heap.size + 1 + 1, o, none⟩) yu2).trans (fu o)
    have HP := hide hp
    clear hp hBk mb0 x0 x1 x2 x3 x4 x5 x6 x7 x8 x9 x10 x11 tu
    by_cases hlt : t < (d.L i).turn
    · have HL := hide hlt
      have hlt' : decide (t < (d.L i).turn) = true := by simp [hlt]
      clear hlt
      gi_wp2
      refine wpIn_region_quiet (C := fun w' => Below W.heap.size W w') (by kernel_rfl) (by kernel_rfl) (by kernel_rfl) ((Below.refl _ _).drew) ?_
      show wpQuiet _ _ _ _ [_, _, _, _, _, _, _] _
      refine wpQuiet_step (fun K hK => ?_)
      go_simp
      refine ⟨_, fun w' hw' => rfl, hK _ ?_⟩
      clear hK K
      refine wpQuiet_step (fun K hK => ?_)
      go_simp
      refine ⟨_, fun w' hw' => rfl, hK _ ?_⟩
      clear hK K
      refine wpQuiet_step (fun K hK => ?_)
      go_simp
      refine ⟨_, fun w' hw' => rfl, hK _ ?_⟩
      clear hK K
      refine wpQuiet_step (fun K hK => ?_)
      go_simp
      refine ⟨_, fun w' hw' => rfl, hK _ ?_⟩
      clear hK K
      refine wpQuiet_step (fun K hK => ?_)
      go_simp
      apply Exists.intro
      refine And.intro (fun w' hw' => ?_) (hK _ ?_)
      · obtain ⟨hc', hf'⟩ := bcell hw'
        go_simp
        first | rfl | exact ⟨rfl, rfl⟩ | exact ⟨rfl⟩
      clear hK K
      refine wpQuiet_step (fun K hK => ?_)
      go_simp
      apply Exists.intro
      refine And.intro (fun w' hw' => ?_) (hK _ ?_)
      · obtain ⟨hc', hf'⟩ := bcell hw'
        go_simp
        first | rfl | exact ⟨rfl, rfl⟩ | exact ⟨rfl⟩
      clear hK K
      refine wpQuiet_step (fun K hK => ?_)
      go_simp
      refine ⟨_, fun w' hw' => rfl, hK _ ?_⟩
      clear hK K
      refine wpQuiet_nil ?_
      intro w5 hw5
      have HK := hide (keeps_of_below hw5)
      have HB5 := hide (bwu.trans ((hBW.trans (hw5.mono hBW.size)).mono bwu.size))
      have k0' := (hw5.cell (p := ⟨E i, 0, none⟩) hel).trans k0
      have k1' := (hw5.cell (p := ⟨E i, 1, none⟩) hel).trans k1
      have k2' := (hw5.cell (p := ⟨E i, 2, none⟩) hel).trans k2
      have k3' := (hw5.cell (p := ⟨E i, 3, none⟩) hel).trans k3
      have k4' := (hw5.cell (p := ⟨E i, 4, none⟩) hel).trans k4
      have k5' := (hw5.cell (p := ⟨E i, 5, none⟩) hel).trans v0
      have k6' := (hw5.cell (p := ⟨E i, 6, none⟩) hel).trans v1
      have k7' := (hw5.cell (p := ⟨E i, 7, none⟩) hel).trans v2
      have k8' := (hw5.cell (p := ⟨E i, 8, none⟩) hel).trans v3
      have k9' := (hw5.cell (p := ⟨E i, 9, none⟩) hel).trans v4
      have k10' := (hw5.cell (p := ⟨E i, 10, none⟩) hel).trans tn
      have a0' := (hw5.cell (p := ⟨w.heap.size + 1 + 1, 0, none⟩) hN2).trans a0
      have a1' := (hw5.cell (p := ⟨w.heap.size + 1 + 1, 1, none⟩) hN2).trans a1
      have a2' := (hw5.cell (p := ⟨w.heap.size + 1 + 1, 2, none⟩) hN2).trans a2
      have a3' := (hw5.cell (p := ⟨w.heap.size + 1 + 1, 3, none⟩) hN2).trans a3
      have a4' := (hw5.cell (p := ⟨w.heap.size + 1 + 1, 4, none⟩) hN2).trans a4
      have a5' := (hw5.cell (p := ⟨w.heap.size + 1 + 1, 5, none⟩) hN2).trans a5
      have a6' := (hw5.cell (p := ⟨w.heap.size + 1 + 1, 6, none⟩) hN2).trans a6
      have a7' := (hw5.cell (p := ⟨w.heap.size + 1 + 1, 7, none⟩) hN2).trans a7
      have a8' := (hw5.cell (p := ⟨w.heap.size + 1 + 1, 8, none⟩) hN2).trans a8
      have a9' := (hw5.cell (p := ⟨w.heap.size + 1 + 1, 9, none⟩) hN2).trans a9
      have a10' := (hw5.cell (p := ⟨w.heap.size + 1 + 1, 10, none⟩) hN2).trans a10
      have a11' := (hw5.cell (p := ⟨w.heap.size + 1 + 1, 11, none⟩) hN2).trans a11
      have f5 : ∀ o, w5.frozen? ⟨w.heap.size + 1 + 1, o, none⟩ = false := fun o => (hw5.frozen (p := ⟨w.heap.size + 1 + 1, o, none⟩) hN2).trans (fW o)
      have hel5 : E i < w5.heap.size := Nat.lt_of_lt_of_le hel hw5.size
      have hN5 : w.heap.size + 1 + 1 < w5.heap.size := Nat.lt_of_lt_of_le hN2 hw5.size
      clear hw5 k0 k1 k2 k3 k4 v0 v1 v2 v3 v4 tn a0 a1 a2 a3 a4 a5 a6 a7 a8 a9 a10 a11 fW
      gi_wp2
      refine ⟨?_, ⟨rfl, pre, ⟨i, hi, ht⟩, rfl, unhide HP, unhide HL, ?_⟩, ?_⟩
      · refine (unhide HK).trans ?_
        iterate 11 (refine KeepsOthers.trans ?_ (KeepsOthers.setCell _ _ _))
        exact KeepsOthers.setCell _ _ _
      · refine ⟨?_, ?_, ?_, ?_, ?_, ?_, ?_, ?_, ?_, ?_, ?_, ?_⟩ <;> simp [go_sem, a0', a1', a2', a3', a4', a5', a6', a7', a8', a9', a10', a11']
      · iterate 12 (refine Below.setCell ?_ (by show w.heap.size ≤ w.heap.size + 1 + 1; omega) _)
        exact unhide HB5
    · have HL := hide hlt
      have hlt' : decide (t < (d.L i).turn) = false := by simp [hlt]
      clear hlt
      gi_wp2
      refine wpIn_region_quiet (C := fun w' => Below W.heap.size W w') (by kernel_rfl) (by kernel_rfl) (by kernel_rfl) ((Below.refl _ _).drew) ?_
      show wpQuiet _ _ _ _ [_, _, _, _, _, _, _] _
      refine wpQuiet_step (fun K hK => ?_)
      go_simp
      refine ⟨_, fun w' hw' => rfl, hK _ ?_⟩
      clear hK K
      refine wpQuiet_step (fun K hK => ?_)
      go_simp
      refine ⟨_, fun w' hw' => rfl, hK _ ?_⟩
      clear hK K
      refine wpQuiet_step (fun K hK => ?_)
      go_simp
      refine ⟨_, fun w' hw' => rfl, hK _ ?_⟩
      clear hK K
      refine wpQuiet_step (fun K hK => ?_)
      go_simp
      refine ⟨_, fun w' hw' => rfl, hK _ ?_⟩
      clear hK K
      refine wpQuiet_step (fun K hK => ?_)
      go_simp
      apply Exists.intro
      refine And.intro (fun w' hw' => ?_) (hK _ ?_)
      · obtain ⟨hc', hf'⟩ := bcell hw'
        go_simp
        first | rfl | exact ⟨rfl, rfl⟩ | exact ⟨rfl⟩
      clear hK K
      refine wpQuiet_step (fun K hK => ?_)
      go_simp
      apply Exists.intro
      refine And.intro (fun w' hw' => ?_) (hK _ ?_)
      · obtain ⟨hc', hf'⟩ := bcell hw'
        go_simp
        first | rfl | exact ⟨rfl, rfl⟩ | exact ⟨rfl⟩
      clear hK K
      refine wpQuiet_step (fun K hK => ?_)
      go_simp
      refine ⟨_, fun w' hw' => rfl, hK _ ?_⟩
      clear hK K
      refine wpQuiet_nil ?_
      intro w5 hw5
      have HK := hide (keeps_of_below hw5)
      have HB5 := hide hw5
      clear hw5
      gi_wp2
      exact ⟨unhide HK, (unhide HB5).mono hBW.size, fun y hy => (List.mem_append.1 hy).elim (unhide HP y) (fun e => by rw [List.mem_singleton] at e; subst e; exact Int.not_lt.2 (unhide HL)), hBW.trans ((unhide HB5).mono hBW.size)⟩
  case done =>
    rintro D ys W hD hlv ⟨hp, hBW⟩ hK
    have HR : Hid (outA d t = (false, default)) := hide (outA_none (unhide HOK) (aftL_none (fun i hi => by
      rw [← show ys.map (·.1) = livL d d.n from hlv] at hi
      obtain ⟨y, hy, rfl⟩ := List.mem_map.1 hi
      exact hp y hy)))
    have c0 := (hBW.cell (p := ⟨w.heap.size + 1 + 1, 0, none⟩) yu2).trans x0
    have c1 := (hBW.cell (p := ⟨w.heap.size + 1 + 1, 1, none⟩) yu2).trans x1
    have c2 := (hBW.cell (p := ⟨w.heap.size + 1 + 1, 2, none⟩) yu2).trans x2
    have c3 := (hBW.cell (p := ⟨w.heap.size + 1 + 1, 3, none⟩) yu2).trans x3
    have c4 := (hBW.cell (p := ⟨w.heap.size + 1 + 1, 4, none⟩) yu2).trans x4
    have c5 := (hBW.cell (p := ⟨w.heap.size + 1 + 1, 5, none⟩) yu2).trans x5
    have c6 := (hBW.cell (p := ⟨w.heap.size + 1 + 1, 6, none⟩) yu2).trans x6
    have c7 := (hBW.cell (p := ⟨w.heap.size + 1 + 1, 7, none⟩) yu2).trans x7
    have c8 := (hBW.cell (p := ⟨w.heap.size + 1 + 1, 8, none⟩) yu2).trans x8
    have c9 := (hBW.cell (p := ⟨w.heap.size + 1 + 1, 9, none⟩) yu2).trans x9
    have c10 := (hBW.cell (p := ⟨w.heap.size + 1 + 1, 10, none⟩) yu2).trans x10
    have c11 := (hBW.cell (p := ⟨w.heap.size + 1 + 1, 11, none⟩) yu2).trans x11
    have fW : ∀ o, W.frozen? ⟨w.heap.size + 1 + 1, o, none⟩ = false := fun o => (hBW.frozen (p := ⟨w.heap.size + 1 + 1, o, none⟩) yu2).trans (fu o)
    clear hlv hp x0 x1 x2 x3 x4 x5 x6 x7 x8 x9 x10 x11
    gi_wp2
    obtain ⟨W9, hW9⟩ : ∃ W9, W9 = ((((((((((((W.setCell ⟨w.heap.size + 1 + 1, 0, none⟩ (.bool false)).setCell ⟨w.heap.size + 1 + 1, 1, none⟩ (.int .i64 0)).setCell ⟨w.heap.size + 1 + 1, 2, none⟩ (.int .i64 0)).setCell ⟨w.heap.size + 1 + 1, 3, none⟩ (.float .f64 0)).setCell ⟨w.heap.size + 1 + 1, 4, none⟩ (.string ⟨#[]⟩)).setCell ⟨w.heap.size + 1 + 1, 5, none⟩ (.int .i64 0)).setCell ⟨w.heap.size + 1 + 1, 6, none⟩ (.int .i64 0)).setCell ⟨w.heap.size + 1 + 1, 7, none⟩ (.int .i64 0)).setCell ⟨w.heap.size + 1 + 1, 8, none⟩ (.float .f64 0)).setCell ⟨w.heap.size + 1 + 1, 9, none⟩ (.string ⟨#[]⟩)).setCell ⟨w.heap.size + 1 + 1, 10, none⟩ (.int .i64 0)).setCell ⟨w.heap.size + 1 + 1, 11, none⟩ (.int .i64 0)) := ⟨_, rfl⟩
    rw [← hW9]
    have hKO : KeepsOthers W W9 := by
      rw [hW9]
      iterate 11 (refine KeepsOthers.trans ?_ (KeepsOthers.setCell _ _ _))
      exact KeepsOthers.setCell _ _ _
    have hK' := hKO.same D _ hK rfl
    have hB9 : Below w.heap.size w W9 := by
      rw [hW9]
      iterate 12 (refine Below.setCell ?_ (by show w.heap.size ≤ w.heap.size + 1 + 1; omega) _)
      exact bwu.trans (hBW.mono bwu.size)
    have d0 : W9.cell? ⟨w.heap.size + 1 + 1, 0, none⟩ = some (.bool false) := by rw [hW9]; simp [go_sem, c0]
    have d1 : W9.cell? ⟨w.heap.size + 1 + 1, 1, none⟩ = some (.int .i64 0) := by rw [hW9]; simp [go_sem, c1]
    have d2 : W9.cell? ⟨w.heap.size + 1 + 1, 2, none⟩ = some (.int .i64 0) := by rw [hW9]; simp [go_sem, c2]
    have d3 : W9.cell? ⟨w.heap.size + 1 + 1, 3, none⟩ = some (.float .f64 0) := by rw [hW9]; simp [go_sem, c3]
    have d4 : W9.cell? ⟨w.heap.size + 1 + 1, 4, none⟩ = some (.string ⟨#[]⟩) := by rw [hW9]; simp [go_sem, c4]
    have d5 : W9.cell? ⟨w.heap.size + 1 + 1, 5, none⟩ = some (.int .i64 0) := by rw [hW9]; simp [go_sem, c5]
    have d6 : W9.cell? ⟨w.heap.size + 1 + 1, 6, none⟩ = some (.int .i64 0) := by rw [hW9]; simp [go_sem, c6]
    have d7 : W9.cell? ⟨w.heap.size + 1 + 1, 7, none⟩ = some (.int .i64 0) := by rw [hW9]; simp [go_sem, c7]
    have d8 : W9.cell? ⟨w.heap.size + 1 + 1, 8, none⟩ = some (.float .f64 0) := by rw [hW9]; simp [go_sem, c8]
    have d9 : W9.cell? ⟨w.heap.size + 1 + 1, 9, none⟩ = some (.string ⟨#[]⟩) := by rw [hW9]; simp [go_sem, c9]
    have d10 : W9.cell? ⟨w.heap.size + 1 + 1, 10, none⟩ = some (.int .i64 0) := by rw [hW9]; simp [go_sem, c10]
    have d11 : W9.cell? ⟨w.heap.size + 1 + 1, 11, none⟩ = some (.int .i64 0) := by rw [hW9]; simp [go_sem, c11]
    refine ⟨by simp, .inl ⟨_, _, rfl, run_takeDeferred hK', ?_⟩⟩
    have e0 := cell_kept d0 (grownBy_putObj' _ D (.deferred none)) (fun r e => by cases e; exact ⟨_, hK', rfl⟩)
    have e1 := cell_kept d1 (grownBy_putObj' _ D (.deferred none)) (fun r e => by cases e; exact ⟨_, hK', rfl⟩)
    have e2 := cell_kept d2 (grownBy_putObj' _ D (.deferred none)) (fun r e => by cases e; exact ⟨_, hK', rfl⟩)
    have e3 := cell_kept d3 (grownBy_putObj' _ D (.deferred none)) (fun r e => by cases e; exact ⟨_, hK', rfl⟩)
    have e4 := cell_kept d4 (grownBy_putObj' _ D (.deferred none)) (fun r e => by cases e; exact ⟨_, hK', rfl⟩)
    have e5 := cell_kept d5 (grownBy_putObj' _ D (.deferred none)) (fun r e => by cases e; exact ⟨_, hK', rfl⟩)
    have e6 := cell_kept d6 (grownBy_putObj' _ D (.deferred none)) (fun r e => by cases e; exact ⟨_, hK', rfl⟩)
    have e7 := cell_kept d7 (grownBy_putObj' _ D (.deferred none)) (fun r e => by cases e; exact ⟨_, hK', rfl⟩)
    have e8 := cell_kept d8 (grownBy_putObj' _ D (.deferred none)) (fun r e => by cases e; exact ⟨_, hK', rfl⟩)
    have e9 := cell_kept d9 (grownBy_putObj' _ D (.deferred none)) (fun r e => by cases e; exact ⟨_, hK', rfl⟩)
    have e10 := cell_kept d10 (grownBy_putObj' _ D (.deferred none)) (fun r e => by cases e; exact ⟨_, hK', rfl⟩)
    have e11 := cell_kept d11 (grownBy_putObj' _ D (.deferred none)) (fun r e => by cases e; exact ⟨_, hK', rfl⟩)
    refine ⟨.agg #[.bool false, .int .i64 0, .int .i64 0, .float .f64 0, .string ⟨#[]⟩, .int .i64 0, .int .i64 0, .int .i64 0, .float .f64 0, .string ⟨#[]⟩, .int .i64 0, .int .i64 0], ?_, by rw [unhide HR]; rfl, hB9.trans (belowK_b (w := w) (Nat.le_refl _) _ D _ _ (Nat.le_trans bwu.size hD) hK' rfl rfl)⟩
    simp [results, Tryz.f25, go_sem, e0, e1, e2, e3, e4, e5, e6, e7, e8, e9, e10, e11]
  case stop =>
    rintro D c pre W hD hpre ⟨⟨rfl, pre', y, rfl, h1, h2, c0, c1, c2, c3, c4, c5, c6, c7, c8, c9, c10, c11⟩, hBW⟩ hK
    have hp : (pre' ++ [y]).map (·.1) <+: livL d d.n := hpre
    rw [List.map_append] at hp
    have HR : Hid (outA d t = (true, d.L y.1)) := hide (outA_some (unhide HOK) (aftL_hit (fun b hb => by obtain ⟨z, hz, rfl⟩ := List.mem_map.1 hb; exact h1 z hz) hp h2))
    clear hpre h1 h2 hp
    gi_wp2
    refine ⟨by simp, .inl ⟨_, _, rfl, run_takeDeferred hK, ?_⟩⟩
    have e0 := cell_kept c0 (grownBy_putObj' _ D (.deferred none)) (fun r e => by cases e; exact ⟨_, hK, rfl⟩)
    have e1 := cell_kept c1 (grownBy_putObj' _ D (.deferred none)) (fun r e => by cases e; exact ⟨_, hK, rfl⟩)
    have e2 := cell_kept c2 (grownBy_putObj' _ D (.deferred none)) (fun r e => by cases e; exact ⟨_, hK, rfl⟩)
    have e3 := cell_kept c3 (grownBy_putObj' _ D (.deferred none)) (fun r e => by cases e; exact ⟨_, hK, rfl⟩)
    have e4 := cell_kept c4 (grownBy_putObj' _ D (.deferred none)) (fun r e => by cases e; exact ⟨_, hK, rfl⟩)
    have e5 := cell_kept c5 (grownBy_putObj' _ D (.deferred none)) (fun r e => by cases e; exact ⟨_, hK, rfl⟩)
    have e6 := cell_kept c6 (grownBy_putObj' _ D (.deferred none)) (fun r e => by cases e; exact ⟨_, hK, rfl⟩)
    have e7 := cell_kept c7 (grownBy_putObj' _ D (.deferred none)) (fun r e => by cases e; exact ⟨_, hK, rfl⟩)
    have e8 := cell_kept c8 (grownBy_putObj' _ D (.deferred none)) (fun r e => by cases e; exact ⟨_, hK, rfl⟩)
    have e9 := cell_kept c9 (grownBy_putObj' _ D (.deferred none)) (fun r e => by cases e; exact ⟨_, hK, rfl⟩)
    have e10 := cell_kept c10 (grownBy_putObj' _ D (.deferred none)) (fun r e => by cases e; exact ⟨_, hK, rfl⟩)
    have e11 := cell_kept c11 (grownBy_putObj' _ D (.deferred none)) (fun r e => by cases e; exact ⟨_, hK, rfl⟩)
    refine ⟨FV true (d.L y.1), ?_, by rw [unhide HR], hBW.trans (belowK_b (w := w) (Nat.le_refl _) W D _ _ (Nat.le_trans bwu.size hD) hK rfl rfl)⟩
    simp [results, Tryz.f25, go_sem, e0, e1, e2, e3, e4, e5, e6, e7, e8, e9, e10, e11]
end Go.Proofs.YtglcaejddckleaaGreatDoor
