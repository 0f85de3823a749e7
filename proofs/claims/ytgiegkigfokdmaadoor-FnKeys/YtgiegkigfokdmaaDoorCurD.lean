/-
  The drawing cursor: a value that is mostly not valid; what is drawn for KeyOf.
-/
import Derived.Test.YtgiegkigfokdmaaDoorCurC
namespace Go.Proofs.YtgiegkigfokdmaaDoor
open Go.RowKit
set_option linter.unusedVariables false
attribute [local go_sem] run_store_float run_equalIn_float

set_option maxHeartbeats 4000000 in
theorem bad_any (b N : Nat) (w : World) (h : Cu b N w) (hN : N ≤ 1099511600000) :
    Calls Tryd.prog 33 #[.pointer (some ⟨b, 0, none⟩)] w fun e w' => (∃ (kind num : Int) (flt : Nat) (s : ByteArray) (ref : Int), e = .returned (V kind num flt s ref) ∧ s.size ≤ 4000 ∧ flt < 18446744073709551616) ∧ Cu b (N + 20) w' ∧ Gr b w w' := by
  have hbw := h.lt
  have n0 : ¬ w.heap.size = b := by omega
  have HG0 := hide (Gr.of_below (b := b) ((Below.refl w.heap.size w).alloc (Nat.le_refl _) (.cells #[.int .i64 0, .int .i64 0, .float .f64 0, .string ⟨#[]⟩, .int .i64 0] 32)))
  have H := hide (h.below ((Below.refl w.heap.size w).alloc (Nat.le_refl _) (.cells #[.int .i64 0, .int .i64 0, .float .f64 0, .string ⟨#[]⟩, .int .i64 0] 32)) hbw)
  clear h
  go_enter Tryd.func33, Tryd.ntmps33
  go_wp2_with fail
  refine (key_any b N _ (unhide H) (by omega)).mono ?_
  rintro e w1 ⟨⟨kind, num, flt, s, ref, rfl, hsz, hf⟩, hc1, hg1⟩
  have hz1 := hg1.size
  simp at hz1
  have n1 : ¬ w1.heap.size = b := by omega
  have hbk : Below w1.heap.size w1 (w1.alloc (.cells #[.int .i64 kind, .int .i64 num, .float .f64 flt, .string s, .int .i64 ref] 32)) := (Below.refl _ _).alloc (Nat.le_refl _) _
  have HC1 := hide (hc1.below hbk hc1.lt)
  have HG1 := hide (hg1.trans (Gr.of_below hbk))
  clear hc1 hg1 hbk
  go_wp2_with fail
  refine (pick_any b (N + 10) 5 _ (unhide HC1) (by omega) (by omega) (by omega)).mono ?_
  rintro e w2 ⟨⟨x, rfl, hx0, hx1⟩, hc2, hs2⟩
  have hz2 := hs2.size
  simp at hz2
  have HG2 := hide ((unhide HG1).trans hs2.gr)
  have HC2 := hide hc2
  have rv : ∀ o, w2.cell? ⟨w1.heap.size, o, none⟩ = (w1.alloc (.cells #[.int .i64 kind, .int .i64 num, .float .f64 flt, .string s, .int .i64 ref] 32)).cell? ⟨w1.heap.size, o, none⟩ := fun o => hs2.cell w1.heap.size o n1
  have rvf : ∀ o, w2.frozen? ⟨w1.heap.size, o, none⟩ = (w1.alloc (.cells #[.int .i64 kind, .int .i64 num, .float .f64 flt, .string s, .int .i64 ref] 32)).frozen? ⟨w1.heap.size, o, none⟩ := fun o => hs2.frozen w1.heap.size o n1
  clear hc2 hs2
  have m1 : ¬ w.heap.size = w1.heap.size := by omega
  by_cases x0 : x = 0
  · subst x0
    go_wp2_with fail
    refine (pick_any b (N + 12) 11 _ (unhide HC2) (by omega) (by omega) (by omega)).mono ?_
    rintro e w3 ⟨⟨y, rfl, hy0, hy1⟩, hc3, hs3⟩
    have HG3 := hide ((unhide HG2).trans hs3.gr)
    have HC3 := hide hc3
    have rv3 : ∀ o, w3.cell? ⟨w1.heap.size, o, none⟩ = (w1.alloc (.cells #[.int .i64 kind, .int .i64 num, .float .f64 flt, .string s, .int .i64 ref] 32)).cell? ⟨w1.heap.size, o, none⟩ := fun o => (hs3.cell w1.heap.size o n1).trans (rv o)
    have rvf3 : ∀ o, w3.frozen? ⟨w1.heap.size, o, none⟩ = (w1.alloc (.cells #[.int .i64 kind, .int .i64 num, .float .f64 flt, .string s, .int .i64 ref] 32)).frozen? ⟨w1.heap.size, o, none⟩ := fun o => (hs3.frozen w1.heap.size o n1).trans (rvf o)
    clear hc3 hs3 rv rvf
    have rc : ∀ o, w3.cell? ⟨w.heap.size, o, none⟩ = (w.alloc (.cells #[.int .i64 0, .int .i64 0, .float .f64 0, .string ⟨#[]⟩, .int .i64 0] 32)).cell? ⟨w.heap.size, o, none⟩ := fun o => (unhide HG3).cell w.heap.size o n0 (by simp)
    have rf : ∀ o, w3.frozen? ⟨w.heap.size, o, none⟩ = (w.alloc (.cells #[.int .i64 0, .int .i64 0, .float .f64 0, .string ⟨#[]⟩, .int .i64 0] 32)).frozen? ⟨w.heap.size, o, none⟩ := fun o => (unhide HG3).frozen w.heap.size o n0 (by simp)
    go_wp2_with fail
    have b9 := below_set5 ((Below.refl w.heap.size w3).setCell (p := ⟨w1.heap.size, 0, none⟩) (by simp; omega) (.int .i64 (y - 1))) w.heap.size (Nat.le_refl _) (.int .i64 (y - 1)) (.int .i64 num) (.float .f64 flt) (.string s) (.int .i64 ref)
    exact bodyPost_ret (v := V (y - 1) num flt s ref) (by simp [results, Tryd.results33, go_sem, rc]) rfl ⟨⟨(y - 1), num, flt, s, ref, rfl, hsz, hf⟩, ((unhide HC3).mono (by omega)).below b9 hbw, ((unhide HG0).trans (unhide HG3)).then_below b9 (Nat.le_refl _)⟩
  have b0 : (x == 0) = false := by simp [x0]
  by_cases x1 : x = 1
  · subst x1
    go_wp2_with fail
    refine (whole_any b (N + 12) _ (unhide HC2) (by omega)).mono ?_
    rintro e w3 ⟨⟨y, rfl⟩, hc3, hs3⟩
    have HG3 := hide ((unhide HG2).trans hs3.gr)
    have HC3 := hide hc3
    have rv3 : ∀ o, w3.cell? ⟨w1.heap.size, o, none⟩ = (w1.alloc (.cells #[.int .i64 kind, .int .i64 num, .float .f64 flt, .string s, .int .i64 ref] 32)).cell? ⟨w1.heap.size, o, none⟩ := fun o => (hs3.cell w1.heap.size o n1).trans (rv o)
    have rvf3 : ∀ o, w3.frozen? ⟨w1.heap.size, o, none⟩ = (w1.alloc (.cells #[.int .i64 kind, .int .i64 num, .float .f64 flt, .string s, .int .i64 ref] 32)).frozen? ⟨w1.heap.size, o, none⟩ := fun o => (hs3.frozen w1.heap.size o n1).trans (rvf o)
    clear hc3 hs3 rv rvf
    have rc : ∀ o, w3.cell? ⟨w.heap.size, o, none⟩ = (w.alloc (.cells #[.int .i64 0, .int .i64 0, .float .f64 0, .string ⟨#[]⟩, .int .i64 0] 32)).cell? ⟨w.heap.size, o, none⟩ := fun o => (unhide HG3).cell w.heap.size o n0 (by simp)
    have rf : ∀ o, w3.frozen? ⟨w.heap.size, o, none⟩ = (w.alloc (.cells #[.int .i64 0, .int .i64 0, .float .f64 0, .string ⟨#[]⟩, .int .i64 0] 32)).frozen? ⟨w.heap.size, o, none⟩ := fun o => (unhide HG3).frozen w.heap.size o n0 (by simp)
    go_wp2_with fail
    have b9 := below_set5 ((Below.refl w.heap.size w3).setCell (p := ⟨w1.heap.size, 1, none⟩) (by simp; omega) (.int .i64 y)) w.heap.size (Nat.le_refl _) (.int .i64 kind) (.int .i64 y) (.float .f64 flt) (.string s) (.int .i64 ref)
    exact bodyPost_ret (v := V kind y flt s ref) (by simp [results, Tryd.results33, go_sem, rc]) rfl ⟨⟨kind, y, flt, s, ref, rfl, hsz, hf⟩, ((unhide HC3).mono (by omega)).below b9 hbw, ((unhide HG0).trans (unhide HG3)).then_below b9 (Nat.le_refl _)⟩
  have b1 : (x == 1) = false := by simp [x1]
  by_cases x2 : x = 2
  · subst x2
    have rc : ∀ o, w2.cell? ⟨w.heap.size, o, none⟩ = (w.alloc (.cells #[.int .i64 0, .int .i64 0, .float .f64 0, .string ⟨#[]⟩, .int .i64 0] 32)).cell? ⟨w.heap.size, o, none⟩ := fun o => (unhide HG2).cell w.heap.size o n0 (by simp)
    have rf : ∀ o, w2.frozen? ⟨w.heap.size, o, none⟩ = (w.alloc (.cells #[.int .i64 0, .int .i64 0, .float .f64 0, .string ⟨#[]⟩, .int .i64 0] 32)).frozen? ⟨w.heap.size, o, none⟩ := fun o => (unhide HG2).frozen w.heap.size o n0 (by simp)
    go_wp2_with fail
    have b9 := below_set5 ((Below.refl w.heap.size w2).setCell (p := ⟨w1.heap.size, 2, none⟩) (by simp; omega) (.float .f64 13826050856027422720)) w.heap.size (Nat.le_refl _) (.int .i64 kind) (.int .i64 num) (.float .f64 13826050856027422720) (.string s) (.int .i64 ref)
    exact bodyPost_ret (v := V kind num 13826050856027422720 s ref) (by simp [results, Tryd.results33, go_sem, rc]) rfl ⟨⟨kind, num, 13826050856027422720, s, ref, rfl, hsz, by decide⟩, ((unhide HC2).mono (by omega)).below b9 hbw, ((unhide HG0).trans (unhide HG2)).then_below b9 (Nat.le_refl _)⟩
  have b2 : (x == 2) = false := by simp [x2]
  by_cases x3 : x = 3
  · subst x3
    go_wp2_with fail
    refine (pick_any b (N + 12) 3 _ (unhide HC2) (by omega) (by omega) (by omega)).mono ?_
    rintro e w3 ⟨⟨y, rfl, hy0, hy1⟩, hc3, hs3⟩
    have HG3 := hide ((unhide HG2).trans hs3.gr)
    have HC3 := hide hc3
    have rv3 : ∀ o, w3.cell? ⟨w1.heap.size, o, none⟩ = (w1.alloc (.cells #[.int .i64 kind, .int .i64 num, .float .f64 flt, .string s, .int .i64 ref] 32)).cell? ⟨w1.heap.size, o, none⟩ := fun o => (hs3.cell w1.heap.size o n1).trans (rv o)
    have rvf3 : ∀ o, w3.frozen? ⟨w1.heap.size, o, none⟩ = (w1.alloc (.cells #[.int .i64 kind, .int .i64 num, .float .f64 flt, .string s, .int .i64 ref] 32)).frozen? ⟨w1.heap.size, o, none⟩ := fun o => (hs3.frozen w1.heap.size o n1).trans (rvf o)
    clear hc3 hs3 rv rvf
    have rc : ∀ o, w3.cell? ⟨w.heap.size, o, none⟩ = (w.alloc (.cells #[.int .i64 0, .int .i64 0, .float .f64 0, .string ⟨#[]⟩, .int .i64 0] 32)).cell? ⟨w.heap.size, o, none⟩ := fun o => (unhide HG3).cell w.heap.size o n0 (by simp)
    have rf : ∀ o, w3.frozen? ⟨w.heap.size, o, none⟩ = (w.alloc (.cells #[.int .i64 0, .int .i64 0, .float .f64 0, .string ⟨#[]⟩, .int .i64 0] 32)).frozen? ⟨w.heap.size, o, none⟩ := fun o => (unhide HG3).frozen w.heap.size o n0 (by simp)
    go_wp2_with fail
    have b9 := below_set5 ((Below.refl w.heap.size w3).setCell (p := ⟨w1.heap.size, 4, none⟩) (by simp; omega) (.int .i64 (y - 1))) w.heap.size (Nat.le_refl _) (.int .i64 kind) (.int .i64 num) (.float .f64 flt) (.string s) (.int .i64 (y - 1))
    exact bodyPost_ret (v := V kind num flt s (y - 1)) (by simp [results, Tryd.results33, go_sem, rc]) rfl ⟨⟨kind, num, flt, s, (y - 1), rfl, hsz, hf⟩, ((unhide HC3).mono (by omega)).below b9 hbw, ((unhide HG0).trans (unhide HG3)).then_below b9 (Nat.le_refl _)⟩
  have b3 : (x == 3) = false := by simp [x3]
  have rc : ∀ o, w2.cell? ⟨w.heap.size, o, none⟩ = (w.alloc (.cells #[.int .i64 0, .int .i64 0, .float .f64 0, .string ⟨#[]⟩, .int .i64 0] 32)).cell? ⟨w.heap.size, o, none⟩ := fun o => (unhide HG2).cell w.heap.size o n0 (by simp)
  have rf : ∀ o, w2.frozen? ⟨w.heap.size, o, none⟩ = (w.alloc (.cells #[.int .i64 0, .int .i64 0, .float .f64 0, .string ⟨#[]⟩, .int .i64 0] 32)).frozen? ⟨w.heap.size, o, none⟩ := fun o => (unhide HG2).frozen w.heap.size o n0 (by simp)
  go_wp2_with fail
  have b9 := below_set5 (Below.refl w.heap.size w2) w.heap.size (Nat.le_refl _) (.int .i64 kind) (.int .i64 num) (.float .f64 flt) (.string s) (.int .i64 ref)
  exact bodyPost_ret (v := V kind num flt s ref) (by simp [results, Tryd.results33, go_sem, rc]) rfl ⟨⟨kind, num, flt, s, ref, rfl, hsz, hf⟩, ((unhide HC2).mono (by omega)).below b9 hbw, ((unhide HG0).trans (unhide HG2)).then_below b9 (Nat.le_refl _)⟩

set_option maxHeartbeats 4000000 in
theorem drawKey_any (a : Option Addr) (len cap : Nat) (w : World) (hcode : CodeAt w w.heap.size a len) :
    Calls Tryd.prog 14 #[.slice a len cap] w fun e w' => (∃ (kind num : Int) (flt : Nat) (s : ByteArray) (ref : Int), e = .returned (V kind num flt s ref) ∧ s.size ≤ 4000 ∧ flt < 18446744073709551616) ∧ Below w.heap.size w w' := by
  have HCode := hide hcode
  clear hcode
  go_enter Tryd.func14, Tryd.ntmps14
  go_wp2_with fail
  have hU : Below w.heap.size w ((w.alloc (.cells #[.int .i64 0, .int .i64 0, .float .f64 0, .string ⟨#[]⟩, .int .i64 0] 32)).alloc (.cells #[.slice a len cap, .int .i64 0, .int .u64 0] 68)) := ((Below.refl w.heap.size w).alloc (Nat.le_refl _) _).alloc (by simp) _
  have n0 : ¬ w.heap.size = w.heap.size + 1 := by omega
  have hcu : Cu (w.heap.size + 1) 0 ((w.alloc (.cells #[.int .i64 0, .int .i64 0, .float .f64 0, .string ⟨#[]⟩, .int .i64 0] 32)).alloc (.cells #[.slice a len cap, .int .i64 0, .int .u64 0] 68)) := by
    refine ⟨⟨a, len, cap, 0, 0, by simp [go_sem], by simp [go_sem], by simp [go_sem], by omega, by omega, by omega, by omega, ?_⟩, fun o => by simp [go_sem]⟩
    obtain ⟨h1, h2⟩ := unhide HCode
    refine ⟨h1, ?_⟩
    rcases h2 with h | ⟨k, off, e, hk, hc⟩
    · exact .inl h
    · refine .inr ⟨k, off, e, by omega, fun i hi => ?_⟩
      obtain ⟨z, hz, hr⟩ := hc i hi
      exact ⟨z, (hU.cell (p := ⟨k, off + i, none⟩) hk).trans hz, hr⟩
  refine (pick_any (w.heap.size + 1) 0 2 _ hcu (by omega) (by omega) (by omega)).mono ?_
  rintro e w1 ⟨⟨x, rfl, hx0, hx1⟩, hc1, hs1⟩
  have HC1 := hide hc1
  have HS1 := hide hs1
  clear hc1 hs1 hcu
  by_cases x0 : x = 0
  · subst x0
    go_wp2_with fail
    refine (bad_any (w.heap.size + 1) 2 _ (unhide HC1) (by omega)).mono ?_
    rintro e w2 ⟨⟨kind, num, flt, s, ref, rfl, hsz, hf⟩, hc2, hg2⟩
    have HG := hide ((unhide HS1).gr.trans hg2)
    clear hc2 hg2
    have rc : ∀ o, w2.cell? ⟨w.heap.size, o, none⟩ = ((w.alloc (.cells #[.int .i64 0, .int .i64 0, .float .f64 0, .string ⟨#[]⟩, .int .i64 0] 32)).alloc (.cells #[.slice a len cap, .int .i64 0, .int .u64 0] 68)).cell? ⟨w.heap.size, o, none⟩ := fun o => (unhide HG).cell w.heap.size o n0 (by simp; omega)
    have rf : ∀ o, w2.frozen? ⟨w.heap.size, o, none⟩ = ((w.alloc (.cells #[.int .i64 0, .int .i64 0, .float .f64 0, .string ⟨#[]⟩, .int .i64 0] 32)).alloc (.cells #[.slice a len cap, .int .i64 0, .int .u64 0] 68)).frozen? ⟨w.heap.size, o, none⟩ := fun o => (unhide HG).frozen w.heap.size o n0 (by simp; omega)
    go_wp2_with fail
    have b9 := below_set5 (hU.trans ((unhide HG).below (B := w.heap.size) (by omega) (by simp; omega))) w.heap.size (Nat.le_refl _) (.int .i64 kind) (.int .i64 num) (.float .f64 flt) (.string s) (.int .i64 ref)
    exact bodyPost_ret (v := V kind num flt s ref) (by simp [results, Tryd.results14, go_sem, rc]) rfl ⟨⟨kind, num, flt, s, ref, rfl, hsz, hf⟩, b9⟩
  · have b0 : (x == 0) = false := by simp [x0]
    go_wp2_with fail
    refine (key_any (w.heap.size + 1) 2 _ (unhide HC1) (by omega)).mono ?_
    rintro e w2 ⟨⟨kind, num, flt, s, ref, rfl, hsz, hf⟩, hc2, hg2⟩
    have HG := hide ((unhide HS1).gr.trans hg2)
    clear hc2 hg2
    have rc : ∀ o, w2.cell? ⟨w.heap.size, o, none⟩ = ((w.alloc (.cells #[.int .i64 0, .int .i64 0, .float .f64 0, .string ⟨#[]⟩, .int .i64 0] 32)).alloc (.cells #[.slice a len cap, .int .i64 0, .int .u64 0] 68)).cell? ⟨w.heap.size, o, none⟩ := fun o => (unhide HG).cell w.heap.size o n0 (by simp; omega)
    have rf : ∀ o, w2.frozen? ⟨w.heap.size, o, none⟩ = ((w.alloc (.cells #[.int .i64 0, .int .i64 0, .float .f64 0, .string ⟨#[]⟩, .int .i64 0] 32)).alloc (.cells #[.slice a len cap, .int .i64 0, .int .u64 0] 68)).frozen? ⟨w.heap.size, o, none⟩ := fun o => (unhide HG).frozen w.heap.size o n0 (by simp; omega)
    go_wp2_with fail
    have b9 := below_set5 (hU.trans ((unhide HG).below (B := w.heap.size) (by omega) (by simp; omega))) w.heap.size (Nat.le_refl _) (.int .i64 kind) (.int .i64 num) (.float .f64 flt) (.string s) (.int .i64 ref)
    exact bodyPost_ret (v := V kind num flt s ref) (by simp [results, Tryd.results14, go_sem, rc]) rfl ⟨⟨kind, num, flt, s, ref, rfl, hsz, hf⟩, b9⟩
end Go.Proofs.YtgiegkigfokdmaaDoor
