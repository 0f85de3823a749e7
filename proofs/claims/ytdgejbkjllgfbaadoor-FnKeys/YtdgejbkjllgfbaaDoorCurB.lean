/-
  The drawing cursor: whole, word, flt.
-/
import Derived.Test.YtdgejbkjllgfbaaDoorCurA
import Derived.Test.YtdgejbkjllgfbaaDoorHashE
import Derived.Test.YtdgejbkjllgfbaaDoorKeyD
namespace Go.Proofs.YtdgejbkjllgfbaaDoor
open Go.RowKit
set_option linter.unusedVariables false
attribute [local go_sem] run_store_float run_equalIn_float

/-- Nothing that was there has turned but block b; new blocks may have come. -/
structure Gr (b : Nat) (w w' : World) : Prop where
  os : w'.os = w.os
  tape : w'.tape = w.tape
  output : w'.output = w.output
  size : w.heap.size ≤ w'.heap.size
  block : ∀ k, k ≠ b → k < w.heap.size → w'.heap[k]? = w.heap[k]?

theorem Stp.gr {b : Nat} {w w' : World} (h : Stp b w w') : Gr b w w' := ⟨h.os, h.tape, h.output, by rw [h.size]; exact Nat.le_refl _, fun k hk _ => h.block k hk⟩
theorem Gr.trans {b : Nat} {u v w : World} (h : Gr b u v) (k : Gr b v w) : Gr b u w :=
  ⟨k.os.trans h.os, k.tape.trans h.tape, k.output.trans h.output, Nat.le_trans h.size k.size, fun i hi hs => (k.block i hi (Nat.lt_of_lt_of_le hs h.size)).trans (h.block i hi hs)⟩
theorem Gr.of_below {b : Nat} {w w' : World} (h : Below w.heap.size w w') : Gr b w w' := ⟨h.os, h.tape, h.output, h.size, fun k _ hk => h.block k hk⟩
theorem Gr.cell {b : Nat} {w w' : World} (h : Gr b w w') : ∀ k o, k ≠ b → k < w.heap.size → w'.cell? ⟨k, o, none⟩ = w.cell? ⟨k, o, none⟩ := fun k o hk hs => World.cell?_of_block (w := w) (h.block k hk hs)
theorem Gr.frozen {b : Nat} {w w' : World} (h : Gr b w w') : ∀ k o, k ≠ b → k < w.heap.size → w'.frozen? ⟨k, o, none⟩ = w.frozen? ⟨k, o, none⟩ := fun k o hk hs => World.frozen?_of_block (w := w) (h.block k hk hs)
theorem Gr.below {b B : Nat} {w w' : World} (h : Gr b w w') (h1 : B ≤ b) (h2 : B ≤ w.heap.size) : Below B w w' := ⟨h.os, h.tape, h.output, h.size, fun k hk => h.block k (by omega) (by omega)⟩

theorem below_set5 {B : Nat} {a w : World} (h : Below B a w) (b : Nat) (hb : B ≤ b) (v0 v1 v2 v3 v4 : Value) :
    Below B a (((((w.setCell ⟨b, 0, none⟩ v0).setCell ⟨b, 1, none⟩ v1).setCell ⟨b, 2, none⟩ v2).setCell ⟨b, 3, none⟩ v3).setCell ⟨b, 4, none⟩ v4) :=
  ((((h.setCell (p := ⟨b, 0, none⟩) hb v0).setCell (p := ⟨b, 1, none⟩) hb v1).setCell (p := ⟨b, 2, none⟩) hb v2).setCell (p := ⟨b, 3, none⟩) hb v3).setCell (p := ⟨b, 4, none⟩) hb v4
theorem Gr.then_below {b B : Nat} {u v w : World} (h : Gr b u v) (k : Below B v w) (hB : u.heap.size ≤ B) : Gr b u w :=
  ⟨k.os.trans h.os, k.tape.trans h.tape, k.output.trans h.output, Nat.le_trans h.size k.size, fun i hi hs => (k.block i (by omega)).trans (h.block i hi hs)⟩

theorem CodeAt.of_eq {b : Nat} {w w' : World} {a : Option Addr} {len : Nat} (h : CodeAt w b a len) (s : ∀ k, k < b → w'.heap[k]? = w.heap[k]?) : CodeAt w' b a len := by
  refine ⟨h.1, ?_⟩
  rcases h.2 with h | ⟨k, off, e, hk, hc⟩
  · exact .inl h
  · refine .inr ⟨k, off, e, hk, fun i hi => ?_⟩
    obtain ⟨z, h1, h2⟩ := hc i hi
    exact ⟨z, (World.cell?_of_block (w := w) (a := ⟨k, off + i, none⟩) (s k hk)).trans h1, h2⟩

/-- The cursor stays where block b and those below it stay. -/
theorem Cu.below {b N : Nat} {w w' : World} (h : Cu b N w) {B : Nat} (hb : Below B w w') (hB : b < B) : Cu b N w' := by
  obtain ⟨a, len, cap, at_, seed, h0, h1, h2, r1, r2, r3, r4, hc⟩ := h.ex
  refine ⟨⟨a, len, cap, at_, seed, ?_, ?_, ?_, r1, r2, r3, r4, hc.of_eq fun k hk => hb.block k (by omega)⟩, fun o => ?_⟩
  · rw [hb.cell (p := ⟨b, 0, none⟩) hB]; exact h0
  · rw [hb.cell (p := ⟨b, 1, none⟩) hB]; exact h1
  · rw [hb.cell (p := ⟨b, 2, none⟩) hB]; exact h2
  · rw [hb.frozen (p := ⟨b, o, none⟩) hB]; exact h.fz o
theorem Cu.mono {b N M : Nat} {w : World} (h : Cu b N w) (hNM : N ≤ M) : Cu b M w := by
  obtain ⟨a, len, cap, at_, seed, h0, h1, h2, r1, r2, r⟩ := h.ex
  exact ⟨⟨a, len, cap, at_, seed, h0, h1, h2, r1, by omega, r⟩, h.fz⟩
theorem Cu.lt {b N : Nat} {w : World} (h : Cu b N w) : b < w.heap.size := by
  obtain ⟨a, len, cap, at_, seed, h0, _⟩ := h.ex
  exact World.block_lt_of_cell? _ _ h0

set_option maxHeartbeats 1000000 in
theorem whole_any (b N : Nat) (w : World) (h : Cu b N w) (hN : N ≤ 1099511620000) :
    Calls Tryd.prog 55 #[.pointer (some ⟨b, 0, none⟩)] w fun e w' => (∃ z : Int, e = .returned (.int .i64 z)) ∧ Cu b (N + 4) w' ∧ Stp b w w' := by
  have H : Hid (Cu b N w) := h
  clear h
  go_enter Tryd.func55, Tryd.ntmps55
  go_wp2_with fail
  refine (pick_any b N 6 _ H.out (by omega) (by omega) (by omega)).mono ?_
  rintro e w1 ⟨⟨x, rfl, hx0, hx1⟩, hc1, hs1⟩
  by_cases x0 : x = 0
  · subst x0
    go_wp2_with fail
    refine (pick_any b (N + 2) 3 _ hc1 (by omega) (by omega) (by omega)).mono ?_
    rintro e w2 ⟨⟨y, rfl, hy0, hy1⟩, hc2, hs2⟩
    go_wp2_with fail
    go_ret
    exact ⟨⟨_, rfl⟩, hc2, hs1.trans hs2⟩
  have b0 : (x == 0) = false := by simp [x0]
  by_cases x1 : x = 1
  · subst x1
    go_wp2_with fail
    refine (pick_any b (N + 2) 3 _ hc1 (by omega) (by omega) (by omega)).mono ?_
    rintro e w2 ⟨⟨y, rfl, hy0, hy1⟩, hc2, hs2⟩
    go_wp2_with fail
    go_ret
    exact ⟨⟨_, rfl⟩, hc2, hs1.trans hs2⟩
  have b1 : (x == 1) = false := by simp [x1]
  by_cases x2 : x = 2
  · subst x2
    go_wp2_with fail
    refine (pick_any b (N + 2) 70000 _ hc1 (by omega) (by omega) (by omega)).mono ?_
    rintro e w2 ⟨⟨y, rfl, hy0, hy1⟩, hc2, hs2⟩
    go_wp2_with fail
    go_ret
    exact ⟨⟨_, rfl⟩, hc2, hs1.trans hs2⟩
  have b2 : (x == 2) = false := by simp [x2]
  go_wp2_with fail
  refine (pick_any b (N + 2) 12 _ hc1 (by omega) (by omega) (by omega)).mono ?_
  rintro e w2 ⟨⟨y, rfl, hy0, hy1⟩, hc2, hs2⟩
  go_wp2_with fail
  go_ret
  exact ⟨⟨_, rfl⟩, hc2, hs1.trans hs2⟩

theorem conv_letter (v : Int) (h0 : 0 ≤ v) (h1 : v < 256) (wr : World) : (convert 22 9 (.slice (some ⟨wr.heap.size, 0, none⟩) 1 1)).run Tryd.prog (wr.alloc (.cells #[.int .u8 v] 5)) = .ok (.string ⟨[UInt8.ofNat v.toNat].toArray⟩) (wr.alloc (.cells #[.int .u8 v] 5)) :=
  run_convert_bytes_back (P := Tryd.prog) (wr.alloc (.cells #[.int .u8 v] 5)) 22 9 5 ⟨wr.heap.size, 0, none⟩ 1 [UInt8.ofNat v.toNat] Tryd.underlying22 Tryd.underlying5 Tryd.underlying9 (by
    intro j hj
    have : j = 0 := by simpa using hj
    subst this
    have e : ((UInt8.ofNat v.toNat).toNat : Int) = v := by rw [UInt8.toNat_ofNat']; omega
    have e2 : ([UInt8.ofNat v.toNat][0]'hj) = UInt8.ofNat v.toNat := rfl
    rw [e2, e]
    simp [Addr.add, go_sem])

def strOf : Value → ByteArray | .string s => s | _ => ByteArray.empty

set_option maxRecDepth 100000 in
set_option maxHeartbeats 1000000 in
theorem word_any (b N : Nat) (w : World) (h : Cu b N w) (hN : N ≤ 1099511620000) :
    Calls Tryd.prog 57 #[.pointer (some ⟨b, 0, none⟩)] w fun e w' => (∃ s : ByteArray, e = .returned (.string s) ∧ s.size ≤ 4000) ∧ Cu b (N + 4) w' ∧ Gr b w w' := by
  have H : Hid (Cu b N w) := h
  clear h
  go_enter Tryd.func57, Tryd.ntmps57
  go_wp2_with fail
  refine (pick_any b N 40 _ H.out (by omega) (by omega) (by omega)).mono ?_
  rintro e w1 ⟨⟨x, rfl, hx0, hx1⟩, hc1, hs1⟩
  by_cases x0 : x = 0
  · subst x0
    go_wp2_with fail
    go_loop [3] (fun t => ∃ s : ByteArray, t = .string s ∧ 10 ≤ s.size ∧ s.size < 8000) (fun t => 8000 - (strOf t).size)
    case atStart => exact ⟨_, rfl, by decide, by decide⟩
    case round =>
      obtain ⟨s, rfl, h1, h2⟩ := hrel
      by_cases hlt : s.size < 4000
      · have hl : ((s.size : Nat) : Int) < 4000 := by omega
        go_wp2_with fail
        go_round
        case rel => exact ⟨_, rfl, by simp; omega, by simp; omega⟩
        case measure => simp [strOf]; omega
      · have hl : (4000 : Int) ≤ ((s.size : Nat) : Int) := by omega
        go_wp2_with fail
        refine (pick_any b (N + 2) 2 _ hc1 (by omega) (by omega) (by omega)).mono ?_
        rintro e w2 ⟨⟨y, rfl, hy0, hy1⟩, hc2, hs2⟩
        go_wp2_with fail
        go_ret
        refine ⟨⟨_, rfl, ?_⟩, hc2, (hs1.trans hs2).gr⟩
        simp; omega
  have b0 : (x == 0) = false := by simp [x0]
  go_wp2_with fail
  refine (pick_any b (N + 2) 15 _ hc1 (by omega) (by omega) (by omega)).mono ?_
  rintro e w2 ⟨⟨y, rfl, hy0, hy1⟩, hc2, hs2⟩
  have hcv := conv_letter (97 + y) (by omega) (by omega) w2
  go_wp2_with fail
  go_ret
  have hb : Below w2.heap.size w2 (w2.alloc (.cells #[.int .u8 (97 + y)] 5)) := (Below.refl _ _).alloc (Nat.le_refl _) _
  exact ⟨⟨_, rfl, by simp [ByteArray.size]⟩, hc2.below hb hc2.lt, ((hs1.trans hs2).gr).trans (Gr.of_below hb)⟩

theorem div_nan : FloatKind.f64.format.div 0 0 = none := by decide
/-- 0 / 0: a NaN, whose bits the tape tells. -/
theorem nan_run (w : World) : ∃ r, (binOp .quo 30 (.float .f64 0) (.float .f64 0)).run Tryd.prog w = .ok (.float .f64 r) w.drew ∧ r < 18446744073709551616 := by
  refine ⟨(Question.nanBits .f64 0 0).cut (w.tape w.drawn (.nanBits .f64 0 0)), ?_, ?_⟩
  · simp [binOp, Op.floatArith, div_nan, Question.forced]
  · simp only [Question.cut]; omega

theorem div_one : floatBits .quo .f64 4607182418800017408 0 = some 9218868437227405312 := by decide
theorem div_mone : floatBits .quo .f64 13830554455654793216 0 = some 18442240474082181120 := by decide

set_option maxHeartbeats 400000 in
theorem l1flt_any (f : Nat) (w : World)  :
    Calls Tryd.prog 76 #[.float .f64 f] w fun e w' => e = .returned (V 3 0 f ⟨#[]⟩ 0) ∧ Below w.heap.size w w' := by
  go_enter Tryd.func76, Tryd.ntmps76
  go_wp2
  exact bodyPost_ret (v := V 3 0 f ⟨#[]⟩ 0) (by simp [results, go_sem]) rfl ⟨rfl, (Below.refl _ _).alloc (Nat.le_refl _) _⟩

set_option maxHeartbeats 400000 in
theorem l1str_any (s : ByteArray) (w : World)  :
    Calls Tryd.prog 56 #[.string s] w fun e w' => e = .returned (V 4 0 0 s 0) ∧ Below w.heap.size w w' := by
  go_enter Tryd.func56, Tryd.ntmps56
  go_wp2
  exact bodyPost_ret (v := V 4 0 0 s 0) (by simp [results, go_sem]) rfl ⟨rfl, (Below.refl _ _).alloc (Nat.le_refl _) _⟩

set_option maxHeartbeats 1000000 in
theorem flt_any (b N : Nat) (w : World) (h : Cu b N w) (hN : N ≤ 1099511620000) :
    Calls Tryd.prog 58 #[.pointer (some ⟨b, 0, none⟩)] w fun e w' => (∃ f : Nat, e = .returned (V 3 0 f ⟨#[]⟩ 0) ∧ f < 18446744073709551616) ∧ Cu b (N + 2) w' ∧ Gr b w w' := by
  have H : Hid (Cu b N w) := h
  have hbw := h.lt
  clear h
  have d1 : ∀ w : World, (binOp .quo 30 (.float .f64 4607182418800017408) (.float .f64 0)).run Tryd.prog w = .ok (.float .f64 9218868437227405312) w := fun w => run_float_arith w .quo 30 .f64 _ _ _ div_one
  have d2 : ∀ w : World, (binOp .quo 30 (.float .f64 13830554455654793216) (.float .f64 0)).run Tryd.prog w = .ok (.float .f64 18442240474082181120) w := fun w => run_float_arith w .quo 30 .f64 _ _ _ div_mone
  obtain ⟨r, d3, hr⟩ := nan_run (w.alloc (.cells #[.int .i64 0, .int .i64 0, .float .f64 0, .string ⟨#[]⟩, .int .i64 0] 32))
  go_enter Tryd.func58, Tryd.ntmps58
  go_wp2_with fail
  have hcu := H.out.below ((((Below.refl w.heap.size w).alloc (Nat.le_refl _) (.cells #[.int .i64 0, .int .i64 0, .float .f64 0, .string ⟨#[]⟩, .int .i64 0] 32)).alloc (by simp) (.cells #[.float .f64 4602678819172646912, .float .f64 4609434218613702656, .float .f64 4611686018427387904, .float .f64 13821547256400052224, .float .f64 9094988921128908188, .float .f64 4845873199050653696, .float .f64 14114281232179134464, .float .f64 4890909195324358656, .float .f64 9218868437227405312, .float .f64 18442240474082181120, .float .f64 r, .float .f64 0, .float .f64 4613937818241073152] 30)).drew) hbw
  refine (pick_any b N 13 _ hcu (by omega) (by omega) (by omega)).mono ?_
  rintro e w2 ⟨⟨x, rfl, hx0, hx1⟩, hc2, hs2⟩
  have n0 : ¬ w.heap.size = b := by omega
  have n1 : ¬ w.heap.size + 1 = b := by omega
  obtain ⟨g, hg, hg1⟩ : ∃ g : Nat, w2.cell? ⟨w.heap.size + 1, x.toNat, none⟩ = some (.float .f64 g) ∧ g < 18446744073709551616 := by
    rw [hs2.cell _ _ n1]
    have hx : x = 0 ∨ x = 1 ∨ x = 2 ∨ x = 3 ∨ x = 4 ∨ x = 5 ∨ x = 6 ∨ x = 7 ∨ x = 8 ∨ x = 9 ∨ x = 10 ∨ x = 11 ∨ x = 12 := by omega
    rcases hx with rfl | rfl | rfl | rfl | rfl | rfl | rfl | rfl | rfl | rfl | rfl | rfl | rfl
    all_goals (refine ⟨_, by simp [go_sem]; rfl, by omega⟩)
  have rc : ∀ o, w2.cell? ⟨w.heap.size, o, none⟩ = _ := fun o => hs2.cell w.heap.size o n0
  have rf : ∀ o, w2.frozen? ⟨w.heap.size, o, none⟩ = _ := fun o => hs2.frozen w.heap.size o n0
  have hz := hs2.size
  simp at hz
  have HS := hide hs2
  have HC := hide hc2
  clear hs2 hc2 hcu d1 d2 d3
  go_wp2_with (go_at_call 76; refine (l1flt_any g _).mono ?_; rintro e w3 ⟨rfl, hb3⟩; obtain ⟨hc3, hf3⟩ := bcell hb3; have hz3 := hb3.size; have hlt3 : w.heap.size < w2.heap.size := (by omega))
  have hT : Gr b w w2 := (Gr.of_below ((((Below.refl w.heap.size w).alloc (Nat.le_refl _) _).alloc (by simp) _).drew)).trans (unhide HS).gr
  have b3 := below_set5 (hb3.mono (Nat.le_of_lt hlt3)) w.heap.size (Nat.le_refl _) (.int .i64 3) (.int .i64 0) (.float .f64 g) (.string ⟨#[]⟩) (.int .i64 0)
  exact bodyPost_ret (v := V 3 0 g ⟨#[]⟩ 0) (by simp [results, Tryd.results58, go_sem, hc3, hlt3, rc]) rfl ⟨⟨g, rfl, hg1⟩, (unhide HC).below b3 hbw, hT.then_below b3 (by omega)⟩
end Go.Proofs.YtdgejbkjllgfbaaDoor
