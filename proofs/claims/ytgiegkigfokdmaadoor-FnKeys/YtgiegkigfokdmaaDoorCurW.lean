/-
  The drawing cursor: what stays, and word.
-/
import Derived.Test.YtgiegkigfokdmaaDoorCurA
import Derived.Test.YtgiegkigfokdmaaDoorHide
import Derived.Laws.BytesString
import Derived.Laws.IdiomStrings
namespace Go.Proofs.YtgiegkigfokdmaaDoor
open Go.RowKit
set_option linter.unusedVariables false

/-- Nothing that was there has turned but block b; new blocks may have come. -/
structure Gr (b : Nat) (w w' : World) : Prop where
  os : w'.os = w.os
  tape : w'.tape = w.tape
  output : w'.output = w.output
  size : w.heap.size ≤ w'.heap.size
  block : ∀ k, k ≠ b → k < w.heap.size → w'.heap[k]? = w.heap[k]?

theorem Stp.gr {b : Nat} {w w' : World} (h : Stp b w w') : Gr b w w' := ⟨h.os, h.tape, h.output, by rw [h.size]; exact Nat.le_refl _, fun k hk _ => h.block k hk⟩
theorem Gr.trans {b : Nat} {u v w : World} (h : Gr b u v) (k : Gr b v w) : Gr b u w :=
  ⟨k.os.trans h.os, k.tape.trans h.tape, k.output.trans h.output, Nat.le_trans h.size k.size, fun i hi hs => (k.block i hi (Nat.lt_of_lt_of_le hs h.size)).trans (h.block i hi hs)⟩
theorem Gr.of_below {b : Nat} {w w' : World} (h : Below w.heap.size w w') : Gr b w w' := ⟨h.os, h.tape, h.output, h.size, fun k _ hk => h.block k hk⟩
theorem Gr.cell {b : Nat} {w w' : World} (h : Gr b w w') : ∀ k o, k ≠ b → k < w.heap.size → w'.cell? ⟨k, o, none⟩ = w.cell? ⟨k, o, none⟩ := fun k o hk hs => World.cell?_of_block (w := w) (h.block k hk hs)
theorem Gr.frozen {b : Nat} {w w' : World} (h : Gr b w w') : ∀ k o, k ≠ b → k < w.heap.size → w'.frozen? ⟨k, o, none⟩ = w.frozen? ⟨k, o, none⟩ := fun k o hk hs => World.frozen?_of_block (w := w) (h.block k hk hs)
theorem Gr.below {b B : Nat} {w w' : World} (h : Gr b w w') (h1 : B ≤ b) (h2 : B ≤ w.heap.size) : Below B w w' := ⟨h.os, h.tape, h.output, h.size, fun k hk => h.block k (by omega) (by omega)⟩

theorem below_set5 {B : Nat} {a w : World} (h : Below B a w) (b : Nat) (hb : B ≤ b) (v0 v1 v2 v3 v4 : Value) :
    Below B a (((((w.setCell ⟨b, 0, none⟩ v0).setCell ⟨b, 1, none⟩ v1).setCell ⟨b, 2, none⟩ v2).setCell ⟨b, 3, none⟩ v3).setCell ⟨b, 4, none⟩ v4) :=
  ((((h.setCell (p := ⟨b, 0, none⟩) hb v0).setCell (p := ⟨b, 1, none⟩) hb v1).setCell (p := ⟨b, 2, none⟩) hb v2).setCell (p := ⟨b, 3, none⟩) hb v3).setCell (p := ⟨b, 4, none⟩) hb v4
theorem Gr.then_below {b B : Nat} {u v w : World} (h : Gr b u v) (k : Below B v w) (hB : u.heap.size ≤ B) : Gr b u w :=
  ⟨k.os.trans h.os, k.tape.trans h.tape, k.output.trans h.output, Nat.le_trans h.size k.size, fun i hi hs => (k.block i (by omega)).trans (h.block i hi hs)⟩

theorem CodeAt.of_eq {b : Nat} {w w' : World} {a : Option Addr} {len : Nat} (h : CodeAt w b a len) (s : ∀ k, k < b → w'.heap[k]? = w.heap[k]?) : CodeAt w' b a len := by
  refine ⟨h.1, ?_⟩
  rcases h.2 with h | ⟨k, off, e, hk, hc⟩
  · exact .inl h
  · refine .inr ⟨k, off, e, hk, fun i hi => ?_⟩
    obtain ⟨z, h1, h2⟩ := hc i hi
    exact ⟨z, (World.cell?_of_block (w := w) (a := ⟨k, off + i, none⟩) (s k hk)).trans h1, h2⟩

/-- The cursor stays where block b and those below it stay. -/
theorem Cu.below {b N : Nat} {w w' : World} (h : Cu b N w) {B : Nat} (hb : Below B w w') (hB : b < B) : Cu b N w' := by
  obtain ⟨a, len, cap, at_, seed, h0, h1, h2, r1, r2, r3, r4, hc⟩ := h.ex
  refine ⟨⟨a, len, cap, at_, seed, ?_, ?_, ?_, r1, r2, r3, r4, hc.of_eq fun k hk => hb.block k (by omega)⟩, fun o => ?_⟩
  · rw [hb.cell (p := ⟨b, 0, none⟩) hB]; exact h0
  · rw [hb.cell (p := ⟨b, 1, none⟩) hB]; exact h1
  · rw [hb.cell (p := ⟨b, 2, none⟩) hB]; exact h2
  · rw [hb.frozen (p := ⟨b, o, none⟩) hB]; exact h.fz o
theorem Cu.mono {b N M : Nat} {w : World} (h : Cu b N w) (hNM : N ≤ M) : Cu b M w := by
  obtain ⟨a, len, cap, at_, seed, h0, h1, h2, r1, r2, r⟩ := h.ex
  exact ⟨⟨a, len, cap, at_, seed, h0, h1, h2, r1, by omega, r⟩, h.fz⟩
theorem Cu.lt {b N : Nat} {w : World} (h : Cu b N w) : b < w.heap.size := by
  obtain ⟨a, len, cap, at_, seed, h0, _⟩ := h.ex
  exact World.block_lt_of_cell? _ _ h0

theorem conv_letter (v : Int) (h0 : 0 ≤ v) (h1 : v < 256) (wr : World) : (convert 22 9 (.slice (some ⟨wr.heap.size, 0, none⟩) 1 1)).run Tryd.prog (wr.alloc (.cells #[.int .u8 v] 5)) = .ok (.string ⟨[UInt8.ofNat v.toNat].toArray⟩) (wr.alloc (.cells #[.int .u8 v] 5)) :=
  run_convert_bytes_back (P := Tryd.prog) (wr.alloc (.cells #[.int .u8 v] 5)) 22 9 5 ⟨wr.heap.size, 0, none⟩ 1 [UInt8.ofNat v.toNat] Tryd.underlying22 Tryd.underlying5 Tryd.underlying9 (by
    intro j hj
    have : j = 0 := by simpa using hj
    subst this
    have e : ((UInt8.ofNat v.toNat).toNat : Int) = v := by rw [UInt8.toNat_ofNat']; omega
    have e2 : ([UInt8.ofNat v.toNat][0]'hj) = UInt8.ofNat v.toNat := rfl
    rw [e2, e]
    simp [Addr.add, go_sem])

def strOf : Value → ByteArray | .string s => s | _ => ByteArray.empty

set_option maxRecDepth 100000 in
set_option maxHeartbeats 1000000 in
theorem word_any (b N : Nat) (w : World) (h : Cu b N w) (hN : N ≤ 1099511620000) :
    Calls Tryd.prog 57 #[.pointer (some ⟨b, 0, none⟩)] w fun e w' => (∃ s : ByteArray, e = .returned (.string s) ∧ s.size ≤ 4000) ∧ Cu b (N + 4) w' ∧ Gr b w w' := by
  have H : Hid (Cu b N w) := h
  clear h
  go_enter Tryd.func57, Tryd.ntmps57
  go_wp2_with fail
  refine (pick_any b N 40 _ H.out (by omega) (by omega) (by omega)).mono ?_
  rintro e w1 ⟨⟨x, rfl, hx0, hx1⟩, hc1, hs1⟩
  by_cases x0 : x = 0
  · subst x0
    go_wp2_with fail
    go_loop [3] (fun t => ∃ s : ByteArray, t = .string s ∧ 10 ≤ s.size ∧ s.size < 8000) (fun t => 8000 - (strOf t).size)
    case atStart => exact ⟨_, rfl, by decide, by decide⟩
    case round =>
      obtain ⟨s, rfl, h1, h2⟩ := hrel
      by_cases hlt : s.size < 4000
      · have hl : ((s.size : Nat) : Int) < 4000 := by omega
        go_wp2_with fail
        go_round
        case rel => exact ⟨_, rfl, by simp; omega, by simp; omega⟩
        case measure => simp [strOf]; omega
      · have hl : (4000 : Int) ≤ ((s.size : Nat) : Int) := by omega
        go_wp2_with fail
        refine (pick_any b (N + 2) 2 _ hc1 (by omega) (by omega) (by omega)).mono ?_
        rintro e w2 ⟨⟨y, rfl, hy0, hy1⟩, hc2, hs2⟩
        go_wp2_with fail
        go_ret
        refine ⟨⟨_, rfl, ?_⟩, hc2, (hs1.trans hs2).gr⟩
        simp; omega
  have b0 : (x == 0) = false := by simp [x0]
  go_wp2_with fail
  refine (pick_any b (N + 2) 15 _ hc1 (by omega) (by omega) (by omega)).mono ?_
  rintro e w2 ⟨⟨y, rfl, hy0, hy1⟩, hc2, hs2⟩
  have hcv := conv_letter (97 + y) (by omega) (by omega) w2
  go_wp2_with fail
  go_ret
  have hb : Below w2.heap.size w2 (w2.alloc (.cells #[.int .u8 (97 + y)] 5)) := (Below.refl _ _).alloc (Nat.le_refl _) _
  exact ⟨⟨_, rfl, by simp [ByteArray.size]⟩, hc2.below hb hc2.lt, ((hs1.trans hs2).gr).trans (Gr.of_below hb)⟩

end Go.Proofs.YtgiegkigfokdmaaDoor
