/-
  StO.
-/
import Derived.Test.YtfceeijdmilieaaGreatDoorStMP
namespace Go.Proofs.YtfceeijdmilieaaGreatDoor
open Go.RowKit
set_option linter.unusedVariables false
attribute [local go_sem] run_store_float run_equalIn_float

/-- Only blocks from lo to H have turned. -/
structure Ou (lo H : Nat) (w w' : World) : Prop where
  os : w'.os = w.os
  tape : w'.tape = w.tape
  output : w'.output = w.output
  size : w.heap.size ≤ w'.heap.size
  block : ∀ k, k < w.heap.size → (k < lo ∨ H ≤ k) → w'.heap[k]? = w.heap[k]?
theorem Ou.trans {lo H : Nat} {u v w : World} (h : Ou lo H u v) (k : Ou lo H v w) : Ou lo H u w :=
  ⟨k.os.trans h.os, k.tape.trans h.tape, k.output.trans h.output, Nat.le_trans h.size k.size, fun i hi hn => (k.block i (Nat.lt_of_lt_of_le hi h.size) hn).trans (h.block i hi hn)⟩
theorem Ou.below {lo H : Nat} {w w' : World} (h : Ou lo H w w') (hl : lo ≤ w.heap.size) : Below lo w w' := ⟨h.os, h.tape, h.output, h.size, fun k hk => h.block k (by omega) (.inl hk)⟩

set_option maxRecDepth 100000 in
set_option maxHeartbeats 4000000 in
theorem markStore_any (B H m tb sb : Nat) (s : Sto) (w : World) (hM : StMade B H w m tb sb s) (hs : SSmall s) (hH : H ≤ w.heap.size) :
    Calls Tryz.prog 21 #[StV (some ⟨m, 0, none⟩) s.nf (some ⟨tb, 0, none⟩) s.nt (some ⟨sb, 0, none⟩) s.ns s, .int .i64 1] w fun e w' => (∃ r : Nat, e = .returned (.int .i64 (r : Int))) ∧ Ou B H w w' := by
  obtain ⟨W, hW⟩ : ∃ W, W = w.alloc (.cells #[.slice (some ⟨m, 0, none⟩) s.nf s.nf, .slice (some ⟨tb, 0, none⟩) s.nt s.nt, .slice (some ⟨sb, 0, none⟩) s.ns s.ns] 29) := ⟨_, rfl⟩
  have hbW : Below w.heap.size w W := by rw [hW]; exact (Below.refl _ _).alloc (Nat.le_refl _) _
  have lw : w.heap.size < W.heap.size := by rw [hW]; simp
  have x1 : W.cell? ⟨w.heap.size, 1, none⟩ = some (.slice (some ⟨tb, 0, none⟩) s.nt s.nt) := by rw [hW]; simp [go_sem]
  have x2 : W.cell? ⟨w.heap.size, 2, none⟩ = some (.slice (some ⟨sb, 0, none⟩) s.ns s.ns) := by rw [hW]; simp [go_sem]
  have h1 := hM.bm
  have h2 := hM.mt
  have h3 := hM.ts
  have h4 := hM.sh
  have hf := hs.f.1
  have ht := hs.t
  have hn := hs.n
  have HM := hide (hM.below hbW)
  have HBW := hide hbW
  clear hM hs hbW
  go_enter Tryz.func21, Tryz.ntmps21
  go_wp2_with fail
  rw [← hW]
  clear hW
  refine (markForest_any m s.nf s.nf s.F _ (unhide HM).fo hf).mono ?_
  rintro e w1 ⟨rfl, hb1⟩
  have lw1 : w.heap.size < w1.heap.size := Nat.lt_of_lt_of_le lw hb1.size
  have eb1 := hb1.block w.heap.size lw (by omega)
  have y1 := (World.cell?_of_block (a := ⟨w.heap.size, 1, none⟩) eb1).trans x1
  have y2 := (World.cell?_of_block (a := ⟨w.heap.size, 2, none⟩) eb1).trans x2
  have etb := hb1.block tb (unhide HM).ta.lt (by omega)
  have hT1 : ∀ i, i < s.nt → ∃ vb s0 s1 s2, TMk tb H w1 (i * 8) (s.T i) vb s0 s1 s2 := fun i hi => TabMade.mk (((unhide HM).tr i hi).keep (Nat.le_refl _) (fun q hq _ hq2 => hb1.block q hq2 (by omega)) (fun q _ => World.cell?_of_block etb))
  have hR1 : RowS w1 tb 93 (s.nt * 8) := by obtain ⟨⟨g, r⟩, _⟩ := (unhide HM).ta; exact ⟨g, World.rowIs.of_block r etb⟩
  have hS1 : RowS w1 sb 80 (s.ns * 5) := by obtain ⟨⟨g, r⟩, _⟩ := (unhide HM).si; exact ⟨g, World.rowIs.of_block r (hb1.block sb (World.rowIs.lt r) (by omega))⟩
  have HO1 : Hid (Ou B H w w1) := hide ⟨hb1.os.trans (unhide HBW).os, hb1.tape.trans (unhide HBW).tape, hb1.output.trans (unhide HBW).output, by omega, fun k hk hn => (hb1.block k (by omega) (by omega)).trans ((unhide HBW).block k hk)⟩
  have HT1 := hide hT1
  have HR1 := hide hR1
  have HS1 := hide hS1
  clear hb1 eb1 etb hT1 hR1 hS1 x1 x2 HM
  go_wp2_with fail
  have hA := markTableS_any tb s.nt s.nt H (1 + 3 * s.nf) s.T w1 (unhide HR1) (by omega) (unhide HT1) ht (by omega)
  rw [show ((1 + 3 * s.nf : Nat) : Int) = 1 + 3 * (s.nf : Int) by omega] at hA
  refine hA.mono ?_
  rintro e w2 ⟨⟨r, rfl, hr⟩, hb2⟩
  have z2 := hb2.size
  have y2' := (World.cell?_of_block (a := ⟨w.heap.size, 2, none⟩) (hb2.block w.heap.size lw1 (.inr hH))).trans y2
  have HO2 : Hid (Ou B H w w2) := hide ((unhide HO1).trans ⟨hb2.os, hb2.tape, hb2.output, hb2.size, fun k hk hn => hb2.block k hk (by omega)⟩)
  obtain ⟨gs, rs⟩ := hb2.rows _ _ _ (unhide HS1)
  have HRS := hide rs
  have hrb : r ≤ 20000000 := by omega
  clear hA hb2 y1 y2 rs hr
  go_wp2_with fail
  refine (markSiteS_any sb s.ns s.ns (s.ns * 5) r gs w2 (unhide HRS) (Nat.le_refl _) (by omega) (by omega)).mono ?_
  rintro e w3 ⟨⟨rfl, g3, r3⟩, hb3⟩
  have z3 := hb3.size
  have HO3 : Hid (Ou B H w w3) := hide ((unhide HO2).trans ⟨hb3.os, hb3.tape, hb3.output, hb3.size, fun k hk hn => hb3.block k hk (by omega)⟩)
  clear hb3 r3 y2'
  go_wp2
  go_ret
  exact ⟨⟨r + 5 * s.ns, by simp⟩, unhide HO3⟩
end Go.Proofs.YtfceeijdmilieaaGreatDoor
