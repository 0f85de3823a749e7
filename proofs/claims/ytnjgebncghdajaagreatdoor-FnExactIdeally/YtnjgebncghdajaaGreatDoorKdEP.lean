/-
  KdE.
-/
import Derived.Test.YtnjgebncghdajaaGreatDoorBi0
import Derived.Test.YtnjgebncghdajaaGreatDoorJdPP
namespace Go.Proofs.YtnjgebncghdajaaGreatDoor
open Go.RowKit
set_option linter.unusedVariables false
set_option linter.unusedSimpArgs false
attribute [local go_sem] run_store_float run_equalIn_float

/-- A row of things of S cells each. -/
def RAt (S : Nat) (w : World) (a : Option Addr) (n : Nat) (L : Nat → List Value) : Prop :=
  n = 0 ∨ ∃ b, a = some ⟨b, 0, none⟩ ∧ b < w.heap.size ∧ ∀ i, i < n → ∀ j u, (L i)[j]? = some u → w.cell? ⟨b, i * S + j, none⟩ = some u
theorem RAt.keep {S : Nat} {w w' : World} {a : Option Addr} {n : Nat} {L : Nat → List Value} (h : RAt S w a n L) (hs : w.heap.size ≤ w'.heap.size) (hk : ∀ b, a = some ⟨b, 0, none⟩ → w'.heap[b]? = w.heap[b]?) : RAt S w' a n L := by
  rcases h with h | ⟨b, e, hl, hc⟩
  · exact .inl h
  · exact .inr ⟨b, e, Nat.lt_of_lt_of_le hl hs, fun i hi j u hu => (World.cell?_of_block (a := ⟨b, i * S + j, none⟩) (hk b e)).trans (hc i hi j u hu)⟩
theorem RAt.below {S : Nat} {w w' : World} {a : Option Addr} {n : Nat} {L : Nat → List Value} (h : RAt S w a n L) (hb : Below w.heap.size w w') : RAt S w' a n L := by
  rcases h with h | ⟨b, e, hl, hc⟩
  · exact .inl h
  · exact RAt.keep (.inr ⟨b, e, hl, hc⟩) hb.size (fun b' e' => by rw [e] at e'; cases e'; exact hb.block b hl)
theorem AOwn.rat {w : World} {B : Nat} {a : Option Addr} {n cp : Nat} {g : Nat → An} (h : AOwn w B (.slice a n cp) n g) : RAt 12 w a n (fun i => anL (g i)) := by
  rcases Nat.eq_zero_or_pos n with h0 | h0
  · exact .inl h0
  · obtain ⟨b, cq, e, hb, hl⟩ := h.form h0
    cases e
    refine .inr ⟨b, rfl, hl, fun i hi j u hu => ?_⟩
    have hj : j < 12 := by
      have := (List.getElem?_eq_some_iff.1 hu).1
      exact this
    rw [World.ownsRow.cellAt h (i * 12 + j) (by omega), anR_get hi hj, hu]

set_option maxRecDepth 100000 in
set_option maxHeartbeats 4000000 in
theorem eqAns_selfR (p : An) (w : World) :
    Calls Tryz.prog 37 #[AnV p, AnV p] w fun e w' => e = .returned (.bool true) ∧ Below w.heap.size w w' := by
  go_enter Tryz.func37, Tryz.ntmps37
  go_wp2_with fail
  refine (eqValue_self p.key.kind p.key.num p.key.flt p.key.str p.key.ref _).mono ?_
  rintro e w1 ⟨rfl, hb1⟩
  obtain ⟨hc1, hf1⟩ := bcell hb1
  have hz1 := hb1.size
  simp at hz1
  have y0 : w.heap.size < w1.heap.size := by omega
  have y1 : w.heap.size + 1 < w1.heap.size := by omega
  have HB1 : Hid (Below w.heap.size w w1) := hide ((((Below.refl _ _).alloc (Nat.le_refl _) _).alloc (by simp) _).trans (hb1.mono (by simp; omega)))
  clear hb1
  go_wp2_with fail
  refine (eqValue_self p.val.kind p.val.num p.val.flt p.val.str p.val.ref _).mono ?_
  rintro e w2 ⟨rfl, hb2⟩
  obtain ⟨hc2, hf2⟩ := bcell hb2
  have HB2 := hide ((unhide HB1).trans (hb2.mono (unhide HB1).size))
  clear hb2
  go_wp2
  go_ret
  exact ⟨rfl, unhide HB2⟩

set_option maxRecDepth 100000 in
set_option maxHeartbeats 4000000 in
theorem eqAnsS_sameR (a a' : Option Addr) (n cap cap' : Nat) (f : Nat → An) (w : World) (hA : RAt 12 w a n (fun i => anL (f i))) (hB : RAt 12 w a' n (fun i => anL (f i))) (hn : n ≤ 4194304) :
    Calls Tryz.prog 18 #[.slice a n cap, .slice a' n cap'] w fun e w' => e = .returned (.bool true) ∧ Below w.heap.size w w' := by
  have HA := hide hA
  have HB := hide hB
  clear hA hB
  go_enter Tryz.func18, Tryz.ntmps18
  go_wp2
  go_loopw [5] (fun i wr => ∃ (k : Nat), k ≤ n ∧ i = .int .i64 k ∧ Below w.heap.size w wr) (fun i _ => n - (intOf i).toNat)
  case atStart => exact ⟨0, by omega, rfl, Below.refl _ _⟩
  case round =>
    obtain ⟨k, hk, rfl, hb⟩ := hrel
    by_cases hlt : k < n
    · obtain ⟨b, rfl, hbl, hcs⟩ := (unhide HA).resolve_left (by omega)
      obtain ⟨b', rfl, hbl', hcs'⟩ := (unhide HB).resolve_left (by omega)
      have ec : ∀ j u, (anL (f k))[j]? = some u → wr.cell? ⟨b, k * 12 + j, none⟩ = some u := fun j u hu => (hb.cell (p := ⟨b, k * 12 + j, none⟩) hbl).trans (hcs k hlt j u hu)
      have dc : ∀ j u, (anL (f k))[j]? = some u → wr.cell? ⟨b', k * 12 + j, none⟩ = some u := fun j u hu => (hb.cell (p := ⟨b', k * 12 + j, none⟩) hbl').trans (hcs' k hlt j u hu)
      have e0 := ec 0 _ rfl
      have e1 := ec 1 _ rfl
      have e2 := ec 2 _ rfl
      have e3 := ec 3 _ rfl
      have e4 := ec 4 _ rfl
      have e5 := ec 5 _ rfl
      have e6 := ec 6 _ rfl
      have e7 := ec 7 _ rfl
      have e8 := ec 8 _ rfl
      have e9 := ec 9 _ rfl
      have e10 := ec 10 _ rfl
      have e11 := ec 11 _ rfl
      rw [Nat.add_zero] at e0
      have d0 := dc 0 _ rfl
      have d1 := dc 1 _ rfl
      have d2 := dc 2 _ rfl
      have d3 := dc 3 _ rfl
      have d4 := dc 4 _ rfl
      have d5 := dc 5 _ rfl
      have d6 := dc 6 _ rfl
      have d7 := dc 7 _ rfl
      have d8 := dc 8 _ rfl
      have d9 := dc 9 _ rfl
      have d10 := dc 10 _ rfl
      have d11 := dc 11 _ rfl
      rw [Nat.add_zero] at d0
      have hx : b < wr.heap.size := Nat.lt_of_lt_of_le hbl hb.size
      have hx' : b' < wr.heap.size := Nat.lt_of_lt_of_le hbl' hb.size
      have HBW := hide hb
      clear hb hcs hcs' ec dc
      go_wp2_with fail
      refine wp_region_quiet (C := fun w' => Below wr.heap.size wr w') (by kernel_rfl) (by kernel_rfl) ((Below.refl _ _).drew) ?_
      show wpQuiet _ _ _ _ [_, _, _, _, _, _, _, _, _, _] _
      refine wpQuiet_step (fun K hK => ?_)
      go_simp
      refine ⟨_, fun w' hw' => rfl, hK _ ?_⟩
      clear hK K
      refine wpQuiet_step (fun K hK => ?_)
      go_simp
      refine ⟨_, fun w' hw' => rfl, hK _ ?_⟩
      clear hK K
      refine wpQuiet_step (fun K hK => ?_)
      go_simp
      refine ⟨_, fun w' hw' => rfl, hK _ ?_⟩
      clear hK K
      refine wpQuiet_step (fun K hK => ?_)
      go_simp
      apply Exists.intro
      refine And.intro (fun w' hw' => ?_) (hK _ ?_)
      · obtain ⟨hc', hf'⟩ := bcell hw'
        go_simp
        first | rfl | exact ⟨rfl, rfl⟩ | exact ⟨rfl⟩
      clear hK K
      refine wpQuiet_step (fun K hK => ?_)
      go_simp
      refine ⟨_, fun w' hw' => rfl, hK _ ?_⟩
      clear hK K
      refine wpQuiet_step (fun K hK => ?_)
      go_simp
      refine ⟨_, fun w' hw' => rfl, hK _ ?_⟩
      clear hK K
      refine wpQuiet_step (fun K hK => ?_)
      go_simp
      refine ⟨_, fun w' hw' => rfl, hK _ ?_⟩
      clear hK K
      refine wpQuiet_step (fun K hK => ?_)
      go_simp
      apply Exists.intro
      refine And.intro (fun w' hw' => ?_) (hK _ ?_)
      · obtain ⟨hc', hf'⟩ := bcell hw'
        go_simp
        first | rfl | exact ⟨rfl, rfl⟩ | exact ⟨rfl⟩
      clear hK K
      refine wpQuiet_step (fun K hK => ?_)
      go_simp
      apply Exists.intro
      refine And.intro (fun w' hw' => ?_) (hK _ ?_)
      · refine (eqAns_selfR (f k) _).mono ?_
        rintro e w'' ⟨rfl, hb⟩
        exact ⟨rfl, hw'.trans (hb.mono hw'.size)⟩
      clear hK K
      refine wpQuiet_step (fun K hK => ?_)
      go_simp
      refine ⟨_, fun w' hw' => rfl, hK _ ?_⟩
      clear hK K
      refine wpQuiet_nil ?_
      intro w2 hw2
      have HB2 := hide ((unhide HBW).trans (hw2.mono (unhide HBW).size))
      clear hw2 e0 d0 e1 d1 e2 d2 e3 d3 e4 d4 e5 d5 e6 d6 e7 d7 e8 d8 e9 d9 e10 d10 e11 d11
      go_wp2
      go_roundw
      case rel => exact ⟨k + 1, by omega, by go_num, unhide HB2⟩
      case measure => simp [intOf]; omega
    · have : k = n := by omega
      subst this
      have HB2 := hide hb
      clear hb
      go_wp2
      go_ret
      exact ⟨rfl, unhide HB2⟩

set_option maxRecDepth 100000 in
set_option maxHeartbeats 4000000 in
theorem eqPair_selfR (p : Pr) (w : World) :
    Calls Tryz.prog 76 #[PV p, PV p] w fun e w' => e = .returned (.bool true) ∧ Below w.heap.size w w' := by
  go_enter Tryz.func76, Tryz.ntmps76
  go_wp2_with fail
  refine (eqValue_self p.key.kind p.key.num p.key.flt p.key.str p.key.ref _).mono ?_
  rintro e w1 ⟨rfl, hb1⟩
  obtain ⟨hc1, hf1⟩ := bcell hb1
  have hz1 := hb1.size
  simp at hz1
  have y0 : w.heap.size < w1.heap.size := by omega
  have y1 : w.heap.size + 1 < w1.heap.size := by omega
  have HB1 : Hid (Below w.heap.size w w1) := hide ((((Below.refl _ _).alloc (Nat.le_refl _) _).alloc (by simp) _).trans (hb1.mono (by simp; omega)))
  clear hb1
  go_wp2_with fail
  refine (eqValue_self p.val.kind p.val.num p.val.flt p.val.str p.val.ref _).mono ?_
  rintro e w2 ⟨rfl, hb2⟩
  obtain ⟨hc2, hf2⟩ := bcell hb2
  have HB2 := hide ((unhide HB1).trans (hb2.mono (unhide HB1).size))
  clear hb2
  go_wp2
  go_ret
  exact ⟨rfl, unhide HB2⟩

set_option maxRecDepth 100000 in
set_option maxHeartbeats 4000000 in
theorem eqPairS_sameR (a a' : Option Addr) (n cap cap' : Nat) (f : Nat → Pr) (w : World) (hA : RAt 11 w a n (fun i => prL (f i))) (hB : RAt 11 w a' n (fun i => prL (f i))) (hn : n ≤ 4194304) :
    Calls Tryz.prog 56 #[.slice a n cap, .slice a' n cap'] w fun e w' => e = .returned (.bool true) ∧ Below w.heap.size w w' := by
  have HA := hide hA
  have HB := hide hB
  clear hA hB
  go_enter Tryz.func56, Tryz.ntmps56
  go_wp2
  go_loopw [5] (fun i wr => ∃ (k : Nat), k ≤ n ∧ i = .int .i64 k ∧ Below w.heap.size w wr) (fun i _ => n - (intOf i).toNat)
  case atStart => exact ⟨0, by omega, rfl, Below.refl _ _⟩
  case round =>
    obtain ⟨k, hk, rfl, hb⟩ := hrel
    by_cases hlt : k < n
    · obtain ⟨b, rfl, hbl, hcs⟩ := (unhide HA).resolve_left (by omega)
      obtain ⟨b', rfl, hbl', hcs'⟩ := (unhide HB).resolve_left (by omega)
      have ec : ∀ j u, (prL (f k))[j]? = some u → wr.cell? ⟨b, k * 11 + j, none⟩ = some u := fun j u hu => (hb.cell (p := ⟨b, k * 11 + j, none⟩) hbl).trans (hcs k hlt j u hu)
      have dc : ∀ j u, (prL (f k))[j]? = some u → wr.cell? ⟨b', k * 11 + j, none⟩ = some u := fun j u hu => (hb.cell (p := ⟨b', k * 11 + j, none⟩) hbl').trans (hcs' k hlt j u hu)
      have e0 := ec 0 _ rfl
      have e1 := ec 1 _ rfl
      have e2 := ec 2 _ rfl
      have e3 := ec 3 _ rfl
      have e4 := ec 4 _ rfl
      have e5 := ec 5 _ rfl
      have e6 := ec 6 _ rfl
      have e7 := ec 7 _ rfl
      have e8 := ec 8 _ rfl
      have e9 := ec 9 _ rfl
      have e10 := ec 10 _ rfl
      rw [Nat.add_zero] at e0
      have d0 := dc 0 _ rfl
      have d1 := dc 1 _ rfl
      have d2 := dc 2 _ rfl
      have d3 := dc 3 _ rfl
      have d4 := dc 4 _ rfl
      have d5 := dc 5 _ rfl
      have d6 := dc 6 _ rfl
      have d7 := dc 7 _ rfl
      have d8 := dc 8 _ rfl
      have d9 := dc 9 _ rfl
      have d10 := dc 10 _ rfl
      rw [Nat.add_zero] at d0
      have hx : b < wr.heap.size := Nat.lt_of_lt_of_le hbl hb.size
      have hx' : b' < wr.heap.size := Nat.lt_of_lt_of_le hbl' hb.size
      have HBW := hide hb
      clear hb hcs hcs' ec dc
      go_wp2_with fail
      refine wp_region_quiet (C := fun w' => Below wr.heap.size wr w') (by kernel_rfl) (by kernel_rfl) ((Below.refl _ _).drew) ?_
      show wpQuiet _ _ _ _ [_, _, _, _, _, _, _, _, _, _] _
      refine wpQuiet_step (fun K hK => ?_)
      go_simp
      refine ⟨_, fun w' hw' => rfl, hK _ ?_⟩
      clear hK K
      refine wpQuiet_step (fun K hK => ?_)
      go_simp
      refine ⟨_, fun w' hw' => rfl, hK _ ?_⟩
      clear hK K
      refine wpQuiet_step (fun K hK => ?_)
      go_simp
      refine ⟨_, fun w' hw' => rfl, hK _ ?_⟩
      clear hK K
      refine wpQuiet_step (fun K hK => ?_)
      go_simp
      apply Exists.intro
      refine And.intro (fun w' hw' => ?_) (hK _ ?_)
      · obtain ⟨hc', hf'⟩ := bcell hw'
        go_simp
        first | rfl | exact ⟨rfl, rfl⟩ | exact ⟨rfl⟩
      clear hK K
      refine wpQuiet_step (fun K hK => ?_)
      go_simp
      refine ⟨_, fun w' hw' => rfl, hK _ ?_⟩
      clear hK K
      refine wpQuiet_step (fun K hK => ?_)
      go_simp
      refine ⟨_, fun w' hw' => rfl, hK _ ?_⟩
      clear hK K
      refine wpQuiet_step (fun K hK => ?_)
      go_simp
      refine ⟨_, fun w' hw' => rfl, hK _ ?_⟩
      clear hK K
      refine wpQuiet_step (fun K hK => ?_)
      go_simp
      apply Exists.intro
      refine And.intro (fun w' hw' => ?_) (hK _ ?_)
      · obtain ⟨hc', hf'⟩ := bcell hw'
        go_simp
        first | rfl | exact ⟨rfl, rfl⟩ | exact ⟨rfl⟩
      clear hK K
      refine wpQuiet_step (fun K hK => ?_)
      go_simp
      apply Exists.intro
      refine And.intro (fun w' hw' => ?_) (hK _ ?_)
      · refine (eqPair_selfR (f k) _).mono ?_
        rintro e w'' ⟨rfl, hb⟩
        exact ⟨rfl, hw'.trans (hb.mono hw'.size)⟩
      clear hK K
      refine wpQuiet_step (fun K hK => ?_)
      go_simp
      refine ⟨_, fun w' hw' => rfl, hK _ ?_⟩
      clear hK K
      refine wpQuiet_nil ?_
      intro w2 hw2
      have HB2 := hide ((unhide HBW).trans (hw2.mono (unhide HBW).size))
      clear hw2 e0 d0 e1 d1 e2 d2 e3 d3 e4 d4 e5 d5 e6 d6 e7 d7 e8 d8 e9 d9 e10 d10
      go_wp2
      go_roundw
      case rel => exact ⟨k + 1, by omega, by go_num, unhide HB2⟩
      case measure => simp [intOf]; omega
    · have : k = n := by omega
      subst this
      have HB2 := hide hb
      clear hb
      go_wp2
      go_ret
      exact ⟨rfl, unhide HB2⟩

def acL (a : Ac) : List Value := (ActBx a).toList
set_option maxRecDepth 100000 in
set_option maxHeartbeats 4000000 in
theorem eqAct_selfR (p : Ac) (w : World) :
    Calls Tryz.prog 20 #[AcV p, AcV p] w fun e w' => e = .returned (.bool true) ∧ Below w.heap.size w w' := by
  go_enter Tryz.func20, Tryz.ntmps20
  go_wp2_with fail
  refine (eqValue_self p.k.kind p.k.num p.k.flt p.k.str p.k.ref _).mono ?_
  rintro e w1 ⟨rfl, hb1⟩
  obtain ⟨hc1, hf1⟩ := bcell hb1
  have hz1 := hb1.size
  simp at hz1
  have y0 : w.heap.size < w1.heap.size := by omega
  have y1 : w.heap.size + 1 < w1.heap.size := by omega
  have HB1 : Hid (Below w.heap.size w w1) := hide ((((Below.refl _ _).alloc (Nat.le_refl _) _).alloc (by simp) _).trans (hb1.mono (by simp; omega)))
  clear hb1
  go_wp2_with fail
  refine (eqValue_self p.v.kind p.v.num p.v.flt p.v.str p.v.ref _).mono ?_
  rintro e w2 ⟨rfl, hb2⟩
  obtain ⟨hc2, hf2⟩ := bcell hb2
  have HB2 := hide ((unhide HB1).trans (hb2.mono (unhide HB1).size))
  clear hb2
  go_wp2
  go_ret
  exact ⟨rfl, unhide HB2⟩

set_option maxRecDepth 100000 in
set_option maxHeartbeats 4000000 in
theorem eqActS_sameR (a a' : Option Addr) (n cap cap' : Nat) (f : Nat → Ac) (w : World) (hA : RAt 14 w a n (fun i => acL (f i))) (hB : RAt 14 w a' n (fun i => acL (f i))) (hn : n ≤ 4194304) :
    Calls Tryz.prog 9 #[.slice a n cap, .slice a' n cap'] w fun e w' => e = .returned (.bool true) ∧ Below w.heap.size w w' := by
  have HA := hide hA
  have HB := hide hB
  clear hA hB
  go_enter Tryz.func9, Tryz.ntmps9
  go_wp2
  go_loopw [5] (fun i wr => ∃ (k : Nat), k ≤ n ∧ i = .int .i64 k ∧ Below w.heap.size w wr) (fun i _ => n - (intOf i).toNat)
  case atStart => exact ⟨0, by omega, rfl, Below.refl _ _⟩
  case round =>
    obtain ⟨k, hk, rfl, hb⟩ := hrel
    by_cases hlt : k < n
    · obtain ⟨b, rfl, hbl, hcs⟩ := (unhide HA).resolve_left (by omega)
      obtain ⟨b', rfl, hbl', hcs'⟩ := (unhide HB).resolve_left (by omega)
      have ec : ∀ j u, (acL (f k))[j]? = some u → wr.cell? ⟨b, k * 14 + j, none⟩ = some u := fun j u hu => (hb.cell (p := ⟨b, k * 14 + j, none⟩) hbl).trans (hcs k hlt j u hu)
      have dc : ∀ j u, (acL (f k))[j]? = some u → wr.cell? ⟨b', k * 14 + j, none⟩ = some u := fun j u hu => (hb.cell (p := ⟨b', k * 14 + j, none⟩) hbl').trans (hcs' k hlt j u hu)
      have e0 := ec 0 _ rfl
      have e1 := ec 1 _ rfl
      have e2 := ec 2 _ rfl
      have e3 := ec 3 _ rfl
      have e4 := ec 4 _ rfl
      have e5 := ec 5 _ rfl
      have e6 := ec 6 _ rfl
      have e7 := ec 7 _ rfl
      have e8 := ec 8 _ rfl
      have e9 := ec 9 _ rfl
      have e10 := ec 10 _ rfl
      have e11 := ec 11 _ rfl
      have e12 := ec 12 _ rfl
      have e13 := ec 13 _ rfl
      rw [Nat.add_zero] at e0
      have d0 := dc 0 _ rfl
      have d1 := dc 1 _ rfl
      have d2 := dc 2 _ rfl
      have d3 := dc 3 _ rfl
      have d4 := dc 4 _ rfl
      have d5 := dc 5 _ rfl
      have d6 := dc 6 _ rfl
      have d7 := dc 7 _ rfl
      have d8 := dc 8 _ rfl
      have d9 := dc 9 _ rfl
      have d10 := dc 10 _ rfl
      have d11 := dc 11 _ rfl
      have d12 := dc 12 _ rfl
      have d13 := dc 13 _ rfl
      rw [Nat.add_zero] at d0
      have hx : b < wr.heap.size := Nat.lt_of_lt_of_le hbl hb.size
      have hx' : b' < wr.heap.size := Nat.lt_of_lt_of_le hbl' hb.size
      have HBW := hide hb
      clear hb hcs hcs' ec dc
      go_wp2_with fail
      refine wp_region_quiet (C := fun w' => Below wr.heap.size wr w') (by kernel_rfl) (by kernel_rfl) ((Below.refl _ _).drew) ?_
      show wpQuiet _ _ _ _ [_, _, _, _, _, _, _, _, _, _] _
      refine wpQuiet_step (fun K hK => ?_)
      go_simp
      refine ⟨_, fun w' hw' => rfl, hK _ ?_⟩
      clear hK K
      refine wpQuiet_step (fun K hK => ?_)
      go_simp
      refine ⟨_, fun w' hw' => rfl, hK _ ?_⟩
      clear hK K
      refine wpQuiet_step (fun K hK => ?_)
      go_simp
      refine ⟨_, fun w' hw' => rfl, hK _ ?_⟩
      clear hK K
      refine wpQuiet_step (fun K hK => ?_)
      go_simp
      apply Exists.intro
      refine And.intro (fun w' hw' => ?_) (hK _ ?_)
      · obtain ⟨hc', hf'⟩ := bcell hw'
        go_simp
        first | rfl | exact ⟨rfl, rfl⟩ | exact ⟨rfl⟩
      clear hK K
      refine wpQuiet_step (fun K hK => ?_)
      go_simp
      refine ⟨_, fun w' hw' => rfl, hK _ ?_⟩
      clear hK K
      refine wpQuiet_step (fun K hK => ?_)
      go_simp
      refine ⟨_, fun w' hw' => rfl, hK _ ?_⟩
      clear hK K
      refine wpQuiet_step (fun K hK => ?_)
      go_simp
      refine ⟨_, fun w' hw' => rfl, hK _ ?_⟩
      clear hK K
      refine wpQuiet_step (fun K hK => ?_)
      go_simp
      apply Exists.intro
      refine And.intro (fun w' hw' => ?_) (hK _ ?_)
      · obtain ⟨hc', hf'⟩ := bcell hw'
        go_simp
        first | rfl | exact ⟨rfl, rfl⟩ | exact ⟨rfl⟩
      clear hK K
      refine wpQuiet_step (fun K hK => ?_)
      go_simp
      apply Exists.intro
      refine And.intro (fun w' hw' => ?_) (hK _ ?_)
      · refine (eqAct_selfR (f k) _).mono ?_
        rintro e w'' ⟨rfl, hb⟩
        exact ⟨rfl, hw'.trans (hb.mono hw'.size)⟩
      clear hK K
      refine wpQuiet_step (fun K hK => ?_)
      go_simp
      refine ⟨_, fun w' hw' => rfl, hK _ ?_⟩
      clear hK K
      refine wpQuiet_nil ?_
      intro w2 hw2
      have HB2 := hide ((unhide HBW).trans (hw2.mono (unhide HBW).size))
      clear hw2 e0 d0 e1 d1 e2 d2 e3 d3 e4 d4 e5 d5 e6 d6 e7 d7 e8 d8 e9 d9 e10 d10 e11 d11 e12 d12 e13 d13
      go_wp2
      go_roundw
      case rel => exact ⟨k + 1, by omega, by go_num, unhide HB2⟩
      case measure => simp [intOf]; omega
    · have : k = n := by omega
      subst this
      have HB2 := hide hb
      clear hb
      go_wp2
      go_ret
      exact ⟨rfl, unhide HB2⟩

end Go.Proofs.YtnjgebncghdajaaGreatDoor
