/-
  KdF, KdG, KdH, KdJ.
-/
import Derived.Test.YtnjgebncghdajaaGreatDoorKdEP
import Derived.Test.YtnjgebncghdajaaGreatDoorBi9
import Derived.Test.YtnjgebncghdajaaGreatDoorKdBP
import Derived.Test.YtnjgebncghdajaaGreatDoorKdCP
namespace Go.Proofs.YtnjgebncghdajaaGreatDoor
open Go.RowKit
set_option linter.unusedVariables false
set_option linter.unusedSimpArgs false
attribute [local go_sem] run_store_float run_equalIn_float

theorem POwn.rat {w : World} {B : Nat} {a : Option Addr} {n cp : Nat} {f : Nat → Pr} (h : POwn w B (.slice a n cp) n f) : RAt 11 w a n (fun i => prL (f i)) := by
  rcases Nat.eq_zero_or_pos n with h0 | h0
  · exact .inl h0
  · obtain ⟨b, cq, e, hb, hl⟩ := h.form h0
    cases e
    refine .inr ⟨b, rfl, hl, fun i hi j u hu => ?_⟩
    have hj : j < 11 := (List.getElem?_eq_some_iff.1 hu).1
    rw [World.ownsRow.cellAt h (i * 11 + j) (by omega), pL_get hi hj, hu]
/-- A row of plain tables. -/
def TbAt (w : World) (a : Option Addr) (n : Nat) (T : Nat → Pl) : Prop :=
  n = 0 ∨ ∃ g, a = some ⟨g, 0, none⟩ ∧ g < w.heap.size ∧ ∀ i, i < n → ∃ ua uc, w.cell? ⟨g, i * 2, none⟩ = some (.slice ua (T i).n uc) ∧ w.cell? ⟨g, i * 2 + 1, none⟩ = some (.int .i64 (T i).turns) ∧ RAt 11 w ua (T i).n (fun j => prL ((T i).P j))
theorem TbAt.below {w w' : World} {a : Option Addr} {n : Nat} {T : Nat → Pl} (h : TbAt w a n T) (hb : Below w.heap.size w w') : TbAt w' a n T := by
  rcases h with h | ⟨g, e, hl, hc⟩
  · exact .inl h
  · refine .inr ⟨g, e, Nat.lt_of_lt_of_le hl hb.size, fun i hi => ?_⟩
    obtain ⟨ua, uc, h1, h2, h3⟩ := hc i hi
    exact ⟨ua, uc, (hb.cell (p := ⟨g, i * 2, none⟩) hl).trans h1, (hb.cell (p := ⟨g, i * 2 + 1, none⟩) hl).trans h2, h3.below hb⟩
theorem DeskM.tbat {ty : TypeId} {w : World} {c B : Nat} {a : Option Addr} {cp : Nat} {vS : Value} {U : Nat → Value} {D : Ds} (h : DeskM ty w c B (.slice a D.nt cp) vS U D) : TbAt w a D.nt D.T := by
  rcases Nat.eq_zero_or_pos D.nt with h0 | h0
  · exact .inl h0
  · obtain ⟨g, cq, e, hb, hl⟩ := h.tb.form h0
    cases e
    refine .inr ⟨g, rfl, hl, fun i hi => ?_⟩
    obtain ⟨g', cp', ua, uc, e1, _, e2, e3, e4, _⟩ := h.look hi
    cases e1
    exact ⟨ua, uc, e3, e4, (e2 ▸ h.pr i hi : POwn w B (.slice ua (D.T i).n uc) (D.T i).n (D.T i).P).rat⟩

set_option maxRecDepth 100000 in
set_option maxHeartbeats 4000000 in
theorem eqPlain_same (a a' : Option Addr) (cp cp' : Nat) (t : Pl) (w : World) (hA : RAt 11 w a t.n (fun j => prL (t.P j))) (hB : RAt 11 w a' t.n (fun j => prL (t.P j))) (hn : t.n ≤ 500) :
    Calls Tryz.prog 38 #[PlV a cp t, PlV a' cp' t] w fun e w' => e = .returned (.bool true) ∧ Below w.heap.size w w' := by
  obtain ⟨W, hW⟩ : ∃ W, W = (w.alloc (.cells #[.slice a t.n cp, .int .i64 t.turns] 72)).alloc (.cells #[.slice a' t.n cp', .int .i64 t.turns] 72) := ⟨_, rfl⟩
  have hb0 : Below w.heap.size w W := by rw [hW]; exact ((Below.refl _ _).alloc (Nat.le_refl _) _).alloc (by simp) _
  have x1 : W.cell? ⟨w.heap.size, 1, none⟩ = some (.int .i64 t.turns) := by rw [hW]; simp [go_sem]
  have y1 : W.cell? ⟨w.heap.size + 1, 1, none⟩ = some (.int .i64 t.turns) := by rw [hW]; simp [go_sem]
  have hz : w.heap.size + 1 < W.heap.size := by rw [hW]; simp
  have HEQ := hide (eqPairS_sameR a a' t.n cp cp' t.P W (hA.below hb0) (hB.below hb0) (by omega))
  have HB := hide hb0
  clear hA hB hb0
  go_enter Tryz.func38, Tryz.ntmps38
  go_wp2_with fail
  rw [← hW]
  clear hW
  refine (unhide HEQ).mono ?_
  rintro e w1 ⟨rfl, hb1⟩
  have x1 := (hb1.cell (p := ⟨w.heap.size, 1, none⟩) (by show w.heap.size < _; omega)).trans x1
  have y1 := (hb1.cell (p := ⟨w.heap.size + 1, 1, none⟩) hz).trans y1
  have z1 : w.heap.size < w1.heap.size := by have := hb1.size; omega
  have z2 : w.heap.size + 1 < w1.heap.size := by have := hb1.size; omega
  have HB1 := hide ((unhide HB).trans (hb1.mono (unhide HB).size))
  clear hb1
  go_wp2
  go_ret
  exact ⟨rfl, unhide HB1⟩

set_option maxRecDepth 100000 in
set_option maxHeartbeats 4000000 in
theorem eqPlainS_same (a a' : Option Addr) (n cap cap' : Nat) (T : Nat → Pl) (w : World) (hA : TbAt w a n T) (hB : TbAt w a' n T) (hn : n ≤ 100) (hT : ∀ i, i < n → (T i).n ≤ 500) :
    Calls Tryz.prog 19 #[.slice a n cap, .slice a' n cap'] w fun e w' => e = .returned (.bool true) ∧ Below w.heap.size w w' := by
  have HA := hide hA
  have HB := hide hB
  clear hA hB
  go_enter Tryz.func19, Tryz.ntmps19
  go_wp2
  go_loopw [5] (fun i wr => ∃ (k : Nat), k ≤ n ∧ i = .int .i64 k ∧ Below w.heap.size w wr) (fun i _ => n - (intOf i).toNat)
  case atStart => exact ⟨0, by omega, rfl, Below.refl _ _⟩
  case round =>
    obtain ⟨k, hk, rfl, hb⟩ := hrel
    by_cases hlt : k < n
    · obtain ⟨b, rfl, hbl, hcs⟩ := (unhide HA).resolve_left (by omega)
      obtain ⟨b', rfl, hbl', hcs'⟩ := (unhide HB).resolve_left (by omega)
      obtain ⟨ua, uc, e0, e1, hr⟩ := hcs k hlt
      obtain ⟨ua', uc', d0, d1, hr'⟩ := hcs' k hlt
      have e0 := (hb.cell (p := ⟨b, k * 2, none⟩) hbl).trans e0
      have e1 := (hb.cell (p := ⟨b, k * 2 + 1, none⟩) hbl).trans e1
      have d0 := (hb.cell (p := ⟨b', k * 2, none⟩) hbl').trans d0
      have d1 := (hb.cell (p := ⟨b', k * 2 + 1, none⟩) hbl').trans d1
      have hx : b < wr.heap.size := Nat.lt_of_lt_of_le hbl hb.size
      have hx' : b' < wr.heap.size := Nat.lt_of_lt_of_le hbl' hb.size
      have HR := hide (hr.below hb)
      have HR' := hide (hr'.below hb)
      have HBW := hide hb
      clear hb hcs hcs' hr hr'
      go_wp2_with fail
      refine wp_region_quiet (C := fun w' => Below wr.heap.size wr w') (by kernel_rfl) (by kernel_rfl) ((Below.refl _ _).drew) ?_
      show wpQuiet _ _ _ _ [_, _, _, _, _, _, _, _, _, _] _
      refine wpQuiet_step (fun K hK => ?_)
      go_simp
      refine ⟨_, fun w' hw' => rfl, hK _ ?_⟩
      clear hK K
      refine wpQuiet_step (fun K hK => ?_)
      go_simp
      refine ⟨_, fun w' hw' => rfl, hK _ ?_⟩
      clear hK K
      refine wpQuiet_step (fun K hK => ?_)
      go_simp
      refine ⟨_, fun w' hw' => rfl, hK _ ?_⟩
      clear hK K
      refine wpQuiet_step (fun K hK => ?_)
      go_simp
      apply Exists.intro
      refine And.intro (fun w' hw' => ?_) (hK _ ?_)
      · obtain ⟨hc', hf'⟩ := bcell hw'
        go_simp
        first | rfl | exact ⟨rfl, rfl⟩ | exact ⟨rfl⟩
      clear hK K
      refine wpQuiet_step (fun K hK => ?_)
      go_simp
      refine ⟨_, fun w' hw' => rfl, hK _ ?_⟩
      clear hK K
      refine wpQuiet_step (fun K hK => ?_)
      go_simp
      refine ⟨_, fun w' hw' => rfl, hK _ ?_⟩
      clear hK K
      refine wpQuiet_step (fun K hK => ?_)
      go_simp
      refine ⟨_, fun w' hw' => rfl, hK _ ?_⟩
      clear hK K
      refine wpQuiet_step (fun K hK => ?_)
      go_simp
      apply Exists.intro
      refine And.intro (fun w' hw' => ?_) (hK _ ?_)
      · obtain ⟨hc', hf'⟩ := bcell hw'
        go_simp
        first | rfl | exact ⟨rfl, rfl⟩ | exact ⟨rfl⟩
      clear hK K
      refine wpQuiet_step (fun K hK => ?_)
      go_simp
      apply Exists.intro
      refine And.intro (fun w' hw' => ?_) (hK _ ?_)
      · refine (eqPlain_same ua ua' uc uc' (T k) _ ((unhide HR).below hw') ((unhide HR').below hw') (hT k hlt)).mono ?_
        rintro e w'' ⟨rfl, hb⟩
        exact ⟨rfl, hw'.trans (hb.mono hw'.size)⟩
      clear hK K
      refine wpQuiet_step (fun K hK => ?_)
      go_simp
      refine ⟨_, fun w' hw' => rfl, hK _ ?_⟩
      clear hK K
      refine wpQuiet_nil ?_
      intro w2 hw2
      have HB2 := hide ((unhide HBW).trans (hw2.mono (unhide HBW).size))
      clear hw2 e0 e1 d0 d1
      go_wp2
      go_roundw
      case rel => exact ⟨k + 1, by omega, by go_num, unhide HB2⟩
      case measure => simp [intOf]; omega
    · have : k = n := by omega
      subst this
      have HB2 := hide hb
      clear hb
      go_wp2
      go_ret
      exact ⟨rfl, unhide HB2⟩

set_option maxRecDepth 100000 in
set_option maxHeartbeats 4000000 in
theorem eqIdeal_same (ok : Bool) (aa aa' ta ta' : Option Addr) (n m ac ac' tc tc' : Nat) (g : Nat → An) (T : Nat → Pl) (w : World) (hA : RAt 12 w aa n (fun i => anL (g i))) (hA' : RAt 12 w aa' n (fun i => anL (g i))) (hT : TbAt w ta m T) (hT' : TbAt w ta' m T) (hn : n ≤ 1000) (hm : m ≤ 100) (hTn : ∀ i, i < m → (T i).n ≤ 500) :
    Calls Tryz.prog 8 #[IdV ok (.slice aa n ac) (.slice ta m tc), IdV ok (.slice aa' n ac') (.slice ta' m tc')] w fun e w' => e = .returned (.bool true) ∧ Below w.heap.size w w' := by
  obtain ⟨W, hW⟩ : ∃ W, W = (w.alloc (.cells #[.bool ok, .slice aa n ac, .slice ta m tc] 27)).alloc (.cells #[.bool ok, .slice aa' n ac', .slice ta' m tc'] 27) := ⟨_, rfl⟩
  have hb0 : Below w.heap.size w W := by rw [hW]; exact ((Below.refl _ _).alloc (Nat.le_refl _) _).alloc (by simp) _
  have x2 : W.cell? ⟨w.heap.size, 2, none⟩ = some (.slice ta m tc) := by rw [hW]; simp [go_sem]
  have y2 : W.cell? ⟨w.heap.size + 1, 2, none⟩ = some (.slice ta' m tc') := by rw [hW]; simp [go_sem]
  have hz : w.heap.size + 1 < W.heap.size := by rw [hW]; simp
  have HEQ := hide (eqAnsS_sameR aa aa' n ac ac' g W (hA.below hb0) (hA'.below hb0) (by omega))
  have HT := hide (hT.below hb0)
  have HT' := hide (hT'.below hb0)
  have HB := hide hb0
  have hok : (ok != ok) = false := by cases ok <;> rfl
  clear hA hA' hT hT' hb0
  go_enter Tryz.func8, Tryz.ntmps8
  go_wp2_with fail
  rw [← hW]
  clear hW
  refine (unhide HEQ).mono ?_
  rintro e w1 ⟨rfl, hb1⟩
  have x2 := (hb1.cell (p := ⟨w.heap.size, 2, none⟩) (by show w.heap.size < _; omega)).trans x2
  have y2 := (hb1.cell (p := ⟨w.heap.size + 1, 2, none⟩) hz).trans y2
  have z1 : w.heap.size < w1.heap.size := by have := hb1.size; omega
  have z2 : w.heap.size + 1 < w1.heap.size := by have := hb1.size; omega
  have HB1 := hide ((unhide HB).trans (hb1.mono (unhide HB).size))
  have HEQ2 := hide (eqPlainS_same ta ta' m tc tc' T w1 ((unhide HT).below hb1) ((unhide HT').below hb1) hm hTn)
  clear hb1
  go_wp2_with fail
  refine (unhide HEQ2).mono ?_
  rintro e w2 ⟨rfl, hb2⟩
  have HB2 := hide ((unhide HB1).trans (hb2.mono (unhide HB1).size))
  clear hb2
  go_wp2
  go_ret
  exact ⟨rfl, unhide HB2⟩
end Go.Proofs.YtnjgebncghdajaaGreatDoor
namespace Go.Proofs.YtnjgebncghdajaaGreatDoor
open Go.RowKit
set_option linter.unusedVariables false
set_option linter.unusedSimpArgs false
attribute [local go_sem] run_store_float run_equalIn_float

theorem own_rowIs {w : World} {B b : Nat} {e : TypeId} {S n cap : Nat} {xs : List Value} (h : w.ownsRow B e S (.slice (some ⟨b, 0, none⟩) n cap) n xs) : ∃ N g, w.rowIs b e N g ∧ n * S ≤ N := by
  rcases h.2 with ⟨hn, _⟩ | ⟨g', cap', cur, hv, hb, hg, h1, h2, h3, h4⟩
  · cases hn
  · cases hv
    exact ⟨cur.size, fun i => (cur[i]?).getD undef, ⟨cur, hg, rfl, fun i hi => by show cur[i]? = some ((cur[i]?).getD undef); rw [Array.getElem?_eq_getElem hi]; rfl⟩, by rw [h3]; exact Nat.mul_le_mul_right _ h1⟩
theorem Bu.dst {b : Nat} {w w' : World} {O : Nat → Prop} (h : Bu b w w') (hO : O b) : Dst O w O w' := ⟨h.os, h.tape, h.output, h.size, fun k hk hn => h.block k hk (fun e => hn (e ▸ hO)), fun _ h => .inl h⟩
theorem Dst.wider {O O' : Nat → Prop} {w w' : World} (h : Dst O w O w') (hO : ∀ k, O k → O' k) : Dst O' w O' w' := ⟨h.os, h.tape, h.output, h.size, fun k hk hn => h.block k hk (fun e => hn (hO k e)), fun _ h => .inl h⟩

set_option maxHeartbeats 2000000 in
theorem markPair_nil (a : Option Addr) (cap s : Nat) (w : World) : Calls Tryz.prog 40 #[.slice a 0 cap, .int .i64 (s : Int)] w fun e w' => e = .returned (.int .i64 (s : Int)) ∧ w' = w := by
  go_enter Tryz.func40, Tryz.ntmps40
  go_wp2
  go_loopw [1, 5] (fun q i wr => i = .int .i64 0 ∧ q = .int .i64 (s : Int) ∧ wr = w) (fun _ _ _ => 0)
  case atStart => exact ⟨rfl, rfl, rfl⟩
  case round =>
    obtain ⟨rfl, rfl, rfl⟩ := hrel
    go_wp2
    go_ret
    exact ⟨rfl, rfl⟩
set_option maxHeartbeats 2000000 in
theorem markAns_nil (a : Option Addr) (cap s : Nat) (w : World) : Calls Tryz.prog 22 #[.slice a 0 cap, .int .i64 (s : Int)] w fun e w' => e = .returned (.int .i64 (s : Int)) ∧ w' = w := by
  go_enter Tryz.func22, Tryz.ntmps22
  go_wp2
  go_loopw [1, 5] (fun q i wr => i = .int .i64 0 ∧ q = .int .i64 (s : Int) ∧ wr = w) (fun _ _ _ => 0)
  case atStart => exact ⟨rfl, rfl, rfl⟩
  case round =>
    obtain ⟨rfl, rfl, rfl⟩ := hrel
    go_wp2
    go_ret
    exact ⟨rfl, rfl⟩
set_option maxHeartbeats 2000000 in
theorem heldPair_nil (a : Option Addr) (cap s : Nat) (w : World) : Calls Tryz.prog 41 #[.slice a 0 cap, .int .i64 (s : Int)] w fun e w' => e = .returned (.int .i64 (s : Int)) ∧ w' = w := by
  go_enter Tryz.func41, Tryz.ntmps41
  go_wp2
  go_loopw [1, 5] (fun q i wr => i = .int .i64 0 ∧ q = .int .i64 (s : Int) ∧ wr = w) (fun _ _ _ => 0)
  case atStart => exact ⟨rfl, rfl, rfl⟩
  case round =>
    obtain ⟨rfl, rfl, rfl⟩ := hrel
    go_wp2
    go_ret
    exact ⟨rfl, rfl⟩
set_option maxHeartbeats 2000000 in
theorem heldAns_nil (a : Option Addr) (cap s : Nat) (w : World) : Calls Tryz.prog 24 #[.slice a 0 cap, .int .i64 (s : Int)] w fun e w' => e = .returned (.int .i64 (s : Int)) ∧ w' = w := by
  go_enter Tryz.func24, Tryz.ntmps24
  go_wp2
  go_loopw [1, 5] (fun q i wr => i = .int .i64 0 ∧ q = .int .i64 (s : Int) ∧ wr = w) (fun _ _ _ => 0)
  case atStart => exact ⟨rfl, rfl, rfl⟩
  case round =>
    obtain ⟨rfl, rfl, rfl⟩ := hrel
    go_wp2
    go_ret
    exact ⟨rfl, rfl⟩

theorem markPair_own (a : Option Addr) (B n cp s : Nat) (f : Nat → Pr) (w : World) (h : POwn w B (.slice a n cp) n f) (hn : n ≤ 4194304) (hs : s ≤ 100000000) :
    Calls Tryz.prog 40 #[.slice a n cp, .int .i64 (s : Int)] w fun e w' => e = .returned (.int .i64 ((s : Int) + 11 * (n : Int))) ∧ RAt 11 w' a n (mkPair s) ∧ Dst (fun k => (Value.slice a n cp).ownBlock = some k) w (fun k => (Value.slice a n cp).ownBlock = some k) w' := by
  rcases Nat.eq_zero_or_pos n with h0 | h0
  · subst h0
    refine (markPair_nil a cp s w).mono ?_
    rintro e w' ⟨rfl, rfl⟩
    exact ⟨by simp, .inl rfl, Dst.refl _ _⟩
  · obtain ⟨b, cq, e, hb, hl⟩ := h.form h0
    cases e
    obtain ⟨N, g, hr, hN⟩ := own_rowIs h
    refine (markPairR b n cp N s g w hr hN hn hs).mono ?_
    rintro e w' ⟨⟨rfl, g', hr', hg'⟩, hB⟩
    refine ⟨rfl, .inr ⟨b, rfl, hr'.lt, fun i hi j u hu => ?_⟩, hB.dst rfl⟩
    have hj : j < 11 := (List.getElem?_eq_some_iff.1 hu).1
    rw [hr'.cell (i := i * 11 + j) (by omega), hg' _ (by omega), mcPair_at s i j hj, hu]; rfl
theorem markAns_own (a : Option Addr) (B n cp s : Nat) (f : Nat → An) (w : World) (h : AOwn w B (.slice a n cp) n f) (hn : n ≤ 4194304) (hs : s ≤ 100000000) :
    Calls Tryz.prog 22 #[.slice a n cp, .int .i64 (s : Int)] w fun e w' => e = .returned (.int .i64 ((s : Int) + 12 * (n : Int))) ∧ RAt 12 w' a n (mkAns s) ∧ Dst (fun k => (Value.slice a n cp).ownBlock = some k) w (fun k => (Value.slice a n cp).ownBlock = some k) w' := by
  rcases Nat.eq_zero_or_pos n with h0 | h0
  · subst h0
    refine (markAns_nil a cp s w).mono ?_
    rintro e w' ⟨rfl, rfl⟩
    exact ⟨by simp, .inl rfl, Dst.refl _ _⟩
  · obtain ⟨b, cq, e, hb, hl⟩ := h.form h0
    cases e
    obtain ⟨N, g, hr, hN⟩ := own_rowIs h
    refine (markAnsR b n cp N s g w hr hN hn hs).mono ?_
    rintro e w' ⟨⟨rfl, g', hr', hg'⟩, hB⟩
    refine ⟨rfl, .inr ⟨b, rfl, hr'.lt, fun i hi j u hu => ?_⟩, hB.dst rfl⟩
    have hj : j < 12 := (List.getElem?_eq_some_iff.1 hu).1
    rw [hr'.cell (i := i * 12 + j) (by omega), hg' _ (by omega), mcAns_at s i j hj, hu]; rfl
theorem heldPair_at (a : Option Addr) (n cp s : Nat) (w : World) (h : RAt 11 w a n (mkPair s)) (hn : n ≤ 4194304) (hs : s ≤ 100000000) :
    Calls Tryz.prog 41 #[.slice a n cp, .int .i64 (s : Int)] w fun e w' => e = .returned (.int .i64 ((s : Int) + 11 * (n : Int))) ∧ Below w.heap.size w w' := by
  rcases h with h0 | ⟨b, rfl, hl, hc⟩
  · subst h0
    refine (heldPair_nil a cp s w).mono ?_
    rintro e w' ⟨rfl, rfl⟩
    exact ⟨by simp, Below.refl _ _⟩
  · exact heldPairR b n cp s w hl hc hn hs
theorem heldAns_at (a : Option Addr) (n cp s : Nat) (w : World) (h : RAt 12 w a n (mkAns s)) (hn : n ≤ 4194304) (hs : s ≤ 100000000) :
    Calls Tryz.prog 24 #[.slice a n cp, .int .i64 (s : Int)] w fun e w' => e = .returned (.int .i64 ((s : Int) + 12 * (n : Int))) ∧ Below w.heap.size w w' := by
  rcases h with h0 | ⟨b, rfl, hl, hc⟩
  · subst h0
    refine (heldAns_nil a cp s w).mono ?_
    rintro e w' ⟨rfl, rfl⟩
    exact ⟨by simp, Below.refl _ _⟩
  · exact heldAnsR b n cp s w hl hc hn hs

/-- The mark at which table k begins. -/
def sAt (T : Nat → Pl) (s : Nat) : Nat → Nat
  | 0 => s
  | k + 1 => sAt T s k + 11 * (T k).n + 1
theorem sAt_le {T : Nat → Pl} {s n : Nat} (hT : ∀ i, i < n → (T i).n ≤ 500) : ∀ k, k ≤ n → sAt T s k ≤ s + 5501 * k
  | 0, _ => Nat.le_refl _
  | k + 1, h => by
    have h1 := sAt_le hT (s := s) k (by omega)
    have h2 := hT k (by omega)
    show sAt T s k + 11 * (T k).n + 1 ≤ _
    omega
/-- Tables that are marked. -/
def TMk (w : World) (a : Option Addr) (n : Nat) (T : Nat → Pl) (s : Nat) : Prop :=
  n = 0 ∨ ∃ g, a = some ⟨g, 0, none⟩ ∧ g < w.heap.size ∧ ∀ i, i < n → ∃ ua uc, w.cell? ⟨g, i * 2, none⟩ = some (.slice ua (T i).n uc) ∧ w.cell? ⟨g, i * 2 + 1, none⟩ = some (.int .i64 ((sAt T s i : Int) + 11 * ((T i).n : Int))) ∧ RAt 11 w ua (T i).n (mkPair (sAt T s i))
theorem TMk.below {w w' : World} {a : Option Addr} {n : Nat} {T : Nat → Pl} {s : Nat} (h : TMk w a n T s) (hb : Below w.heap.size w w') : TMk w' a n T s := by
  rcases h with h | ⟨g, e, hl, hc⟩
  · exact .inl h
  · refine .inr ⟨g, e, Nat.lt_of_lt_of_le hl hb.size, fun i hi => ?_⟩
    obtain ⟨ua, uc, h1, h2, h3⟩ := hc i hi
    exact ⟨ua, uc, (hb.cell (p := ⟨g, i * 2, none⟩) hl).trans h1, (hb.cell (p := ⟨g, i * 2 + 1, none⟩) hl).trans h2, h3.below hb⟩

set_option maxRecDepth 100000 in
set_option maxHeartbeats 4000000 in
theorem heldPlainS_at (a : Option Addr) (n cp s : Nat) (T : Nat → Pl) (w : World) (h : TMk w a n T s) (hn : n ≤ 100) (hT : ∀ i, i < n → (T i).n ≤ 500) (hs : s ≤ 1000000) :
    Calls Tryz.prog 25 #[.slice a n cp, .int .i64 (s : Int)] w fun e w' => e = .returned (.int .i64 (sAt T s n : Int)) ∧ Below w.heap.size w w' := by
  have HA := hide h
  clear h
  go_enter Tryz.func25, Tryz.ntmps25
  go_wp2
  go_loopw [1, 5] (fun q i wr => ∃ (k : Nat), k ≤ n ∧ i = .int .i64 k ∧ q = .int .i64 (sAt T s k : Int) ∧ Below w.heap.size w wr) (fun _ i _ => n - (intOf i).toNat)
  case atStart => exact ⟨0, by omega, rfl, rfl, Below.refl _ _⟩
  case round =>
    obtain ⟨k, hk, rfl, rfl, hb⟩ := hrel
    have hle := sAt_le hT (s := s) k hk
    by_cases hlt : k < n
    · obtain ⟨b, rfl, hbl, hcs⟩ := (unhide HA).resolve_left (by omega)
      obtain ⟨ua, uc, e0, e1, hr⟩ := hcs k hlt
      have e0 := (hb.cell (p := ⟨b, k * 2, none⟩) hbl).trans e0
      have e1 := (hb.cell (p := ⟨b, k * 2 + 1, none⟩) hbl).trans e1
      have hx : b < wr.heap.size := Nat.lt_of_lt_of_le hbl hb.size
      have hTk := hT k hlt
      have HH := hide (heldPair_at ua (T k).n uc (sAt T s k) wr (hr.below hb) (by omega) (by omega))
      have HS : Hid ((sAt T s (k + 1) : Int) = (sAt T s k : Int) + 11 * ((T k).n : Int) + 1) := hide (by show ((sAt T s k + 11 * (T k).n + 1 : Nat) : Int) = _; omega)
      have HBW := hide hb
      clear hb hcs hr
      generalize sAt T s k = z at *
      generalize (T k).n = m at *
      go_wp2_with fail
      refine (unhide HH).mono ?_
      rintro e w2 ⟨rfl, hb2⟩
      have e1 := (hb2.cell (p := ⟨b, k * 2 + 1, none⟩) hx).trans e1
      have hx2 : b < w2.heap.size := Nat.lt_of_lt_of_le hx hb2.size
      have HB2 := hide ((unhide HBW).trans (hb2.mono (unhide HBW).size))
      have hnn : decide ((z : Int) + 11 * (m : Int) < 0) = false := by simp; omega
      clear hb2 e0
      go_wp2
      go_roundw
      case rel => exact ⟨k + 1, by omega, by go_num, by rw [unhide HS], unhide HB2⟩
      case measure => simp [intOf]; omega
    · have : k = n := by omega
      subst this
      have HB2 := hide hb
      clear hb
      go_wp2
      go_ret
      exact ⟨rfl, unhide HB2⟩
end Go.Proofs.YtnjgebncghdajaaGreatDoor
namespace Go.Proofs.YtnjgebncghdajaaGreatDoor
open Go.RowKit
set_option linter.unusedVariables false
set_option linter.unusedSimpArgs false
attribute [local go_sem] run_store_float run_equalIn_float

/-- Tables of which the first k are marked. -/
def mT (T : Nat → Pl) (s k : Nat) : Nat → Pl := fun i => if i < k then ⟨(T i).n, (T i).P, (sAt T s i : Int) + 11 * ((T i).n : Int)⟩ else T i
theorem mT_zero (T : Nat → Pl) (s : Nat) : mT T s 0 = T := by funext i; simp [mT]
theorem mT_step (T : Nat → Pl) (s k : Nat) : mT T s (k + 1) = up1 (mT T s k) k ⟨(T k).n, (T k).P, (sAt T s k : Int) + 11 * ((T k).n : Int)⟩ := by
  funext i
  unfold mT up1
  by_cases h : i = k
  · subst h; simp
  · by_cases h2 : i < k
    · simp [h, h2, show i < k + 1 by omega]
    · simp [h, h2, show ¬ i < k + 1 by omega]
def OwnT (vT : Value) (U : Nat → Value) (n k : Nat) : Prop := vT.ownBlock = some k ∨ ∃ i, i < n ∧ (U i).ownBlock = some k
structure MkRel (w : World) (B : Nat) (vT : Value) (U : Nat → Value) (n : Nat) (T : Nat → Pl) (s k : Nat) (wr : World) : Prop where
  row : wr.ownsRow B 72 2 vT n (tL U (mT T s k) n)
  left : ∀ i, k ≤ i → i < n → POwn wr B (U i) (T i).n (T i).P
  done : ∀ i, i < k → ∃ ua uc, U i = .slice ua (T i).n uc ∧ RAt 11 wr ua (T i).n (mkPair (sAt T s i))
  dst : Dst (OwnT vT U n) w (OwnT vT U n) wr
theorem RAt.dstk {S : Nat} {O : Nat → Prop} {w w' : World} {a : Option Addr} {n : Nat} {L : Nat → List Value} (h : RAt S w a n L) (hd : Dst O w O w') (hn : ∀ b, a = some ⟨b, 0, none⟩ → ¬ O b) : RAt S w' a n L := by
  rcases h with h | ⟨b, e, hl, hc⟩
  · exact .inl h
  · exact RAt.keep (.inr ⟨b, e, hl, hc⟩) hd.size (fun b' e' => by rw [e] at e'; cases e'; exact hd.block b hl (hn b e))

theorem MkRel.step {w : World} {B g cp : Nat} {U : Nat → Value} {n : Nat} {T : Nat → Pl} {s k : Nat} {wr w2 : World} {ua : Option Addr} {uc : Nat} (h : MkRel w B (.slice (some ⟨g, 0, none⟩) n cp) U n T s k wr) (hk : k < n)
    (tu : ∀ i, i < n → (U i).ownBlock ≠ some g) (uu : ∀ b i j, i < n → j < n → i ≠ j → (U i).ownBlock = some b → (U j).ownBlock ≠ some b) (eU : U k = .slice ua (T k).n uc)
    (h2 : Dst (fun q => (Value.slice ua (T k).n uc).ownBlock = some q) wr (fun q => (Value.slice ua (T k).n uc).ownBlock = some q) w2) (hr : RAt 11 w2 ua (T k).n (mkPair (sAt T s k))) :
    w2.heap[g]? = wr.heap[g]? ∧ MkRel w B (.slice (some ⟨g, 0, none⟩) n cp) U n T s (k + 1) (w2.setCell ⟨g, k * 2 + 1, none⟩ (.int .i64 ((sAt T s k : Int) + 11 * ((T k).n : Int)))) := by
  have hgl := (h.row.lt g rfl).2
  have hg2 : w2.heap[g]? = wr.heap[g]? := h2.block g hgl (fun e => tu k hk (by rw [eU]; exact e))
  have s2 := set_os w2 ⟨g, k * 2 + 1, none⟩ (.int .i64 ((sAt T s k : Int) + 11 * ((T k).n : Int)))
  have row2 : w2.ownsRow B 72 2 (.slice (some ⟨g, 0, none⟩) n cp) n (tL U (mT T s k) n) := own_keep h.row fun q e => by cases e; exact hg2
  have nb : ∀ i b, i < n → (U i).ownBlock = some b → b ≠ g := fun i b hi e e2 => tu i hi (e2 ▸ e)
  have sd : Dst (fun q => q = g) w2 (fun q => q = g) (w2.setCell ⟨g, k * 2 + 1, none⟩ (.int .i64 ((sAt T s k : Int) + 11 * ((T k).n : Int)))) := ⟨s2.1, s2.2.1, s2.2.2.1, Nat.le_of_eq s2.2.2.2.symm, fun q _ hn => Deep.blk_setCell_other _ _ _ _ (by exact hn), fun _ h => .inl h⟩
  refine ⟨hg2, ⟨?_, fun i hi hin => ?_, fun i hi => ?_, ?_⟩⟩
  · have := (World.ownsRow.stored row2 (k * 2 + 1) (.int .i64 (⟨(T k).n, (T k).P, (sAt T s k : Int) + 11 * ((T k).n : Int)⟩ : Pl).turns)).1
    rw [tL_set1 hk, ← mT_step] at this
    exact this
  · exact own_keep (h.left i (by omega) hin) fun q e => (Deep.blk_setCell_other _ _ _ _ (by exact nb i q hin e)).trans (h2.block q ((h.left i (by omega) hin).lt q e).2 (fun e2 => uu q i k hin hk (by omega) e (by rw [eU]; exact e2)))
  · rcases (by omega : i < k ∨ i = k) with h1 | rfl
    · obtain ⟨va, vc, e1, e2⟩ := h.done i h1
      have hin : i < n := by omega
      refine ⟨va, vc, e1, (e2.dstk h2 fun b e => ?_).dstk sd fun b e => ?_⟩
      · exact fun e3 => uu b i k hin hk (by omega) (by rw [e1, e]; rfl) (by rw [eU]; exact e3)
      · exact nb i b hin (by rw [e1, e]; rfl)
    · exact ⟨ua, uc, eU, hr.dstk sd fun b e => nb i b hk (by rw [eU, e]; rfl)⟩
  · exact h.dst.trans ((h2.wider fun q e => .inr ⟨k, hk, by rw [eU]; exact e⟩).trans (sd.wider fun q e => .inl (by rw [e]; rfl)))
theorem MkRel.fin {w : World} {B : Nat} {a : Option Addr} {cp : Nat} {U : Nat → Value} {n : Nat} {T : Nat → Pl} {s : Nat} {wr : World} (h : MkRel w B (.slice a n cp) U n T s n wr) : TMk wr a n T s := by
  rcases Nat.eq_zero_or_pos n with h0 | h0
  · exact .inl h0
  · obtain ⟨g, cq, e, hb, hl⟩ := h.row.form h0
    cases e
    refine .inr ⟨g, rfl, hl, fun i hi => ?_⟩
    obtain ⟨ua, uc, e1, e2⟩ := h.done i hi
    refine ⟨ua, uc, ?_, ?_, e2⟩
    · rw [World.ownsRow.cellAt h.row (i * 2) (by omega)]
      have := tL_get (U := U) (T := mT T s n) hi (j := 0) (by omega)
      rw [Nat.add_zero] at this
      rw [this, e1]; rfl
    · rw [World.ownsRow.cellAt h.row (i * 2 + 1) (by omega), tL_get hi (by omega)]
      simp [mT, hi]

/-- Tables that own their rows. -/
structure TabO (w : World) (B : Nat) (vT : Value) (U : Nat → Value) (n : Nat) (T : Nat → Pl) : Prop where
  tb : TOwn w B vT n U T
  pr : ∀ i, i < n → POwn w B (U i) (T i).n (T i).P
  tu : ∀ g i, vT.ownBlock = some g → i < n → (U i).ownBlock ≠ some g
  uu : ∀ g i j, i < n → j < n → i ≠ j → (U i).ownBlock = some g → (U j).ownBlock ≠ some g
theorem DeskM.tabO {ty : TypeId} {w : World} {c B : Nat} {vT vS : Value} {U : Nat → Value} {D : Ds} (h : DeskM ty w c B vT vS U D) : TabO w B vT U D.nt D.T := ⟨h.tb, h.pr, h.tu, h.uu⟩
theorem TabO.keep {w w' : World} {B : Nat} {vT : Value} {U : Nat → Value} {n : Nat} {T : Nat → Pl} (h : TabO w B vT U n T) (hk : ∀ k, OwnT vT U n k → w'.heap[k]? = w.heap[k]?) : TabO w' B vT U n T :=
  ⟨own_keep h.tb fun g e => hk g (.inl e), fun i hi => own_keep (h.pr i hi) fun g e => hk g (.inr ⟨i, hi, e⟩), h.tu, h.uu⟩
theorem TabO.rng {w : World} {B : Nat} {vT : Value} {U : Nat → Value} {n : Nat} {T : Nat → Pl} (h : TabO w B vT U n T) {k : Nat} (hk : OwnT vT U n k) : B ≤ k ∧ k < w.heap.size := by
  rcases hk with e | ⟨i, hi, e⟩
  · exact h.tb.lt k e
  · exact (h.pr i hi).lt k e
set_option maxRecDepth 100000 in
set_option maxHeartbeats 4000000 in
theorem markPlainS_own (B n cp s : Nat) (a : Option Addr) (U : Nat → Value) (T : Nat → Pl) (w : World) (h : TabO w B (.slice a n cp) U n T) (hnt : n ≤ 100) (hT : ∀ i, i < n → (T i).n ≤ 500) (hs : s ≤ 1000000) :
    Calls Tryz.prog 23 #[.slice a n cp, .int .i64 (s : Int)] w fun e w' => e = .returned (.int .i64 (sAt T s n : Int)) ∧ TMk w' a n T s ∧ Dst (OwnT (.slice a n cp) U n) w (OwnT (.slice a n cp) U n) w' := by
  have H0 : Hid (MkRel w B (.slice a n cp) U n T s 0 w) := hide ⟨by rw [mT_zero]; exact h.tb, fun i _ hi => h.pr i hi, fun i hi => absurd hi (Nat.not_lt_zero _), Dst.refl _ _⟩
  have HTU : Hid (∀ g i, (Value.slice a n cp).ownBlock = some g → i < n → (U i).ownBlock ≠ some g) := hide h.tu
  have HUU := hide h.uu
  clear h
  go_enter Tryz.func23, Tryz.ntmps23
  go_wp2
  go_loopw [1, 5] (fun q i wr => ∃ (k : Nat), k ≤ n ∧ i = .int .i64 k ∧ q = .int .i64 (sAt T s k : Int) ∧ MkRel w B (.slice a n cp) U n T s k wr) (fun _ i _ => n - (intOf i).toNat)
  case atStart => exact ⟨0, by omega, rfl, rfl, unhide H0⟩
  case round =>
    obtain ⟨k, hk, rfl, rfl, hR⟩ := hrel
    have hle := sAt_le hT (s := s) k hk
    have HR := hide hR
    by_cases hlt : k < n
    · obtain ⟨g, cq, eg, hBg, hgl⟩ := hR.row.form (by omega)
      cases eg
      obtain ⟨ua, uc, eU⟩ := own_slice (hR.left k (Nat.le_refl _) hlt)
      have e0 : wr.cell? ⟨g, k * 2, none⟩ = some (.slice ua (T k).n uc) := by
        rw [World.ownsRow.cellAt hR.row (k * 2) (by omega)]
        have := tL_get (U := U) (T := mT T s k) hlt (j := 0) (by omega)
        rw [Nat.add_zero] at this
        rw [this, eU]; rfl
      have e1 : wr.cell? ⟨g, k * 2 + 1, none⟩ = some (.int .i64 (T k).turns) := by
        rw [World.ownsRow.cellAt hR.row (k * 2 + 1) (by omega), tL_get hlt (by omega)]
        simp [mT]
      have f1 := World.ownsRow.frozenAt hR.row (k * 2 + 1)
      have hTk := hT k hlt
      have HH := hide (markPair_own ua B (T k).n uc (sAt T s k) (T k).P wr (by have := hR.left k (Nat.le_refl _) hlt; rw [eU] at this; exact this) (by omega) (by omega))
      have HS : Hid ((sAt T s (k + 1) : Int) = (sAt T s k : Int) + 11 * ((T k).n : Int) + 1) := hide (by show ((sAt T s k + 11 * (T k).n + 1 : Nat) : Int) = _; omega)
      have HST : Hid (∀ w2, RAt 11 w2 ua (T k).n (mkPair (sAt T s k)) → Dst (fun q => (Value.slice ua (T k).n uc).ownBlock = some q) wr (fun q => (Value.slice ua (T k).n uc).ownBlock = some q) w2 → _ ∧ _) := hide (fun w2 x y => (unhide HR).step hlt (fun i hi => unhide HTU g i rfl hi) (unhide HUU) eU y x)
      clear hR eU
      generalize sAt T s k = z at *
      generalize (T k).n = m at *
      generalize (T k).turns = tt at *
      go_wp2_with fail
      refine (unhide HH).mono ?_
      rintro e w2 ⟨rfl, hr2, hd2⟩
      obtain ⟨hg2, hR2⟩ := unhide HST w2 hr2 hd2
      have e1 := (World.cell?_of_block (a := ⟨g, k * 2 + 1, none⟩) hg2).trans e1
      have f1 := (World.frozen?_of_block (a := ⟨g, k * 2 + 1, none⟩) hg2).trans f1
      have hx2 : g < w2.heap.size := Nat.lt_of_lt_of_le hgl hd2.size
      have HR2 := hide hR2
      clear hR2 hd2 hr2 hg2 e0
      go_wp2
      go_roundw
      case rel => exact ⟨k + 1, by omega, by go_num, by rw [unhide HS], unhide HR2⟩
      case measure => simp [intOf]; omega
    · have : k = n := by omega
      subst this
      clear hR
      go_wp2
      go_ret
      exact ⟨rfl, (unhide HR).fin, (unhide HR).dst⟩
end Go.Proofs.YtnjgebncghdajaaGreatDoor
namespace Go.Proofs.YtnjgebncghdajaaGreatDoor
open Go.RowKit
set_option linter.unusedVariables false
set_option linter.unusedSimpArgs false
attribute [local go_sem] run_store_float run_equalIn_float

/-- An ideal that owns its rows. -/
structure IdO (w : World) (B : Nat) (va : Value) (n : Nat) (g : Nat → An) (vT : Value) (m : Nat) (T : Nat → Pl) (U : Nat → Value) : Prop where
  row : AOwn w B va n g
  tab : TabO w B vT U m T
  apart : ∀ k, va.ownBlock = some k → ¬ OwnT vT U m k
def OwnI (va vT : Value) (U : Nat → Value) (m k : Nat) : Prop := va.ownBlock = some k ∨ OwnT vT U m k
theorem IdO.rng {w : World} {B : Nat} {va : Value} {n : Nat} {g : Nat → An} {vT : Value} {m : Nat} {T : Nat → Pl} {U : Nat → Value} (h : IdO w B va n g vT m T U) {k : Nat} (hk : OwnI va vT U m k) : B ≤ k ∧ k < w.heap.size := by
  rcases hk with e | e
  · exact h.row.lt k e
  · exact h.tab.rng e
theorem IdO.keep {w w' : World} {B : Nat} {va : Value} {n : Nat} {g : Nat → An} {vT : Value} {m : Nat} {T : Nat → Pl} {U : Nat → Value} (h : IdO w B va n g vT m T U) (hk : ∀ k, OwnI va vT U m k → w'.heap[k]? = w.heap[k]?) : IdO w' B va n g vT m T U :=
  ⟨own_keep h.row fun k e => hk k (.inl e), h.tab.keep fun k e => hk k (.inr e), h.apart⟩
theorem TabO.tbat {w : World} {B : Nat} {a : Option Addr} {cp : Nat} {U : Nat → Value} {n : Nat} {T : Nat → Pl} (h : TabO w B (.slice a n cp) U n T) : TbAt w a n T := by
  rcases Nat.eq_zero_or_pos n with h0 | h0
  · exact .inl h0
  · obtain ⟨g, cq, e, hb, hl⟩ := h.tb.form h0
    cases e
    refine .inr ⟨g, rfl, hl, fun i hi => ?_⟩
    obtain ⟨ua, uc, eU⟩ := own_slice (h.pr i hi)
    refine ⟨ua, uc, ?_, ?_, (eU ▸ h.pr i hi : POwn w B (.slice ua (T i).n uc) (T i).n (T i).P).rat⟩
    · rw [World.ownsRow.cellAt h.tb (i * 2) (by omega)]
      have := tL_get (U := U) (T := T) hi (j := 0) (by omega)
      rw [Nat.add_zero] at this
      rw [this, eU]; rfl
    · rw [World.ownsRow.cellAt h.tb (i * 2 + 1) (by omega), tL_get hi (by omega)]; rfl
def rOk (n : Nat) : Bool := decide (n ≤ 1000)
def rN (n : Nat) : Nat := if n ≤ 1000 then n else 0
def rM (f : Nat → Ac) (n : Nat) : Nat := if n ≤ 1000 then (aft f n).nt else 0
theorem rN_le (n : Nat) : rN n ≤ 1000 := by unfold rN; split <;> omega
theorem rM_le (f : Nat → Ac) (n : Nat) : rM f n ≤ 100 := by
  unfold rM; split
  · exact (aft_good f n).nt
  · omega
theorem rT_le (f : Nat → Ac) (n : Nat) : ∀ i, i < rM f n → ((aft f n).T i).n ≤ 500 := fun i hi => by
  unfold rM at hi
  split at hi
  · exact ((aft_good f n).t i hi).n
  · omega
/-- What Ideally answers. -/
def IdSays (w : World) (n : Nat) (f : Nat → Ac) (e : Ending) (w' : World) : Prop :=
  ∃ aa ac ta tc U, e = .returned (IdV (rOk n) (.slice aa (rN n) ac) (.slice ta (rM f n) tc)) ∧ IdO w' w.heap.size (.slice aa (rN n) ac) (rN n) (ansF f) (.slice ta (rM f n) tc) (rM f n) (aft f n).T U ∧ Below w.heap.size w w'
theorem IdSays.of {ty : TypeId} {w w' : World} {c n : Nat} {f : Nat → Ac} {va vT vS : Value} {U : Nat → Value} {e : Ending} (hn : n ≤ 1000) (he : e = .returned (IdV true va vT)) (h : IdEnd ty w w' c n f va vT vS U) : IdSays w n f e w' := by
  obtain ⟨aa, ac, rfl⟩ := own_slice h.row
  obtain ⟨ta, tc, rfl⟩ := own_slice h.dm.tb
  have e1 : rN n = n := by unfold rN; rw [if_pos hn]
  have e2 : rM f n = (aft f n).nt := by unfold rM; rw [if_pos hn]
  have e3 : rOk n = true := by simp [rOk, hn]
  refine ⟨aa, ac, ta, tc, U, by rw [he, e1, e2, e3], ?_, h.below⟩
  rw [e1, e2]
  refine ⟨h.row, h.dm.tabO, fun k hk ho => h.apart k hk ?_⟩
  rcases ho with e | ⟨i, hi, e⟩
  · exact .inr (.inl e)
  · exact .inr (.inr (.inr ⟨i, hi, e⟩))
theorem IdSays.no {w w' : World} {n : Nat} {f : Nat → Ac} {e : Ending} (hn : 1000 < n) (he : e = .returned (IdV false (.slice none 0 0) (.slice none 0 0))) (hb : Below w.heap.size w w') : IdSays w n f e w' := by
  have e1 : rN n = 0 := by unfold rN; rw [if_neg (by omega)]
  have e2 : rM f n = 0 := by unfold rM; rw [if_neg (by omega)]
  have e3 : rOk n = false := by simp [rOk]; omega
  refine ⟨none, 0, none, 0, fun _ => .slice none 0 0, by rw [he, e1, e2, e3], ?_, hb⟩
  rw [e1, e2]
  exact ⟨World.ownsRow_nil _ _ _ _, ⟨World.ownsRow_nil _ _ _ _, fun i hi => absurd hi (Nat.not_lt_zero _), fun g i _ hi => absurd hi (Nat.not_lt_zero _), fun g i j hi => absurd hi (Nat.not_lt_zero _)⟩, fun k e => by simp [Value.ownBlock] at e⟩
theorem specIdeally_both (b cp n : Nat) (f : Nat → Ac) (w : World) (hA : AcAt w (.slice (some ⟨b, 0, none⟩) n cp) n f) : Calls Tryz.prog 5 #[.slice (some ⟨b, 0, none⟩) n cp] w fun e w' => IdSays w n f e w' := by
  by_cases hn : n ≤ 1000
  · refine (specIdeally_any _ n f w hA hn).mono ?_
    rintro e w' ⟨c, va, vT, vS, U, he, h⟩
    exact IdSays.of hn he h
  · refine (specIdeally_long _ n cp w (by omega)).mono ?_
    rintro e w' ⟨he, hb⟩
    exact IdSays.no (by omega) he hb
theorem implIdeally_both (b cp n : Nat) (f : Nat → Ac) (w : World) (hA : AcAt w (.slice (some ⟨b, 0, none⟩) n cp) n f) (hE : ErrG w) : Calls Tryz.prog 7 #[.slice (some ⟨b, 0, none⟩) n cp] w fun e w' => IdSays w n f e w' := by
  by_cases hn : n ≤ 1000
  · refine (implIdeally_any _ n f w hA hn hE).mono ?_
    rintro e w' ⟨c, va, vT, vS, U, he, h⟩
    exact IdSays.of hn he h
  · refine (implIdeally_long _ n cp w (by omega)).mono ?_
    rintro e w' ⟨he, hb⟩
    exact IdSays.no (by omega) he hb

set_option maxRecDepth 100000 in
set_option maxHeartbeats 4000000 in
theorem markIdeal_own (ok : Bool) (B n m ac tc : Nat) (aa ta : Option Addr) (g : Nat → An) (T : Nat → Pl) (U : Nat → Value) (w : World) (h : IdO w B (.slice aa n ac) n g (.slice ta m tc) m T U) (hn : n ≤ 1000) (hm : m ≤ 100) (hT : ∀ i, i < m → (T i).n ≤ 500) :
    Calls Tryz.prog 11 #[IdV ok (.slice aa n ac) (.slice ta m tc), .int .i64 1] w fun e w' => e = .returned (.int .i64 (sAt T (1 + 12 * n) m : Int)) ∧ RAt 12 w' aa n (mkAns 1) ∧ TMk w' ta m T (1 + 12 * n) ∧ Dst (OwnI (.slice aa n ac) (.slice ta m tc) U m) w (OwnI (.slice aa n ac) (.slice ta m tc) U m) w' := by
  obtain ⟨W, hW⟩ : ∃ W, W = w.alloc (.cells #[.bool ok, .slice aa n ac, .slice ta m tc] 27) := ⟨_, rfl⟩
  have hb0 : Below w.heap.size w W := by rw [hW]; exact (Below.refl _ _).alloc (Nat.le_refl _) _
  have hbk : W.heap[w.heap.size]? = some (.cells #[.bool ok, .slice aa n ac, .slice ta m tc] 27 (0, 0)) := by rw [hW]; exact Deep.blk_alloc_new _ _
  have h0 := h.keep (w' := W) fun k hk => hb0.block k (h.rng hk).2
  have HM := hide (markAns_own aa B n ac 1 g W h0.row (by omega) (by omega))
  have H0 := hide h0
  have HB := hide hb0
  have HBK := hide hbk
  have HRG : Hid (∀ k, OwnI (.slice aa n ac) (.slice ta m tc) U m k → k < w.heap.size) := hide (fun k hk => (h.rng hk).2)
  clear h h0 hb0 hbk
  go_enter Tryz.func11, Tryz.ntmps11
  go_wp2_with fail
  rw [← hW]
  clear hW
  refine (unhide HM).mono ?_
  rintro e w1 ⟨rfl, hr1, hd1⟩
  have hd1' := hd1.wider (O' := OwnI (.slice aa n ac) (.slice ta m tc) U m) fun k e => .inl e
  have bk1 := (hd1.block w.heap.size (blk_lt (unhide HBK)) (fun e => by have := unhide HRG w.heap.size (.inl e); omega)).trans (unhide HBK)
  have x2 : w1.cell? ⟨w.heap.size, 2, none⟩ = some (.slice ta m tc) := by rw [cell_of_row w1 _ 2 _ _ _ bk1]; rfl
  have z1 := blk_lt bk1
  have HP := hide (markPlainS_own B m tc (1 + 12 * n) ta U T w1 ((unhide H0).tab.keep fun k hk => hd1.block k ((unhide H0).tab.rng hk).2 (fun e => (unhide H0).apart k e hk)) hm hT (by omega))
  have HR1 := hide hr1
  have HD1 := hide hd1'
  clear hr1 hd1 hd1' bk1
  rw [show ((1 + 12 * n : Nat) : Int) = ((1 : Nat) : Int) + 12 * (n : Int) by omega] at HP
  go_wp2_with fail
  refine (unhide HP).mono ?_
  rintro e w2 ⟨rfl, hr2, hd2⟩
  have HR2 := hide hr2
  have HX2 := hide ((unhide HR1).dstk hd2 fun b e h => (unhide H0).apart b (by rw [e]; rfl) h)
  have HD2 := hide (((Dst.of_below (O := OwnI (.slice aa n ac) (.slice ta m tc) U m) (unhide HB)).trans (unhide HD1)).trans (hd2.wider fun k e => .inr e))
  clear hr2 hd2
  obtain ⟨z, hz⟩ : ∃ z, sAt T (1 + 12 * n) m = z := ⟨_, rfl⟩
  rw [hz]
  have HZ := hide hz
  clear hz
  go_wp2
  go_ret
  exact ⟨by rw [unhide HZ]; rfl, unhide HX2, unhide HR2, unhide HD2⟩

set_option maxRecDepth 100000 in
set_option maxHeartbeats 4000000 in
theorem heldIdeal_at (ok : Bool) (n m ac tc : Nat) (aa ta : Option Addr) (T : Nat → Pl) (w : World) (hA : RAt 12 w aa n (mkAns 1)) (hP : TMk w ta m T (1 + 12 * n)) (hn : n ≤ 1000) (hm : m ≤ 100) (hT : ∀ i, i < m → (T i).n ≤ 500) :
    Calls Tryz.prog 12 #[IdV ok (.slice aa n ac) (.slice ta m tc), .int .i64 1] w fun e w' => e = .returned (.int .i64 (sAt T (1 + 12 * n) m : Int)) ∧ Below w.heap.size w w' := by
  obtain ⟨W, hW⟩ : ∃ W, W = w.alloc (.cells #[.bool ok, .slice aa n ac, .slice ta m tc] 27) := ⟨_, rfl⟩
  have hb0 : Below w.heap.size w W := by rw [hW]; exact (Below.refl _ _).alloc (Nat.le_refl _) _
  have x2 : W.cell? ⟨w.heap.size, 2, none⟩ = some (.slice ta m tc) := by rw [hW]; simp [go_sem]
  have hz : w.heap.size < W.heap.size := by rw [hW]; simp
  have HM := hide (heldAns_at aa n ac 1 W (hA.below hb0) (by omega) (by omega))
  have HP := hide (hP.below hb0)
  have HB := hide hb0
  clear hA hP hb0
  go_enter Tryz.func12, Tryz.ntmps12
  go_wp2_with fail
  rw [← hW]
  clear hW
  refine (unhide HM).mono ?_
  rintro e w1 ⟨rfl, hb1⟩
  have x2 := (hb1.cell (p := ⟨w.heap.size, 2, none⟩) hz).trans x2
  have z1 : w.heap.size < w1.heap.size := by have := hb1.size; omega
  have HH := hide (heldPlainS_at ta m tc (1 + 12 * n) T w1 ((unhide HP).below hb1) hm hT (by omega))
  have HB1 := hide ((unhide HB).trans (hb1.mono (unhide HB).size))
  have d0 : decide (((1 : Nat) : Int) + 12 * (n : Int) < 0) = false := by simp; omega
  have d1 : decide ((1 : Int) + 12 * (n : Int) < 0) = false := by simp; omega
  clear hb1
  rw [show ((1 + 12 * n : Nat) : Int) = ((1 : Nat) : Int) + 12 * (n : Int) by omega] at HH
  go_wp2_with fail
  refine (unhide HH).mono ?_
  rintro e w2 ⟨rfl, hb2⟩
  have HB2 := hide ((unhide HB1).trans (hb2.mono (unhide HB1).size))
  clear hb2
  have d2 : decide ((sAt T (1 + 12 * n) m : Int) < 0) = false := by simp
  obtain ⟨z, hz⟩ : ∃ z, sAt T (1 + 12 * n) m = z := ⟨_, rfl⟩
  rw [hz] at d2
  rw [hz]
  have HZ := hide hz
  clear hz
  go_wp2
  go_ret
  exact ⟨by rw [unhide HZ]; rfl, unhide HB2⟩
end Go.Proofs.YtnjgebncghdajaaGreatDoor
