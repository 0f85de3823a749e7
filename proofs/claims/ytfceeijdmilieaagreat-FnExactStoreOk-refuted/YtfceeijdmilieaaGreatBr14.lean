/-
  NodH, NodI, FoH.
-/
import Derived.Test.YtfceeijdmilieaaGreatBr13
namespace Go.Proofs.YtfceeijdmilieaaGreat
open Go.RowKit
open Go.Maps (Keyed)
set_option linter.unusedVariables false

theorem exists_min {p : Nat → Prop} (h : ∃ t, p t) : ∃ t, p t ∧ ∀ s, s < t → ¬ p s := by
  obtain ⟨t, ht⟩ := h
  induction t using Nat.strongRecOn with
  | ind t ih =>
    by_cases hs : ∃ s, s < t ∧ p s
    · obtain ⟨s, hst, hs⟩ := hs
      exact ih s hst hs
    · exact ⟨t, ht, fun s hst hps => hs ⟨s, hst, hps⟩⟩

theorem plc_holds (f : Nat → Shp) (i : Nat) (key : ByteArray) : Plc f i key (plcI f i key) := by
  by_cases h : ∃ t, (∀ s, s ≤ t → 0 < anc f i s) ∧ (f (anc f i t)).key.toList = key.toList
  · obtain ⟨t, ⟨h1, h2⟩, h3⟩ := exists_min h
    have hp : Plc f i key ((f (anc f i t)).count - 1) := .inl ⟨t, h1, h2, fun s hs e => h3 s hs ⟨fun u hu => h1 u (by omega), e⟩, rfl⟩
    rw [hp.eq]; exact hp
  · have hp : Plc f i key (-1) := .inr ⟨rfl, fun t ht e => h ⟨t, ht, e⟩⟩
    rw [hp.eq]; exact hp

theorem anc_lt {n : Nat} {f : Nat → Shp} (h3 : Rule3 n f) {i : Nat} (hi : i < n) : ∀ t, (∀ s, s < t → 0 < anc f i s) → anc f i t ≤ i := by
  intro t
  induction t with
  | zero => intro _; exact Nat.le_refl _
  | succ t ih =>
    intro h
    have h1 := ih (fun s hs => h s (by omega))
    have h0 := h t (by omega)
    have := (h3 (anc f i t) h0 (by omega)).2.1
    show (f (anc f i t)).parent.toNat ≤ i
    omega

theorem plc_pos {n : Nat} {f : Nat → Shp} (h2 : Rule2 f) (h3 : Rule3 n f) {i : Nat} (hi : i < n) (key : ByteArray) : 0 ≤ plcI f i key ↔ ∃ t, (∀ s, s ≤ t → 0 < anc f i s) ∧ (f (anc f i t)).key.toList = key.toList := by
  have hp := plc_holds f i key
  constructor
  · intro h
    rcases hp with ⟨t, a, b, _⟩ | ⟨a, _⟩
    · exact ⟨t, a, b⟩
    · omega
  · rintro ⟨t, a, b⟩
    rcases hp with ⟨u, a', _, _, d⟩ | ⟨_, c⟩
    · have := anc_lt h3 hi u (fun s hs => a' s (by omega))
      have := (count_pos h2 h3 (show anc f i u < n by omega) (a' u (Nat.le_refl _))).1
      omega
    · exact absurd b (c t a)

theorem up_anc {n : Nat} {f : Nat → Shp} (h3 : Rule3 n f) {i : Nat} (h1 : 1 ≤ i) (hi : i < n) : ∀ t, (∀ s, s < t → 0 < anc f (shPar f i) s) → upI f i t = anc f (shPar f i) t := by
  intro t
  induction t with
  | zero =>
    intro _
    have := (h3 i h1 hi).1
    show (f i).parent = ((f i).parent.toNat : Int)
    omega
  | succ t ih =>
    intro h
    have e := ih (fun s hs => h s (by omega))
    have hp : shPar f i < n := by have := (h3 i h1 hi).2.1; unfold shPar; omega
    have hl := anc_lt h3 hp t (fun s hs => h s (by omega))
    have := (h3 (anc f (shPar f i) t) (h t (by omega)) (by omega)).1
    show (f (upI f i t).toNat).parent = ((f (anc f (shPar f i) t)).parent.toNat : Int)
    rw [e, Int.toNat_natCast]
    omega

theorem up_pos {n : Nat} {f : Nat → Shp} (h3 : Rule3 n f) {i : Nat} (h1 : 1 ≤ i) (hi : i < n) (t : Nat) : (∀ s, s ≤ t → 0 < upI f i s) ↔ ∀ s, s ≤ t → 0 < anc f (shPar f i) s := by
  constructor
  · intro h s
    induction s using Nat.strongRecOn with
    | ind s ih =>
      intro hs
      have := up_anc h3 h1 hi s (fun u hu => ih u hu (by omega))
      have := h s hs
      omega
  · intro h s hs
    rw [up_anc h3 h1 hi s (fun u hu => h u (by omega))]
    have := h s hs
    omega

theorem repeats_iff {n : Nat} {f : Nat → Shp} (h2 : Rule2 f) (h3 : Rule3 n f) : Repeats n f ↔ ¬ Rule5 n f := by
  have hpn : ∀ i, 0 < i → i < n → shPar f i < n := fun i h0 hi => by have := (h3 i h0 hi).2.1; unfold shPar; omega
  constructor
  · rintro ⟨i, h0, hi, hp⟩ h5
    obtain ⟨t, a, b⟩ := (plc_pos h2 h3 (hpn i h0 hi) _).1 hp
    refine h5 i t h0 hi ((up_pos h3 h0 hi t).2 a) ?_
    rw [up_anc h3 h0 hi t (fun s hs => a s (by omega)), Int.toNat_natCast]
    exact b
  · intro h5
    by_cases h : Repeats n f
    · exact h
    · refine absurd (fun i t h0 hi hu e => h ⟨i, h0, hi, (plc_pos h2 h3 (hpn i h0 hi) _).2 ⟨t, (up_pos h3 h0 hi t).1 hu, ?_⟩⟩) h5
      have a := (up_pos h3 h0 hi t).1 hu
      rw [up_anc h3 h0 hi t (fun s hs => a s (by omega)), Int.toNat_natCast] at e
      exact e

theorem twins_iff {P : Program} {K Tn : TypeId} {w : World} {f : Nat → Shp} {b0 n : Nat} {B N : Nat → Nat} {M : Nat → Option Nat} (h : Nodes P K Tn w f b0 n B N M) (h2 : Rule2 f) (h3 : Rule3 n f) : (∀ i, i < n → N i = i) ↔ Rule4 n f := by
  constructor
  · intro hid i k h1 hki hi ht
    have hi3 := h3 i (by omega) hi
    have hk3 := h3 k h1 (by omega)
    have e : f k = f i := by
      obtain ⟨e1, e2⟩ := ht
      have ek : (f k).key = (f i).key := WideShapes.bytes_inj (by rw [← ByteArray.toList_eq, ← ByteArray.toList_eq]; exact e2)
      have ec : (f k).count = (f i).count := by rw [hk3.2.2.1, hi3.2.2.1, e1]
      cases hk : f k
      cases hi' : f i
      rw [hk, hi'] at e1 ek ec
      simp at e1 ek ec
      rw [e1, ek, ec]
    have := h.one k i (by omega) hi e
    rw [hid k (by omega), hid i hi] at this
    omega
  · intro h4 i hi
    by_cases e : N i = i
    · exact e
    · have hlt : N i < i := by have := h.le i hi; omega
      have hs := h.same i hi
      have h0 : 1 ≤ N i := by
        rcases Nat.eq_zero_or_pos (N i) with e0 | e0
        · rw [e0] at hs
          have := h2.1
          rw [hs] at this
          have := (h3 i (by omega) hi).1
          omega
        · exact e0
      exact absurd ⟨by rw [hs], by rw [hs]⟩ (h4 i (N i) h0 hlt hi)

theorem Nodes.rebase {P : Program} {K Tn : TypeId} {w : World} {f : Nat → Shp} {b0 b1 n : Nat} {B N : Nat → Nat} {M : Nat → Option Nat} (h : Nodes P K Tn w f b0 n B N M) (hb : b1 ≤ b0) : Nodes P K Tn w f b1 n B N M :=
  { h with base := fun i hi => Nat.le_trans hb (h.base i hi), mbase := fun i m hi hn hm => Nat.le_trans hb (h.mbase i m hi hn hm) }

theorem Nodal.lt {Tn : TypeId} {w : World} {b : Nat} (h : Nodal Tn w b) : b < w.heap.size := by
  rcases h with ⟨c, hc⟩ | ⟨es, c, hc⟩
  · exact (Array.getElem?_eq_some_iff.1 hc).1
  · exact (Array.getElem?_eq_some_iff.1 hc).1

theorem Nodes.below {P : Program} {K Tn : TypeId} {w w' : World} {f : Nat → Shp} {b0 n : Nat} {B N : Nat → Nat} {M : Nat → Option Nat} (h : Nodes P K Tn w f b0 n B N M) (hb : Below w.heap.size w w') : Nodes P K Tn w' f b0 n B N M :=
  h.keep fun b hn => hb.block b hn.lt

/-- What the judge answers. -/
def Judged (w0 : World) (n : Nat) (f : Nat → Shp) (e : Ending) (w : World) : Prop :=
  (∃ r : Int, e = .returned (.tuple #[.slice none 0 0, .int .i64 r]) ∧ r = forestOk n f ∧ r ≠ 0) ∨
  (∃ g cp B N M, e = .returned (.tuple #[.slice (some ⟨g, 0, none⟩) n cp, .int .i64 0]) ∧ forestOk n f = 0 ∧ NodesP w f w0.heap.size n B N M ∧ (∀ i, i < n → N i = i) ∧ g < w.heap.size ∧ ∀ i, i < n → w.cell? ⟨g, i, none⟩ = some (.pointer (some ⟨B i, 0, none⟩)))

theorem neqShape (p q : Int) (k l : ByteArray) (c d : Int) (w : World) : (binOp .neq 79 (Sh p k c) (Sh q l d)).run Tryz.prog w = .ok (.bool (!(p == q && (k.toList == l.toList && c == d)))) w := by
  go_simp
  by_cases h1 : p = q <;> by_cases h2 : k.toList = l.toList <;> by_cases h3 : c = d <;> simp [h1, h2, h3]

theorem Tells.cases {e : Ending} {p : Prop} (h : Tells e p) : (e = .returned (.bool true) ∧ p) ∨ (e = .returned (.bool false) ∧ ¬ p) := by
  obtain ⟨r, rfl, hr⟩ := h
  cases r
  · exact .inr ⟨rfl, fun h => by have := hr.2 h; cases this⟩
  · exact .inl ⟨rfl, hr.1 rfl⟩

set_option maxRecDepth 100000 in
set_option maxHeartbeats 2000000 in
theorem judge_any (b n cap : Nat) (f : Nat → Shp) (w : World) (hA : ShRow w b n f) (hn : n ≤ 1048576) :
    Calls Tryz.prog 33 #[.agg #[.slice (some ⟨b, 0, none⟩) n cap]] w fun e w' => Judged w n f e w' ∧ Below w.heap.size w w' := by
  have hl := hA.lt
  have HA := hide hA
  have c0' : 0 < n → w.cell? ⟨b, 0, none⟩ = some (.int .i64 (f 0).parent) := fun h => by simpa using (hA.cells h).1
  have c1' : 0 < n → w.cell? ⟨b, 1, none⟩ = some (.string (f 0).key) := fun h => by simpa using (hA.cells h).2.1
  have c2' : 0 < n → w.cell? ⟨b, 2, none⟩ = some (.int .i64 (f 0).count) := fun h => by simpa using (hA.cells h).2.2
  clear hA
  by_cases h1 : Rule1 n
  case neg =>
    have HR := hide (forestOk1 (f := f) h1)
    by_cases h0 : n = 0
    · subst h0
      clear h1 c0' c1' c2'
      go_enter Tryz.func33, Tryz.ntmps33
      go_wp2
      go_ret2
      exact ⟨.inl ⟨1, by simp, (unhide HR).symm, by omega⟩, (Below.refl _ _).alloc (Nat.le_refl _) _⟩
    · have h2 : 200 < n := by unfold Rule1 at h1; omega
      clear h1 c0' c1' c2'
      go_enter Tryz.func33, Tryz.ntmps33
      go_wp2
      go_ret2
      exact ⟨.inl ⟨1, by simp, (unhide HR).symm, by omega⟩, (Below.refl _ _).alloc (Nat.le_refl _) _⟩
  have h1' : 0 < n := by unfold Rule1 at h1; omega
  have c0 := c0' h1'
  have c1 := c1' h1'
  have c2 := c2' h1'
  have h3 : (n : Int) ≤ 200 := by unfold Rule1 at h1; omega
  have H1 := hide h1
  clear h1 c0' c1' c2'
  have HB0 := hide ((Below.refl w.heap.size w).alloc (Nat.le_refl _) (.cells #[.slice (some ⟨b, 0, none⟩) n cap] 33))
  go_enter Tryz.func33, Tryz.ntmps33
  go_wp2
  obtain ⟨W, hW⟩ : ∃ W, W = w.alloc (.cells #[.slice (some ⟨b, 0, none⟩) n cap] 33) := ⟨_, rfl⟩
  rw [← hW]
  have x0 : W.cell? ⟨w.heap.size, 0, none⟩ = some (.slice (some ⟨b, 0, none⟩) n cap) := by rw [hW]; simp [go_sem]
  have d0 : W.cell? ⟨b, 0, none⟩ = some (.int .i64 (f 0).parent) := by rw [hW, World.cell?_alloc_lt _ _ _ hl]; exact c0
  have d1 : W.cell? ⟨b, 1, none⟩ = some (.string (f 0).key) := by rw [hW, World.cell?_alloc_lt _ _ _ hl]; exact c1
  have d2 : W.cell? ⟨b, 2, none⟩ = some (.int .i64 (f 0).count) := by rw [hW, World.cell?_alloc_lt _ _ _ hl]; exact c2
  have hzW : W.heap.size = w.heap.size + 1 := by rw [hW]; simp
  have hbW : b < W.heap.size := by omega
  have hxW : w.heap.size < W.heap.size := by omega
  rw [← hW] at HB0
  clear hW c0 c1 c2 hzW
  refine wp_region_quiet (C := fun w' => Below W.heap.size W w') (by kernel_rfl) (by kernel_rfl) ((Below.refl _ _).drew) ?_
  show wpQuiet _ _ _ _ [_, _, _, _, _, _] _
  refine wpQuiet_step (fun K hK => ?_)
  go_simp
  refine ⟨_, fun w' hw' => rfl, hK _ ?_⟩
  clear hK K
  refine wpQuiet_step (fun K hK => ?_)
  go_simp
  apply Exists.intro
  refine And.intro (fun w' hw' => ?_) (hK _ ?_)
  · obtain ⟨hc', hf'⟩ := bcell hw'
    go_simp
    first | rfl | exact ⟨rfl, rfl⟩ | exact ⟨rfl⟩
  clear hK K
  refine wpQuiet_step (fun K hK => ?_)
  go_simp
  refine ⟨_, fun w' hw' => rfl, hK _ ?_⟩
  clear hK K
  refine wpQuiet_step (fun K hK => ?_)
  go_simp
  apply Exists.intro
  refine And.intro (fun w' hw' => ?_) (hK _ ?_)
  · obtain ⟨hc', hf'⟩ := bcell hw'
    go_simp
    first | rfl | exact ⟨rfl, rfl⟩ | exact ⟨rfl⟩
  clear hK K
  refine wpQuiet_step (fun K hK => ?_)
  go_simp
  apply Exists.intro
  refine And.intro (fun w' hw' => ?_) (hK _ ?_)
  · refine (rootShape_any _).mono ?_
    rintro e w'' ⟨rfl, hb⟩
    exact ⟨rfl, hw'.trans (hb.mono hw'.size)⟩
  clear hK K
  refine wpQuiet_step (fun K hK => ?_)
  by_cases h2 : Rule2 f
  case neg =>
    have hneq : ∀ w : World, (binOp .neq 79 (Sh (f 0).parent (f 0).key (f 0).count) (Sh (-1) ⟨#[]⟩ 0)).run Tryz.prog w = .ok (.bool true) w := fun w => by
      rw [neqShape]
      have : ((f 0).parent == -1 && ((f 0).key.toList == (⟨#[]⟩ : ByteArray).toList && (f 0).count == 0)) = false := by
        cases hb : ((f 0).parent == -1 && ((f 0).key.toList == (⟨#[]⟩ : ByteArray).toList && (f 0).count == 0)) with
        | false => rfl
        | true => simp at hb; exact absurd ⟨hb.1, by simpa using hb.2.1, hb.2.2⟩ h2
      rw [this]
      rfl
    go_simp
    refine ⟨_, fun w' hw' => rfl, hK _ ?_⟩
    clear hK K
    refine wpQuiet_nil ?_
    intro w2 hw2
    have HN := hide (forestOk2 (unhide H1) h2)
    have HB2 := hide ((unhide HB0).trans (hw2.mono (unhide HB0).size))
    clear hw2 hneq h2
    go_wp2
    go_ret2
    exact ⟨.inl ⟨2, by simp, (unhide HN).symm, by omega⟩, unhide HB2⟩
  have hneq : ∀ w : World, (binOp .neq 79 (Sh (f 0).parent (f 0).key (f 0).count) (Sh (-1) ⟨#[]⟩ 0)).run Tryz.prog w = .ok (.bool false) w := fun w => by
    rw [neqShape, root_key h2]
    simp
  go_simp
  refine ⟨_, fun w' hw' => rfl, hK _ ?_⟩
  clear hK K
  refine wpQuiet_nil ?_
  intro w2 hw2
  have HB2 := hide ((unhide HB0).trans (hw2.mono (unhide HB0).size))
  have y2 : w2.cell? ⟨w.heap.size, 0, none⟩ = some (.slice (some ⟨b, 0, none⟩) n cap) := (hw2.cell (by exact hxW)).trans x0
  have z2 : w.heap.size < w2.heap.size := Nat.lt_of_lt_of_le hxW hw2.size
  have H2 := hide h2
  clear hw2 hneq h2 x0 d0 d1 d2 hbW hxW HB0
  go_wp2_with fail
  refine (shapesFit_any b n cap f _ ((unhide HA).below (unhide HB2) hl) (by omega) (unhide H2)).mono ?_
  rintro e w3 ⟨ht, hb3⟩
  have y3 : w3.cell? ⟨w.heap.size, 0, none⟩ = some (.slice (some ⟨b, 0, none⟩) n cap) := (hb3.cell (by exact z2)).trans y2
  have z3 : w.heap.size < w3.heap.size := Nat.lt_of_lt_of_le z2 hb3.size
  have HB3 := hide ((unhide HB2).trans (hb3.mono (unhide HB2).size))
  clear hb3 y2 z2
  rcases ht.cases with ⟨rfl, h3'⟩ | ⟨rfl, h3'⟩
  case inr =>
    have HN := hide (forestOk3 (unhide H1) (unhide H2) h3')
    clear h3' ht
    go_wp2
    go_ret2
    exact ⟨.inl ⟨3, by simp, (unhide HN).symm, by omega⟩, unhide HB3⟩
  have H3 := hide h3'
  clear h3' ht
  go_wp2_with fail
  refine (plant_any b n cap f _ ((unhide HA).below (unhide HB3) hl) (unhide H1) (unhide H2) (unhide H3)).mono ?_
  rintro e w4 ⟨⟨g, cp, B, N, M, rfl, hN, hg, hp⟩, hb4⟩
  have HB4 := hide ((unhide HB3).trans (hb4.mono (unhide HB3).size))
  have HNN := hide hN
  have HP := hide hp
  have HZ := hide (Nat.le_of_lt z3)
  clear hb4 hN hp y3
  go_wp2_with fail
  refine (hasTwins_any _ f _ n g cp B N M (unhide HNN) (unhide HP) (by omega)).mono ?_
  rintro e w5 ⟨⟨r, rfl, hr⟩, rfl⟩
  cases r
  case true =>
    have h4 : ¬ Rule4 n f := fun h4 => by
      have := hr.2 ((twins_iff (unhide HNN) (unhide H2) (unhide H3)).2 h4)
      cases this
    have HN := hide (forestOk4 (unhide H1) (unhide H2) (unhide H3) h4)
    clear h4 hr
    go_wp2
    go_ret2
    exact ⟨.inl ⟨4, by simp, (unhide HN).symm, by omega⟩, unhide HB4⟩
  have hid := hr.1 rfl
  have H4 := hide ((twins_iff (unhide HNN) (unhide H2) (unhide H3)).1 hid)
  have HI := hide hid
  clear hr hid
  go_wp2_with fail
  refine (repeatsField_any _ f _ n g cp B N M (unhide HNN) (unhide HI) (unhide H2) (unhide H3) (unhide HP) (by omega)).mono ?_
  rintro e w6 ⟨⟨r, rfl, hr⟩, hb6⟩
  have HB6 := hide hb6
  clear hb6
  cases r
  case true =>
    have HN := hide (forestOk5 (unhide H1) (unhide H2) (unhide H3) (unhide H4) ((repeats_iff (unhide H2) (unhide H3)).1 (hr.1 rfl)))
    clear hr
    go_wp2
    go_ret2
    exact ⟨.inl ⟨5, by simp, (unhide HN).symm, by omega⟩, (unhide HB4).trans ((unhide HB6).mono (unhide HB4).size)⟩
  have h5 : Rule5 n f := Classical.byContradiction fun h5 => by
    have := hr.2 ((repeats_iff (unhide H2) (unhide H3)).2 h5)
    cases this
  have HN := hide (forestOk0 (unhide H1) (unhide H2) (unhide H3) (unhide H4) h5)
  clear hr h5
  go_wp2
  go_ret2
  refine ⟨.inr ⟨g, cp, B, N, M, by simp, unhide HN, ?_, unhide HI, Nat.lt_of_lt_of_le hg (unhide HB6).size, fun i hi => ((unhide HB6).cell (by exact hg)).trans (unhide HP i hi)⟩, (unhide HB4).trans ((unhide HB6).mono (unhide HB4).size)⟩
  exact ((unhide HNN).below (unhide HB6)).rebase (unhide HZ)

/-- What is known of the node that is asked for. -/
def NodeIs (w0 : World) (n : Nat) (f : Nat → Shp) (i : Int) (e : Ending) (w : World) : Prop :=
  (e = .returned (.pointer none) ∧ ¬ Good n f i) ∨
  (∃ (k : Nat) (B N : Nat → Nat) (M : Nat → Option Nat), i = k ∧ k < n ∧ e = .returned (.pointer (some ⟨B k, 0, none⟩)) ∧ forestOk n f = 0 ∧ NodesP w f w0.heap.size n B N M ∧ ∀ i, i < n → N i = i)

end Go.Proofs.YtfceeijdmilieaaGreat
namespace Go.Proofs.YtfceeijdmilieaaGreat
open Go.RowKit
open Go.Maps (Keyed)
set_option linter.unusedVariables false

end Go.Proofs.YtfceeijdmilieaaGreat
namespace Go.Proofs.YtfceeijdmilieaaGreat
open Go.RowKit
set_option linter.unusedVariables false

theorem anc_add (f : Nat → Shp) (i t : Nat) : ∀ s, anc f (anc f i t) s = anc f i (t + s)
  | 0 => rfl
  | s + 1 => by
    show (f (anc f (anc f i t) s)).parent.toNat = _
    rw [anc_add f i t s]
    rfl

theorem anc_pos {n : Nat} {f : Nat → Shp} (h2 : Rule2 f) (h3 : Rule3 n f) {i : Nat} (hi : i < n) {t : Nat} (ht : t < nf f i) : 0 < anc f i t := by
  have := (anc_bound h2 h3 hi t (by omega)).2
  rcases Nat.eq_zero_or_pos (anc f i t) with e | e
  · rw [e, h2.2.2] at this; omega
  · exact e

theorem anc_ends {n : Nat} {f : Nat → Shp} (h2 : Rule2 f) (h3 : Rule3 n f) {i : Nat} (hi : i < n) {t : Nat} (ht : ∀ s, s ≤ t → 0 < anc f i s) : t < nf f i := by
  by_cases h : t < nf f i
  · exact h
  · obtain ⟨a, b⟩ := anc_bound h2 h3 hi (nf f i) (Nat.le_refl _)
    have := (count_pos h2 h3 a (ht (nf f i) (by omega))).1
    omega

/-- No field stands twice. -/
theorem anc_apart {n : Nat} {f : Nat → Shp} (h2 : Rule2 f) (h3 : Rule3 n f) (h5 : Rule5 n f) {i : Nat} (hi : i < n) {t u : Nat} (htu : t < u) (hu : u < nf f i) : (f (anc f i t)).key.toList ≠ (f (anc f i u)).key.toList := by
  intro e
  have h0 := anc_pos h2 h3 hi (show t < nf f i by omega)
  have ha := (anc_bound h2 h3 hi t (by omega)).1
  have hs : shPar f (anc f i t) = anc f i (t + 1) := rfl
  have hsn : shPar f (anc f i t) < n := by have := (h3 _ h0 ha).2.1; unfold shPar; omega
  refine (repeats_iff h2 h3).1 ⟨anc f i t, h0, ha, ?_⟩ h5
  refine (plc_pos h2 h3 hsn _).2 ⟨u - t - 1, fun s hs' => ?_, ?_⟩
  · rw [hs, anc_add]; exact anc_pos h2 h3 hi (by omega)
  · rw [hs, anc_add, show t + 1 + (u - t - 1) = u by omega]; exact e.symm

theorem plc_at {n : Nat} {f : Nat → Shp} (h2 : Rule2 f) (h3 : Rule3 n f) (h5 : Rule5 n f) {i : Nat} (hi : i < n) (key : ByteArray) {j : Nat} (hj : j < nf f i) (e : (fld f i j).toList = key.toList) : plcI f i key = j := by
  have hp := plc_holds f i key
  have hpos : ∀ s, s ≤ nf f i - 1 - j → 0 < anc f i s := fun s hs => anc_pos h2 h3 hi (by omega)
  have e' : (f (anc f i (nf f i - 1 - j))).key.toList = key.toList := e
  rcases hp with ⟨t, a, b, _, d⟩ | ⟨_, c⟩
  · have ht := anc_ends h2 h3 hi a
    have : t = nf f i - 1 - j := by
      rcases Nat.lt_trichotomy t (nf f i - 1 - j) with h | h | h
      · exact absurd (b.trans e'.symm) (anc_apart h2 h3 h5 hi h (by omega))
      · exact h
      · exact absurd (e'.trans b.symm) (anc_apart h2 h3 h5 hi h ht)
    have hc := (anc_bound h2 h3 hi t (by omega)).2
    rw [d, hc]
    omega
  · exact absurd e' (c _ hpos)

theorem plc_none {n : Nat} {f : Nat → Shp} (h2 : Rule2 f) (h3 : Rule3 n f) {i : Nat} (hi : i < n) (key : ByteArray) (hno : ∀ j, j < nf f i → (fld f i j).toList ≠ key.toList) : plcI f i key = -1 := by
  have hp := plc_holds f i key
  rcases hp with ⟨t, a, b, _, d⟩ | ⟨c, _⟩
  · have ht := anc_ends h2 h3 hi a
    refine absurd ?_ (hno (nf f i - 1 - t) (by omega))
    show (f (anc f i (nf f i - 1 - (nf f i - 1 - t)))).key.toList = _
    rw [show nf f i - 1 - (nf f i - 1 - t) = t by omega]
    exact b
  · exact c

set_option maxRecDepth 100000 in
set_option maxHeartbeats 1000000 in
theorem l2at_any (b n cap i : Nat) (key : ByteArray) (f : Nat → Shp) (w : World) (hA : ShRow w b n f) (h1 : Rule1 n) (h2 : Rule2 f) (h3 : Rule3 n f) (h5 : Rule5 n f) (hi : i < n) :
    Calls Tryz.prog 29 #[.agg #[.slice (some ⟨b, 0, none⟩) n cap], .int .i64 i, .string key] w fun e w' => e = .returned (.int .i64 (plcI f i key)) ∧ Below w.heap.size w w' := by
  have hl := hA.lt
  have hnf : nf f i ≤ 12 := by have := (count_bound (k := n) h2 (fun j h1 h2 => h3 j h1 h2) i hi).2; unfold nf; omega
  obtain ⟨m, hm⟩ : ∃ m, nf f i = m := ⟨_, rfl⟩
  have HM := hide hm
  have HA := hide hA
  have H1 := hide h1
  have H2 := hide h2
  have H3 := hide h3
  have H5 := hide h5
  have hm12 : m ≤ 12 := by omega
  clear hA h1 h2 h3 h5 hm hnf
  have hb0 : Below w.heap.size w (w.alloc (.cells #[.slice (some ⟨b, 0, none⟩) n cap] 33)) := (Below.refl _ _).alloc (Nat.le_refl _) _
  go_enter Tryz.func29, Tryz.ntmps29
  go_wp2_with fail
  refine (l2fields_any b n cap i f _ ((unhide HA).below hb0 hl) (unhide H1) (unhide H2) (unhide H3) hi).mono ?_
  rintro e w1 ⟨⟨g, rfl, hg, hr⟩, hb1⟩
  rw [unhide HM] at hr ⊢
  have hgl := World.rowIs.lt hr
  have HB1 := hide (hb0.trans (hb1.mono hb0.size))
  have HR := hide hr
  clear hb1 hb0 hr
  go_wp2
  go_loopw [13] (fun v wr => ∃ k : Nat, k ≤ m ∧ v = .int .i64 k ∧ wr = w1 ∧ ∀ j, j < k → (fld f i j).toList ≠ key.toList) (fun v _ => m - (intOf v).toNat)
  case atStart => exact ⟨0, by omega, rfl, rfl, fun j hj => by omega⟩
  case round =>
    obtain ⟨k, hk, rfl, hw, hall⟩ := hrel
    subst hw
    have c0 : k < m → wr.cell? ⟨g, k, none⟩ = some (.string (fld f i k)) := fun h => World.rowIs.cell (unhide HR) h
    have HALL := hide hall
    clear hall
    by_cases hkm : k < m
    · have d0 := c0 hkm
      clear c0
      by_cases hK : (fld f i k).toList = key.toList
      · have hd : ((fld f i k).toList == key.toList) = true := by simp [hK]
        have HP := hide (plc_at (unhide H2) (unhide H3) (unhide H5) hi key (by rw [unhide HM]; exact hkm) hK)
        clear hK
        go_wp2
        go_ret
        exact ⟨by rw [unhide HP]; rfl, unhide HB1⟩
      · have hd : ((fld f i k).toList == key.toList) = false := by simp [hK]
        have HK := hide hK
        clear hK
        go_wp2
        go_roundw
        case rel =>
          refine ⟨k + 1, by omega, by go_num, trivial, fun j hj => ?_⟩
          by_cases e : j = k
          · rw [e]; exact unhide HK
          · exact unhide HALL j (by omega)
        case measure => simp [intOf]; omega
    · have HP := hide (plc_none (unhide H2) (unhide H3) hi key (fun j hj => unhide HALL j (by rw [unhide HM] at hj; omega)))
      go_wp2
      go_ret
      exact ⟨by rw [unhide HP]; rfl, unhide HB1⟩

end Go.Proofs.YtfceeijdmilieaaGreat
