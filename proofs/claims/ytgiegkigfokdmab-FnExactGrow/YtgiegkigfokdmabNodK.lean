/-
  Shapes: a node of the program grows.
-/
import Derived.Test.YtgiegkigfokdmabFoM
namespace Go.Proofs.Ytgiegkigfokdmab
open Go.RowKit
open Go.Maps (Keyed)
set_option linter.unusedVariables false

/-- What the look-up among the kids finds. -/
theorem kid_look {w : World} {f : Nat → Shp} {b0 n : Nat} {B N : Nat → Nat} {M : Nat → Option Nat} (h : NodesP w f b0 n B N M) (hid : ∀ i, i < n → N i = i) (h1 : Rule1 n) (h2 : Rule2 f) (h3 : Rule3 n f) {k : Nat} (hk : k < n) {key : ByteArray} (hks : key.size ≤ 4000) :
    ∃ v, (∀ q, (Instr.lookup 73 (.map (M k)) (Sh k key ((f k).count + 1)) false).run Try.prog (w.drewN q) = .ok v (w.drewN q)) ∧ ((∃ j, Kid n f k key j ∧ v = .pointer (some ⟨B j, 0, none⟩)) ∨ (v = .pointer none ∧ ∀ j, ¬ Kid n f k key j)) := by
  have hcb := count_bound (k := n) h2 (fun j a b => h3 j a b) k hk
  have hn2 := h1.2
  have w1 : (Lit.int .i64 (k : Int)).wf = true := wf64 (by omega) (by omega)
  have w3 : (Lit.int .i64 ((f k).count + 1)).wf = true := wf64 (by omega) (by omega)
  have w2 : key.size ≤ maxLen := by unfold maxLen; omega
  cases hM : M k with
  | none =>
    refine ⟨.pointer none, look_none (s := ⟨k, key, (f k).count + 1⟩) w1 w2 w3, .inr ⟨rfl, fun j hK => ?_⟩⟩
    refine h.bare k hk (hid k hk) hM j hK.1 hK.2.1 (hid j hK.2.1) ?_
    have hp : shPar f j = k := by unfold shPar; rw [hK.2.2.1]; rfl
    rw [hp]; exact hid k hk
  | some m =>
    obtain ⟨g, hg, hK⟩ := h.kids k m hk (hid k hk) hM
    refine ⟨g (ShV ⟨k, key, (f k).count + 1⟩), look_kid hg (s := ⟨k, key, (f k).count + 1⟩) w1 w2 w3, ?_⟩
    rcases hK (ShV ⟨k, key, (f k).count + 1⟩) with ⟨j, j0, jn, _, _, jv, jg⟩ | ⟨jg, jno⟩
    · refine .inl ⟨j, ⟨j0, jn, ?_, ?_⟩, jg⟩
      · have := ShV_inj jv
        rw [← this]
      · have := ShV_inj jv
        rw [← this]
    · refine .inr ⟨jg, fun j hK => jno j hK.1 hK.2.1 (hid j hK.2.1) ?_ ?_⟩
      · have hp : shPar f j = k := by unfold shPar; rw [hK.2.2.1]; rfl
        rw [hp]; exact hid k hk
      · have ek : (f j).key = key := WideShapes.bytes_inj (by rw [← ByteArray.toList_eq, ← ByteArray.toList_eq]; exact hK.2.2.2)
        have ec : (f j).count = (f k).count + 1 := by rw [(h3 j hK.1 hK.2.1).2.2.1, hK.2.2.1]; rfl
        show Sh (f j).parent (f j).key (f j).count = _
        rw [ek, ec, hK.2.2.1]

theorem Nodes.congr {P : Program} {K Tn : TypeId} {w : World} {f f' : Nat → Shp} {b0 k : Nat} {B N : Nat → Nat} {M : Nat → Option Nat} (h : Nodes P K Tn w f b0 k B N M) (e : ∀ i, i < k → f' i = f i) : Nodes P K Tn w f' b0 k B N M where
  pos := h.pos
  n0 := h.n0
  le := h.le
  own := h.own
  same := fun i hi => by rw [e i hi, e _ (Nat.lt_of_le_of_lt (h.le i hi) hi)]; exact h.same i hi
  one := fun i j hi hj e2 => h.one i j hi hj (by rw [← e i hi, ← e j hj]; exact e2)
  blk := h.blk
  base := h.base
  node := fun i hi hn => by
    have h0 := h.node i hi hn
    have hp : parOf f' B i = parOf f B i := by unfold parOf shPar; rw [e i hi]
    rw [e i hi, hp]
    exact h0
  apart := h.apart
  mbase := h.mbase
  mapart := h.mapart
  bare := fun i hi hn hm j h0 hj hnj => by
    have h1 := h.bare i hi hn hm j h0 hj hnj
    unfold shPar at *
    rw [e j hj]
    exact h1
  kids := fun i m hi hn hm => by
    obtain ⟨g, hg, hK⟩ := h.kids i m hi hn hm
    refine ⟨g, hg, fun v => ?_⟩
    rcases hK v with ⟨j, a1, a2, a3, a4, a5, a6⟩ | ⟨a1, a2⟩
    · exact .inl ⟨j, a1, a2, a3, by unfold shPar at *; rw [e j a2]; exact a4, by rw [e j a2]; exact a5, a6⟩
    · exact .inr ⟨a1, fun j b1 b2 b3 b4 => by rw [e j b2]; exact a2 j b1 b2 b3 (by unfold shPar at *; rw [← e j b2]; exact b4)⟩

/-- What growing a node tells. -/
def NGrown (n : Nat) (f : Nat → Shp) (k : Nat) (key : ByteArray) (b0 : Nat) (B : Nat → Nat) (w : World) (e : Ending) (w' : World) : Prop :=
  (∃ j, Kid n f k key j ∧ e = .returned (.pointer (some ⟨B j, 0, none⟩)) ∧ Below w.heap.size w w') ∨
  ((∀ j, ¬ Kid n f k key j) ∧ ((f k).count = 12 ∨ n = 200) ∧ e = .returned (.pointer none) ∧ Below w.heap.size w w') ∨
  ((∀ j, ¬ Kid n f k key j) ∧ (f k).count ≠ 12 ∧ n ≠ 200 ∧ ∃ r B' N' M', e = .returned (.pointer (some ⟨r, 0, none⟩)) ∧ NodesP w' (grown f n k key) b0 (n + 1) B' N' M' ∧ (∀ i, i < n + 1 → N' i = i) ∧ B' n = r ∧ (∀ i, i < n → B' i = B i) ∧ GrownP b0 w w')

theorem Grown.after {Tn b0 : Nat} {w w1 w2 : World} (h : Below w.heap.size w w1) (h2 : Grown Tn b0 w1 w2) : Grown Tn b0 w w2 :=
  ⟨h2.os.trans h.os, h2.tape.trans h.tape, h2.output.trans h.output, Nat.le_trans h.size h2.size, fun b hb hc => (h2.block b (Nat.lt_of_lt_of_le hb h.size) (by
    rcases hc with hc | hc
    · exact .inl hc
    · refine .inr (fun hN => hc ?_)
      unfold Nodal at *
      rw [h.block b hb] at hN
      exact hN)).trans (h.block b hb)⟩

/-- The forest with one shape more keeps the rules that interning asks for. -/
theorem grown_rules {n : Nat} {f : Nat → Shp} {k : Nat} {key : ByteArray} (h1 : Rule1 n) (h2 : Rule2 f) (h3 : Rule3 n f) (hk : k < n) (hks : key.size ≤ 4000) (h12 : (f k).count ≠ 12) :
    Rule2 (grown f n k key) ∧ (∀ i, 1 ≤ i → i ≤ n → Ok3 (grown f n k key) i) ∧ (∀ i, i < n → grown f n k key i = f i) ∧ grown f n k key n = ⟨k, key, (f k).count + 1⟩ := by
  have hcb := count_bound (k := n) h2 (fun j a b => h3 j a b) k hk
  have e : ∀ i, i < n → grown f n k key i = f i := fun i hi => by unfold grown; rw [if_neg (by omega)]
  have en : grown f n k key n = ⟨k, key, (f k).count + 1⟩ := by unfold grown; rw [if_pos rfl]
  have hn0 : 0 < n := by omega
  refine ⟨by unfold Rule2; rw [e 0 hn0]; exact h2, fun i a b => ?_, e, en⟩
  by_cases hi : i = n
  · subst hi
    unfold Ok3
    rw [en]
    refine ⟨by simp, by simpa using hk, ?_, by show (f k).count + 1 ≤ 12; omega, hks⟩
    show (f k).count + 1 = (grown f i k key ((k : Int)).toNat).count + 1
    rw [show ((k : Int)).toNat = k from by simp, e k hk]
  · have hi' : i < n := by omega
    obtain ⟨a1, a2, a3, a4, a5⟩ := h3 i a hi'
    unfold Ok3
    rw [e i hi', e _ (by omega)]
    exact ⟨a1, a2, a3, a4, a5⟩

theorem nid_grown {w : World} {f : Nat → Shp} {b0 n k : Nat} {key : ByteArray} {B N : Nat → Nat} {M : Nat → Option Nat} (h : NodesP w (grown f n k key) b0 (n + 1) B N M) (e : ∀ i, i < n → grown f n k key i = f i) (en : grown f n k key n = ⟨k, key, (f k).count + 1⟩) (h2 : Rule2 f) (h4 : Rule4 n f) (h3 : Rule3 n f) (hno : ∀ j, ¬ Kid n f k key j) : ∀ i, i < n + 1 → N i = i := by
  intro i hi
  have hle := h.le i hi
  rcases Nat.lt_or_eq_of_le hle with hlt | heq
  · exfalso
    have hs := h.same i hi
    have hjn : N i < n := by omega
    rw [e _ hjn] at hs
    have h0 : 0 < N i := by
      rcases Nat.eq_zero_or_pos (N i) with z | z
      · exfalso
        rw [z] at hs
        have hp := h2.1
        rw [hs] at hp
        by_cases hin : i = n
        · rw [hin, en] at hp
          have hp : (k : Int) = -1 := hp
          omega
        · rw [e i (by omega)] at hp
          have := (h3 i (by omega) (by omega)).1
          omega
      · exact z
    by_cases hin : i = n
    · rw [hin, en] at hs
      subst hin
      exact hno (N i) ⟨h0, hjn, by rw [hs], by rw [hs]⟩
    · rw [e i (by omega)] at hs
      exact h4 i (N i) h0 hlt (by omega) ⟨by rw [hs], by rw [hs]⟩
  · exact heq

set_option maxRecDepth 100000 in
set_option maxHeartbeats 2000000 in
theorem nodeGrow_any (w : World) (f : Nat → Shp) (b0 n : Nat) (B N : Nat → Nat) (M : Nat → Option Nat) (h : NodesP w f b0 n B N M) (hid : ∀ i, i < n → N i = i) (h1 : Rule1 n) (h2 : Rule2 f) (h3 : Rule3 n f) (h4 : Rule4 n f) (k : Nat) (hk : k < n) (key : ByteArray) (hks : key.size ≤ 4000) :
    Calls Try.prog 46 #[.pointer (some ⟨B k, 0, none⟩), .string key, .int .i64 n] w fun e w' => NGrown n f k key b0 B w e w' := by
  have hn200 : n ≤ 200 := h1.2
  obtain ⟨hc0, hc1⟩ := count_bound (k := n) h2 (fun j a b => h3 j a b) k hk
  obtain ⟨n0, _, n3, _, n5⟩ := node_cells h hid hk
  have hBk : B k < w.heap.size := h.lt hk
  have hw : IntKind.i64.wrap ((f k).count + 1) = (f k).count + 1 := by rw [IntKind.wrap_i64]; omega
  obtain ⟨W, hW⟩ : ∃ W, W = (w.alloc (.cells #[.int .i64 (k : Int), .string key, .int .i64 ((f k).count + 1)] 56)).drew := ⟨_, rfl⟩
  have hbW : Below w.heap.size w W := by rw [hW]; exact ((Below.refl _ _).alloc (Nat.le_refl _) _).drew
  have hzW : W.heap.size = w.heap.size + 1 := by rw [hW]; simp
  have S0 : W.cell? ⟨w.heap.size, 0, none⟩ = some (.int .i64 (k : Int)) := by rw [hW]; simp [go_sem]
  have S1 : W.cell? ⟨w.heap.size, 1, none⟩ = some (.string key) := by rw [hW]; simp [go_sem]
  have S2 : W.cell? ⟨w.heap.size, 2, none⟩ = some (.int .i64 ((f k).count + 1)) := by rw [hW]; simp [go_sem]
  have m5 := (hbW.cell (p := ⟨B k, 5, none⟩) (by exact hBk)).trans n5
  have hNW := h.below hbW
  obtain ⟨v, hlk, hv⟩ := kid_look hNW hid h1 h2 h3 hk (key := key) hks
  have HNW := hide hNW
  have HR := hide (And.intro h1 (And.intro h2 (And.intro h3 h4)))
  have HB := hide hbW
  clear h h1 h2 h3 h4 hbW hNW
  go_enter Try.func46, Try.ntmps46
  go_wp2
  go_region
  rw [← hW]
  clear hW n0 n3 n5
  rcases hv with ⟨j, hKid, rfl⟩ | ⟨rfl, hno⟩
  · have HK := hide hKid
    clear hKid
    go_wp2
    go_quiet (fail)
    go_wp2
    go_ret
    exact .inl ⟨j, unhide HK, rfl, below_drewN (unhide HB) _⟩
  · have HNO := hide hno
    clear hno
    by_cases h12 : 12 < (f k).count + 1
    · have hd12 : decide (12 < (f k).count + 1) = true := by simp [h12]
      have H12 : Hid ((f k).count = 12) := hide (by omega)
      clear h12
      go_wp2
      go_quiet (fail)
      go_wp2
      go_ret
      exact .inr (.inl ⟨unhide HNO, .inl (unhide H12), rfl, below_drewN (unhide HB) _⟩)
    have hd12 : decide (12 < (f k).count + 1) = false := by simp; omega
    have H12 : Hid ((f k).count ≠ 12) := hide (by omega)
    clear h12
    by_cases h200 : 200 ≤ n
    · have hd200 : decide ((200 : Int) ≤ n) = true := by simp; omega
      have H200 : Hid (n = 200) := hide (by omega)
      clear h200
      go_wp2
      go_quiet (fail)
      go_wp2
      go_ret
      exact .inr (.inl ⟨unhide HNO, .inr (unhide H200), rfl, below_drewN (unhide HB) _⟩)
    have hd200 : decide ((200 : Int) ≤ n) = false := by simp; omega
    have H200 : Hid (n ≠ 200) := hide (by omega)
    clear h200
    obtain ⟨r2, r3, e, en⟩ := grown_rules (unhide HR).1 (unhide HR).2.1 (unhide HR).2.2.1 hk hks (unhide H12)
    have hcall : ∀ q, Calls Try.prog 62 #[.pointer (some ⟨B k, 0, none⟩), Sh k key ((f k).count + 1), .int .i64 n] (W.drewN q) fun e w' => ∃ r B' N' M', e = .returned (.pointer (some ⟨r, 0, none⟩)) ∧ NodesP w' (grown f n k key) b0 (n + 1) B' N' M' ∧ B' n = r ∧ (∀ i, i < n → B' i = B i) ∧ GrownP b0 (W.drewN q) w' := by
      intro q
      have h0 := intern_any (W.drewN q) (grown f n k key) b0 n B N M (((unhide HNW).congr e).keep (fun b _ => rfl)) hn200 r2 r3
      rw [show shPar (grown f n k key) n = k from by unfold shPar; rw [en]; simp, en] at h0
      exact h0
    have HC := hide hcall
    have HE := hide (And.intro e en)
    clear hcall r2 r3 e en
    go_wp2
    go_quiet (fail)
    go_wp2_with (fail)
    refine (unhide HC _).mono ?_
    rintro e w3 ⟨r, B', N', M', rfl, hN', hB', hBB, hG⟩
    have hid' := nid_grown hN' (unhide HE).1 (unhide HE).2 (unhide HR).2.1 (unhide HR).2.2.2 (unhide HR).2.2.1 (unhide HNO)
    have HF := hide (And.intro hN' (And.intro hid' (And.intro hB' (And.intro hBB hG))))
    clear hN' hid' hB' hBB hG
    go_wp2
    go_ret
    obtain ⟨a1, a2, a3, a4, a5⟩ := unhide HF
    exact .inr (.inr ⟨unhide HNO, unhide H12, unhide H200, r, B', N', M', rfl, a1, a2, a3, a4, Grown.after (unhide HB) ⟨a5.os, a5.tape, a5.output, a5.size, a5.block⟩⟩)

end Go.Proofs.Ytgiegkigfokdmab
