/-
  Shapes: one shape more is planted: whichever.
-/
import Derived.Test.YtgiegkigfokdmabNodC
namespace Go.Proofs.Ytgiegkigfokdmab
open Go.RowKit
open Go.Maps (Keyed)
set_option linter.unusedVariables false

theorem wf64 {x : Int} (h0 : -1000000 ≤ x) (h1 : x ≤ 1000000) : (Lit.int .i64 x).wf = true := WalkArith.wf_i64 (by omega)

theorem Nodes.lt {P : Program} {K Tn : TypeId} {w : World} {f : Nat → Shp} {b0 k : Nat} {B N : Nat → Nat} {M : Nat → Option Nat} (h : Nodes P K Tn w f b0 k B N M) {i : Nat} (hi : i < k) : B i < w.heap.size := by
  rw [← h.blk i hi]
  exact (h.node (N i) (Nat.lt_of_le_of_lt (h.le i hi) hi) (h.own i hi)).lt

theorem Grown.of_below {Tn b0 : Nat} {w w' : World} (h : Below w.heap.size w w') : Grown Tn b0 w w' := ⟨h.os, h.tape, h.output, h.size, fun b hb _ => h.block b hb⟩

theorem Grown.of_grownBy {Tn b0 : Nat} {w w' : World} {x : Nat} (h : w.grownBy w' (some x)) (hx : b0 ≤ x) (hn : Nodal Tn w x) : Grown Tn b0 w w' :=
  ⟨h.os, h.tape, h.output, h.size, fun b hb hc => h.block b hb (fun e => by
    cases e
    rcases hc with hc | hc
    · omega
    · exact hc hn)⟩

theorem fresh_no {P : Program} {K Tn : TypeId} {w : World} {f : Nat → Shp} {b0 k : Nat} {B N : Nat → Nat} {M : Nat → Option Nat} (h : Nodes P K Tn w f b0 k B N M) (h2 : Rule2 f) (hk3 : Ok3 f k)
    (hno : ∀ j, 0 < j → j < k → N j = j → N (shPar f j) = N (shPar f k) → f j ≠ f k) : ∀ j, j < k → f j ≠ f k := by
  intro j hj e
  have e1 : f (N j) = f k := (h.same j hj).trans e
  have hlt : N j < k := Nat.lt_of_le_of_lt (h.le j hj) hj
  have h0 : 0 < N j := by
    rcases Nat.eq_zero_or_pos (N j) with e0 | e0
    · have := h2.1
      rw [e0] at e1
      rw [e1] at this
      have := hk3.1
      omega
    · exact e0
  exact hno (N j) h0 hlt (h.own j hj) (by unfold shPar; rw [e1]) e1

open Classical in
set_option maxHeartbeats 1000000 in
theorem intern_any (w : World) (f : Nat → Shp) (b0 k : Nat) (B N : Nat → Nat) (M : Nat → Option Nat) (h : NodesP w f b0 k B N M) (hk : k ≤ 200) (h2 : Rule2 f) (h3 : ∀ i, 1 ≤ i → i ≤ k → Ok3 f i) :
    Calls Try.prog 62 #[.pointer (some ⟨B (shPar f k), 0, none⟩), ShV (f k), .int .i64 k] w fun e w' => ∃ r B' N' M', e = .returned (.pointer (some ⟨r, 0, none⟩)) ∧ NodesP w' f b0 (k + 1) B' N' M' ∧ B' k = r ∧ (∀ i, i < k → B' i = B i) ∧ GrownP b0 w w' := by
  have hk0 := h.pos
  have hk3 := h3 k hk0 (Nat.le_refl _)
  obtain ⟨p0, p1, cc, c12, ks⟩ := h3 k hk0 (Nat.le_refl _)
  have hp : shPar f k < k := by unfold shPar; omega
  have hpp : ∀ i, 0 < i → i < k → shPar f i < i := fun i h0 hi => by
    obtain ⟨a, b, _⟩ := h3 i h0 (by omega)
    unfold shPar; omega
  have hcb := count_bound (k := k) h2 (fun j h1 h4 => h3 j h1 (by omega)) (shPar f k) hp
  have w1 : (Lit.int .i64 (f k).parent).wf = true := wf64 (by omega) (by omega)
  have w2 : (f k).key.size ≤ maxLen := by unfold maxLen; omega
  have w3 : (Lit.int .i64 (f k).count).wf = true := wf64 (by unfold shPar at hcb; omega) (by omega)
  obtain ⟨a, ha⟩ : ∃ a, a = N (shPar f k) := ⟨_, rfl⟩
  have hak : a < k := by rw [ha]; exact Nat.lt_of_le_of_lt (h.le _ hp) hp
  have hNa : N a = a := by rw [ha]; exact h.own _ hp
  have hB : B (shPar f k) = B a := by rw [ha]; exact (h.blk _ hp).symm
  have hrow := h.node a hak hNa
  have hb0 : ∀ x, w.heap.size ≤ x → b0 ≤ x := fun x hx => Nat.le_trans (h.base 0 hk0) (Nat.le_trans (Nat.le_of_lt (h.lt hk0)) hx)
  have nod : ∀ i, i < k → N i = i → Nodal 75 w (B i) := fun i hi hn => by obtain ⟨c, hb, _⟩ := h.node i hi hn; exact .inl ⟨c, hb⟩
  cases hM : M a with
  | none =>
    rw [hM] at hrow
    rw [hB]
    refine (intern_first w (B a) (f k) k (f a) _ a hrow w1 w2 w3).mono ?_
    rintro e w' ⟨r, mm, rfl, hr, hmm, rn, ra, hm, hg⟩
    have hno := fresh_no h h2 hk3 (fun j h0 hj hn hp2 _ => h.bare a hak hNa hM j h0 hj hn (by rw [hp2, ha]))
    refine ⟨r, _, _, _, rfl, h.fresh hp hpp hno (g := fun _ => .pointer none) ha ra (fun i hi hn hne => hg.block _ (h.lt hi) (fun e => ?_)) (fun i m hi hn hne hm => ?_) (by rw [hB]; exact rn) (hb0 r hr) (fun i hi e => ?_) (hb0 mm hmm) (fun v => .inr ⟨rfl, fun j h0 hj hn hp2 => absurd hp2 (h.bare a hak hNa hM j h0 hj hn)⟩) (hm.mono (by omega)), by simp, fun i hi => by simp; omega, Grown.of_grownBy hg (h.base a hak) (nod a hak hNa)⟩
    · exact hne (h.apart i a hi hak hn hNa (Option.some.inj e))
    · obtain ⟨g, hgm, _⟩ := h.kids i m hi hn hm
      obtain ⟨es, c, hbm⟩ := hgm.isMap
      have hml : m < w.heap.size := (Array.getElem?_eq_some_iff.1 hbm).1
      refine ⟨hg.block m hml (fun e => ?_), by omega⟩
      cases e
      obtain ⟨c, hb, _⟩ := hrow
      rw [hb] at hbm
      cases hbm
    · have := h.lt hi; omega
  | some m =>
    rw [hM] at hrow
    obtain ⟨g, hgm, hK⟩ := h.kids a m hak hNa hM
    obtain ⟨es, c, hbm⟩ := hgm.isMap
    have hml : m < w.heap.size := (Array.getElem?_eq_some_iff.1 hbm).1
    rw [hB]
    rcases hK (ShV (f k)) with ⟨j, j0, jk, jn, jp, jv, jg⟩ | ⟨jg, jno⟩
    · refine (intern_found w (B j) (B a) j m g k (f k) k (f a) _ a hrow hgm jg w1 w2 w3).mono ?_
      rintro e w' ⟨rfl, hb⟩
      have hbe : ∀ b, Nodal 75 w b → w'.heap[b]? = w.heap[b]? := fun b hb' => hb.block b (by
        rcases hb' with ⟨c, hc⟩ | ⟨es, c, hc⟩
        · exact (Array.getElem?_eq_some_iff.1 hc).1
        · exact (Array.getElem?_eq_some_iff.1 hc).1)
      exact ⟨B j, _, _, _, rfl, (h.keep hbe).found jk hp jn (ShV_inj jv).symm hpp, by simp, fun i hi => by simp; omega, Grown.of_below hb⟩
    · refine (intern_more w (B a) m g k (f k) k (f a) _ a (by omega) hrow hgm jg w1 w2 w3).mono ?_
      rintro e w' ⟨r, rfl, hr, rn, hm, hg⟩
      have hno := fresh_no h h2 hk3 (fun j h0 hj hn hp2 e => jno j h0 hj hn (by rw [hp2, ha]) (by rw [e]))
      have hma : ∀ i, i < k → N i = i → B i ≠ m := fun i hi hn e => by
        obtain ⟨c, hb, _⟩ := h.node i hi hn
        rw [e, hbm] at hb
        cases hb
      refine ⟨r, _, _, _, rfl, h.fresh hp hpp hno (g := g) (mm := m) ha (hrow.of_block (hg.block _ (h.lt hak) (fun e => hma a hak hNa (Option.some.inj e)))) (fun i hi hn hne => hg.block _ (h.lt hi) (fun e => hma i hi hn (Option.some.inj e))) (fun i m' hi hn hne hm' => ?_) (by rw [hB]; exact rn) (hb0 r hr) (fun i hi e => ?_) (h.mbase a m hak hNa hM) hK hm, by simp, fun i hi => by simp; omega, Grown.of_grownBy hg (h.mbase a m hak hNa hM) (.inr ⟨es, c, hbm⟩)⟩
      · obtain ⟨g', hgm', _⟩ := h.kids i m' hi hn hm'
        obtain ⟨es', c', hbm'⟩ := hgm'.isMap
        have hne' : m' ≠ m := fun e => hne (h.mapart i a m hi hak hn hNa (by rw [hm', e]) hM)
        exact ⟨hg.block m' (Array.getElem?_eq_some_iff.1 hbm').1 (fun e => hne' (Option.some.inj e)), hne'⟩
      · have := h.lt hi; omega
end Go.Proofs.Ytgiegkigfokdmab
