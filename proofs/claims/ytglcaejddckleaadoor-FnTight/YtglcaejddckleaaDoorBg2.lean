/-
  DtD, DtE, DtF, DtG, DpB, DtH, DtK, DtN, DtO, DtP in one text.
-/
import Derived.Test.YtglcaejddckleaaDoorBg1
import Derived.Test.YtglcaejddckleaaDoorDiI
import Derived.Test.YtglcaejddckleaaDoorBg0
import Derived.Deep.AppendLies
namespace Go.Proofs.YtglcaejddckleaaDoor
open Go.RowKit
set_option linter.unusedVariables false
attribute [local go_sem] run_store_float run_equalIn_float

/-- The length of the slice in a cell. -/
def lenB (w : World) (b q : Nat) : Nat := match w.cell? ⟨b, q, none⟩ with
  | some (.slice _ n _) => n
  | _ => 0
theorem lenB_is {w : World} {b q n c : Nat} {a : Option Addr} (h : w.cell? ⟨b, q, none⟩ = some (.slice a n c)) : lenB w b q = n := by unfold lenB; rw [h]

set_option maxRecDepth 100000 in
set_option maxHeartbeats 2000000 in
theorem removeInt_any (bk : Nat) (r0 r1 : Value) (R2 : Nat) (E S : Nat → Nat) (d : Dc) (q : Nat) (w : World) (hM : BMut w bk r0 r1 R2 E S d) (hS : Small d) (hq : q < d.m) (hI : ∀ j, j < d.m → 0 ≤ d.I j) :
    Calls Tryd.prog 42 #[.pointer (some ⟨bk, 0, none⟩), .int .i64 ((q : Int) + 1)] w fun e w' => ((∃ u, e = .returned u) ∧ ∃ r1', BMut w' bk r0 r1' R2 E S { d with m := shrink (upd d.I q 0) d.m, I := upd d.I q 0 }) ∧ Below bk w w' := by
  obtain ⟨R1, k1, rfl⟩ := hM.rf
  have hmm := hS.m
  have hlt := hM.lt
  have c1 := hM.c1
  have hR := hM.ints.lt R1 rfl
  have hR1 := hR.2
  obtain ⟨g, cp, e, _, _, hcp, hc, hf⟩ := hM.ints.form (by omega)
  cases e
  have d0 := hc q hq
  have f0 := hf q
  have hI' : ∀ j, j < d.m → 0 ≤ upd d.I q 0 j := fun j hj => by
    by_cases e : j = q
    · subst e; rw [upd_same]; exact Int.le_refl _
    · rw [upd_other _ _ e]; exact hI j hj
  have hM0 := hM.putI hq 0
  have he0 : entP E 0 = none := if_neg (by decide)
  rw [he0] at hM0
  have HM0 := hide hM0
  have HB0 : Hid (Below bk w (w.setCell ⟨R1, q, none⟩ (.pointer none))) := hide ((Below.refl _ _).setCell (by show bk ≤ R1; omega) _)
  have HI := hide hI'
  clear hM hS hc hf hR hM0 hI hI' he0
  go_enter Tryd.func42, Tryd.ntmps42
  go_wp2
  clear c1 d0 f0
  go_loopw [11] (fun _ wr => ∃ k : Nat, k ≤ d.m ∧ BMut wr bk r0 (.slice (some ⟨R1, 0, none⟩) k k1) R2 E S { d with m := k, I := upd d.I q 0 } ∧ Below bk w wr ∧ shrink (upd d.I q 0) d.m = shrink (upd d.I q 0) k) (fun _ wr => lenB wr bk 1)
  case atStart => exact ⟨d.m, Nat.le_refl _, unhide HM0, unhide HB0, rfl⟩
  case round =>
    obtain ⟨k, hk, hM, hB, hsh⟩ := hrel
    have c1 := hM.c1
    have f1 := hM.fz 1
    have hltr := hM.lt
    have hlen := lenB_is c1
    cases k with
    | zero =>
      have HR : Hid (shrink (upd d.I q 0) d.m = 0) := hide hsh
      have HM := hide hM
      have HB := hide hB
      clear hM hB hsh
      go_wp2
      go_region
      go_wp2
      go_end0
      exact ⟨⟨⟨_, rfl⟩, _, by rw [unhide HR]; exact (unhide HM).below (Below.refl _ _).drew⟩, (unhide HB).drew⟩
    | succ k =>
      obtain ⟨g', cp', e', _, hgl, hcp', hc, _⟩ := hM.ints.form (by show 0 < k + 1; omega)
      cases e'
      have e0 : wr.cell? ⟨R1, k, none⟩ = some (.pointer (entP E (upd d.I q 0 k))) := hc k (by show k < k + 1; omega)
      by_cases hz : upd d.I q 0 k = 0
      · rw [hz, show entP E 0 = none from if_neg (by decide)] at e0
        have HR : Hid (shrink (upd d.I q 0) d.m = shrink (upd d.I q 0) k) := hide (hsh.trans (shrink_zero hz))
        have HM := hide (BMut.setInts (u := .slice (some ⟨R1, 0, none⟩) k k1) (I := upd d.I q 0) (m := k) hM (Rw.cut hM.ints (j := k) (by show k ≤ k + 1; omega)) ⟨_, _, rfl⟩ hM.ap)
        have HB := hide hB
        clear hM hB hsh hz hc
        go_wp2
        go_region
        go_wp2
        go_region
        go_wp2
        go_roundw
        case rel => exact ⟨k, by omega, (unhide HM).below (Below.refl _ _).drew.drew, ((unhide HB).setCell (by exact Nat.le_refl _) _).drew.drew, unhide HR⟩
        case measure =>
          rw [show lenB (wr.setCell ⟨bk, 1, none⟩ (.slice (some ⟨R1, 0, none⟩) k k1)).drew.drew bk 1 = k from lenB_is (unhide HM).c1, hlen]
          omega
      · have hp : entP E (upd d.I q 0 k) = some ⟨E (upd d.I q 0 k - 1).toNat, 0, none⟩ := if_pos (by have := unhide HI k (by omega); omega)
        rw [hp] at e0
        have HR : Hid (shrink (upd d.I q 0) d.m = k + 1) := hide (hsh.trans (shrink_stop hz))
        have HM := hide hM
        have HB := hide hB
        clear hM hB hsh hz hc hp
        go_wp2
        go_region
        go_wp2
        go_end0
        exact ⟨⟨⟨_, rfl⟩, _, by rw [unhide HR]; exact (unhide HM).below (Below.refl _ _).drew⟩, (unhide HB).drew⟩
end Go.Proofs.YtglcaejddckleaaDoor
namespace Go.Proofs.YtglcaejddckleaaDoor
open Go.RowKit Go.Shelf
set_option linter.unusedVariables false
attribute [local go_sem] run_store_float run_equalIn_float Oper.semAt_some

/-- A book lasts where no cells are written. -/
theorem BMut.grown {w w' : World} {bk : Nat} {r0 r1 : Value} {R2 : Nat} {E S : Nat → Nat} {d : Dc} {row : Option Nat} (h : BMut w bk r0 r1 R2 E S d) (hg : w.grownBy w' row) (hr : ∀ r, row = some r → ∃ o : Obj, w.heap[r]? = some o ∧ o.isCells = false) : BMut w' bk r0 r1 R2 E S d := by
  have ne : ∀ {b : Nat} {c : Array Value} {t : TypeId} {fr : Nat × Nat}, w.heap[b]? = some (.cells c t fr) → w'.heap[b]? = w.heap[b]? := fun {b c t fr} hb => hg.block b (Array.getElem?_eq_some_iff.1 hb).1 (fun e => by
    obtain ⟨o, ho, hc⟩ := hr b e.symm
    rw [hb] at ho
    cases ho
    cases hc)
  have kr : ∀ {t : TypeId} {v : Value} {n : Nat} {f : Nat → Option Addr}, Rw w (bk + 1) t v n f → Rw w' (bk + 1) t v n f := fun {t v n f} hh => kept_ne' hh hg (fun b e e' => by
    obtain ⟨c, hb⟩ := hh.block e'
    obtain ⟨o, ho, hc⟩ := hr b e
    rw [hb] at ho
    cases ho
    cases hc)
  exact ⟨Nat.lt_of_lt_of_le h.lt hg.size, cell_kept h.c0 hg hr, cell_kept h.c1 hg hr, cell_kept h.c2 hg hr, cell_kept h.c3 hg hr, cell_kept h.c4 hg hr, cell_kept h.c5 hg hr, cell_kept h.c6 hg hr, fun q => (World.frozen?_of_block (a := ⟨bk, q, none⟩) (by
    have hc := h.c0
    unfold World.cell? at hc
    cases hb : w.heap[bk]? with
    | none => simp [hb] at hc
    | some o =>
      cases o with
      | cells c t fr => rw [← hb]; exact ne hb
      | _ => simp [hb] at hc)).trans (h.fz q), kr h.log, kr h.ints, h.rf, kr h.slots, h.ap, fun i hi => (h.ent i hi).keep hg.size (ne (h.ent i hi).ob), h.eb, h.inj, fun j hj => (h.sl j hj).keep hg.size (fun c hc => ne hc), h.sg⟩
end Go.Proofs.YtglcaejddckleaaDoor
namespace Go.Proofs.YtglcaejddckleaaDoor
open Go.RowKit Go.Shelf
set_option linter.unusedVariables false
attribute [local go_sem] run_store_float run_equalIn_float Oper.semAt_some

/-- All blocks but those of M lie as they lay; so do all below n. -/
structure KX (M : Nat → Prop) (n : Nat) (A B : World) : Prop where
  bel : Below n A B
  blk : ∀ b, b < A.heap.size → ¬ M b → B.heap[b]? = A.heap[b]?
theorem KX.refl (M : Nat → Prop) (n : Nat) (A : World) : KX M n A A := ⟨Below.refl _ _, fun _ _ _ => rfl⟩
theorem KX.trans {M : Nat → Prop} {n : Nat} {A B C : World} (h : KX M n A B) (k : KX M n B C) : KX M n A C := ⟨h.bel.trans k.bel, fun b hb hm => (k.blk b (Nat.lt_of_lt_of_le hb h.bel.size) hm).trans (h.blk b hb hm)⟩
theorem KX.mono {M M' : Nat → Prop} {n : Nat} {A B : World} (h : KX M n A B) (e : ∀ b, b < A.heap.size → M b → M' b) : KX M' n A B := ⟨h.bel, fun b hb hm => h.blk b hb (fun hM => hm (e b hb hM))⟩
theorem KX.of_below {M : Nat → Prop} {n : Nat} {A B : World} (h : Below A.heap.size A B) (hn : n ≤ A.heap.size) : KX M n A B := ⟨h.mono hn, fun b hb _ => h.block b hb⟩
theorem KX.setCell {M : Nat → Prop} {n : Nat} {A B : World} (h : KX M n A B) {g q : Nat} (hg : n ≤ g) (hM : g < A.heap.size → M g) (u : Value) : KX M n A (B.setCell ⟨g, q, none⟩ u) :=
  ⟨h.bel.setCell (by exact hg) _, fun b hb hm => (Deep.blk_setCell_other _ _ _ _ (by intro e; have e : b = g := e; subst e; exact hm (hM hb))).trans (h.blk b hb hm)⟩
theorem KX.alloc {M : Nat → Prop} {n : Nat} {A B : World} (h : KX M n A B) (hn : n ≤ A.heap.size) (o : Obj) : KX M n A (B.alloc o) :=
  ⟨h.bel.alloc (Nat.le_trans hn h.bel.size) _, fun b hb hm => (Deep.blk_alloc_lt _ _ _ (Nat.lt_of_lt_of_le hb h.bel.size)).trans (h.blk b hb hm)⟩
theorem KX.drew {M : Nat → Prop} {n : Nat} {A B : World} (h : KX M n A B) : KX M n A B.drew := ⟨h.bel.drew, h.blk⟩
theorem KX.grown {M : Nat → Prop} {n : Nat} {A B C : World} {row : Option Nat} (h : KX M n A B) (hg : B.grownBy C row) (hn : n ≤ A.heap.size) (hr : ∀ r, row = some r → A.heap.size ≤ r ∨ (n ≤ r ∧ M r)) : KX M n A C :=
  ⟨h.bel.grown hg (Nat.le_trans hn h.bel.size) (fun k e => by rcases hr k e with h' | h' <;> omega), fun b hb hm => (hg.block b (Nat.lt_of_lt_of_le hb h.bel.size) (fun e => by
    rcases hr b e.symm with h' | h'
    · omega
    · exact hm h'.2)).trans (h.blk b hb hm)⟩
/-- What the writing reads. -/
def HeldA (n0 bk R2 x : Nat) (k : Vl) (e : Nat) (W : World) : Prop :=
  W.cell? ⟨n0, 0, none⟩ = some (.pointer (some ⟨bk, 2, none⟩)) ∧ W.cell? ⟨bk, 3, none⟩ = some (.slice (some ⟨R2, 0, none⟩) x x) ∧ W.cell? ⟨n0 + 1, 0, none⟩ = some (.int .i64 k.kind) ∧ W.cell? ⟨n0 + 1, 1, none⟩ = some (.int .i64 k.num) ∧ W.cell? ⟨n0 + 1, 2, none⟩ = some (.float .f64 k.flt) ∧ W.cell? ⟨n0 + 1, 3, none⟩ = some (.string k.str) ∧ W.cell? ⟨n0 + 1, 4, none⟩ = some (.int .i64 k.ref) ∧ W.cell? ⟨n0 + 1 + 1, 0, none⟩ = some (.pointer (some ⟨e, 0, none⟩))
theorem HeldA.block {n0 bk R2 x e : Nat} {k : Vl} {W W' : World} (h : HeldA n0 bk R2 x k e W) (hb : ∀ b, b < n0 + 3 → b = n0 ∨ b = n0 + 1 ∨ b = n0 + 1 + 1 ∨ b = bk → W'.heap[b]? = W.heap[b]?) (hl : bk < n0) : HeldA n0 bk R2 x k e W' := by
  obtain ⟨s0, s1, s2, s3, s4, s5, s6, s7⟩ := h
  have k0 := hb n0 (by omega) (by omega)
  have k1 := hb (n0 + 1) (by omega) (by omega)
  have k2 := hb (n0 + 1 + 1) (by omega) (by omega)
  have k3 := hb bk (by omega) (by omega)
  exact ⟨(World.cell?_of_block k0).trans s0, (World.cell?_of_block k3).trans s1, (World.cell?_of_block k1).trans s2, (World.cell?_of_block k1).trans s3, (World.cell?_of_block k1).trans s4, (World.cell?_of_block k1).trans s5, (World.cell?_of_block k1).trans s6, (World.cell?_of_block k2).trans s7⟩

set_option maxRecDepth 100000 in
set_option maxHeartbeats 4000000 in
theorem indexAdd_any (T : World → Prop) (hTl : Lasts T) (bk : Nat) (r0 r1 : Value) (R2 : Nat) (E S : Nat → Nat) (d : Dc) (k : Vl) (p h : Nat) (hh : HsI T k h) (w : World) (hT : T w) (hM : BMut w bk r0 r1 R2 E S d) (hS : Small d) (hX : ∀ j, j < d.x → d.X j = 0 ∨ d.X j = -1 ∨ 0 < d.X j) (hk : (d.L p).key = k) (hu : useN d.X d.x < d.x) (hu0 : 0 ≤ d.used) (hu1 : d.used ≤ 4194304) :
    Calls Tryd.prog 59 #[.pointer (some ⟨bk, 2, none⟩), V k.kind k.num k.flt k.str k.ref, .pointer (some ⟨E p, 0, none⟩)] w fun e w' => ((∃ u, e = .returned u) ∧ ∃ a S', freeSlot d.x d.X (h % d.x) = some a ∧ BMut w' bk r0 r1 R2 E S' { d with X := upd d.X a ((p : Int) + 1), used := if d.X a = 0 then d.used + 1 else d.used }) ∧ KX (fun b => b = bk ∨ b = R2) bk w w' := by
  have hx := hS.x
  refine (callsIn_wide (n := 10)).1 ?_
  refine callsIn_of_wp_marks Tryd.func59 rfl trivial ?_ rfl
  simp only [Tryd.ntmps59, List.size_toArray, List.length_cons, List.length_nil, Nat.reduceAdd, Nat.reduceSub, Array.replicate_succ, Array.replicate_zero, List.push_toArray, List.append_toArray, List.nil_append, List.cons_append]
  gi_wp2_with (refine ⟨trivial, ?_⟩; gi_at_call 57; refine (callsIn_wide.2 (from_any (some ⟨bk, 2, none⟩) k _)).mono ?_; rintro e w' ⟨rfl, rfl⟩)
  obtain ⟨u, hu'⟩ : ∃ u, u = ((((w.alloc (.cells #[.pointer (some ⟨bk, 2, none⟩)] 96)).alloc (.cells #[.int .i64 k.kind, .int .i64 k.num, .float .f64 k.flt, .string k.str, .int .i64 k.ref] 32)).alloc (.cells #[.pointer (some ⟨E p, 0, none⟩)] 53)).alloc (.cells #[.pointer (some ⟨bk, 2, none⟩)] 96)).alloc (.cells #[.int .i64 k.kind, .int .i64 k.num, .float .f64 k.flt, .string k.str, .int .i64 k.ref] 32) := ⟨_, rfl⟩
  rw [← hu']
  have zu : u.heap.size = w.heap.size + 5 := by rw [hu']; simp
  have bu : Below w.heap.size w u := by rw [hu']; exact (((((Below.refl _ _).alloc (Nat.le_refl _) _).alloc (by simp) _).alloc (by simp; omega) _).alloc (by simp; omega) _).alloc (by simp; omega) _
  have n0 : u.cell? ⟨w.heap.size, 0, none⟩ = some (.pointer (some ⟨bk, 2, none⟩)) := by rw [hu']; simp [go_sem]
  have i0 : u.cell? ⟨w.heap.size + 1, 0, none⟩ = some (.int .i64 k.kind) := by rw [hu']; simp [go_sem]
  have i1 : u.cell? ⟨w.heap.size + 1, 1, none⟩ = some (.int .i64 k.num) := by rw [hu']; simp [go_sem]
  have i2 : u.cell? ⟨w.heap.size + 1, 2, none⟩ = some (.float .f64 k.flt) := by rw [hu']; simp [go_sem]
  have i3 : u.cell? ⟨w.heap.size + 1, 3, none⟩ = some (.string k.str) := by rw [hu']; simp [go_sem]
  have i4 : u.cell? ⟨w.heap.size + 1, 4, none⟩ = some (.int .i64 k.ref) := by rw [hu']; simp [go_sem]
  have r0' : u.cell? ⟨w.heap.size + 1 + 1, 0, none⟩ = some (.pointer (some ⟨E p, 0, none⟩)) := by rw [hu']; simp [go_sem]
  have m0 : u.cell? ⟨w.heap.size + 1 + 1 + 1, 0, none⟩ = some (.pointer (some ⟨bk, 2, none⟩)) := by rw [hu']; simp [go_sem]
  have j0 : u.cell? ⟨w.heap.size + 1 + 1 + 1 + 1, 0, none⟩ = some (.int .i64 k.kind) := by rw [hu']; simp [go_sem]
  have j1 : u.cell? ⟨w.heap.size + 1 + 1 + 1 + 1, 1, none⟩ = some (.int .i64 k.num) := by rw [hu']; simp [go_sem]
  have j2 : u.cell? ⟨w.heap.size + 1 + 1 + 1 + 1, 2, none⟩ = some (.float .f64 k.flt) := by rw [hu']; simp [go_sem]
  have j3 : u.cell? ⟨w.heap.size + 1 + 1 + 1 + 1, 3, none⟩ = some (.string k.str) := by rw [hu']; simp [go_sem]
  have j4 : u.cell? ⟨w.heap.size + 1 + 1 + 1 + 1, 4, none⟩ = some (.int .i64 k.ref) := by rw [hu']; simp [go_sem]
  have hMu := hM.below bu
  have hTu := hTl _ _ hT bu
  have hbkw := hM.lt
  have hR2w := hM.r2_lt
  have hbs : ∀ (W : World), Below w.heap.size w W → bk < W.heap.size := fun W h => Nat.lt_of_lt_of_le hbkw h.size
  clear hu'
  refine wpIn_rangeFunc_ownF rfl (by decide) (gf := 68) (lb := #[.pointer (some ⟨w.heap.size + 1 + 1 + 1, 0, none⟩), .pointer (some ⟨w.heap.size + 1 + 1 + 1 + 1, 0, none⟩)]) rfl trivial (enters_of Tryd.func68 (by kernel_rfl) rfl)
    (from_stops 9 (by decide) T hTl bk R2 (w.heap.size + 1 + 1 + 1) (w.heap.size + 1 + 1 + 1 + 1) d k h w.heap.size hh u hTu hx m0 hMu.c2 hMu.c3 j0 j1 j2 j3 j4) belowK_t (belowK_b (by omega)) (Below.refl _ _) (fun _ => rfl)
    (fun pre W => ((∀ y ∈ pre, 0 < d.X y.1) ∧ W.cell? ⟨w.heap.size, 0, none⟩ = some (.pointer (some ⟨bk, 2, none⟩)) ∧ W.cell? ⟨w.heap.size + 1, 0, none⟩ = some (.int .i64 k.kind) ∧ W.cell? ⟨w.heap.size + 1, 1, none⟩ = some (.int .i64 k.num) ∧ W.cell? ⟨w.heap.size + 1, 2, none⟩ = some (.float .f64 k.flt) ∧ W.cell? ⟨w.heap.size + 1, 3, none⟩ = some (.string k.str) ∧ W.cell? ⟨w.heap.size + 1, 4, none⟩ = some (.int .i64 k.ref) ∧ W.cell? ⟨w.heap.size + 1 + 1, 0, none⟩ = some (.pointer (some ⟨E p, 0, none⟩))) ∧ Below w.heap.size w W)
    (fun c pre W => (c = .ret ∧ (∃ pre' a, pre = pre' ++ [a] ∧ (∀ y ∈ pre', 0 < d.X y.1) ∧ d.X a.1 ≤ 0 ∧ ∃ S', BMut W bk r0 r1 R2 E S' { d with X := upd d.X a.1 ((p : Int) + 1), used := if d.X a.1 = 0 then d.used + 1 else d.used })) ∧ KX (fun b => b = bk ∨ b = R2) bk w W)
    (OwnFrom.and (Own.from (fun s A B row hs hg hr => ⟨hs.1, cell_kept hs.2.1 hg hr, cell_kept hs.2.2.1 hg hr, cell_kept hs.2.2.2.1 hg hr, cell_kept hs.2.2.2.2.1 hg hr, cell_kept hs.2.2.2.2.2.1 hg hr, cell_kept hs.2.2.2.2.2.2.1 hg hr, cell_kept hs.2.2.2.2.2.2.2 hg hr⟩) _) (ownFrom_below (Nat.le_refl _) (by omega)))
    (fun c => OwnFrom.and (Own.from (fun s A B row hs hg hr => ⟨hs.1, by obtain ⟨pre', a, h1, h2, h3, S', h4⟩ := hs.2; exact ⟨pre', a, h1, h2, h3, S', h4.grown hg hr⟩⟩) _) (fun s W W' row hs hg hr => hs.grown hg (by omega) (fun k e => .inl (by have := (hr k e).1; omega))))
    ⟨⟨by simp, n0, i0, i1, i2, i3, i4, r0'⟩, bu⟩
    ?a1 ?assign ?body ?done ?stop
  case assign =>
    intro l x W K hK
    gi_wp2
    exact hK
  case body =>
    rintro l pre ⟨a, ha⟩ W ⟨⟨hp, g0, e0, e1, e2, e3, e4, s0⟩, hBW⟩ _
    have hMW := hM.below hBW
    have c3 := hMW.c3
    have c4 := hMW.c4
    have f4 := hMW.fz 4
    obtain ⟨g', cp', e', _, lR, _, hpc, hpf⟩ := hMW.slots.form (by omega)
    cases e'
    have p0 := hpc a ha
    have q0 := hpf a
    have hsl := hMW.sl a ha
    have lW : bk < W.heap.size := hMW.lt
    have nR : R2 ≠ bk := by have := hMW.r2_lt.1; omega
    have nR' : bk ≠ R2 := fun e => nR e.symm
    have z0 := World.block_lt_of_cell? _ _ g0
    have z1 := World.block_lt_of_cell? _ _ e0
    have z2 := World.block_lt_of_cell? _ _ s0
    dsimp only at z0 z1 z2
    have HP := hide hp
    have HBW := hide hBW
    have HMW := hide hMW
    have HK := hide hk
    have bR2 := hMW.r2_lt.1
    clear hp hBW n0 i0 i1 i2 i3 i4 r0' m0 j0 j1 j2 j3 j4 hMu hTu bu zu hM hT hh hTl hpc hpf hMW
    have hxa := hX a ha
    clear hX
    rcases hxa with hs | hs | hs
    · rw [show sltP S a (d.X a) = none from if_pos hs] at p0
      have hN0 := (((unhide HMW).setUsed (d.used + 1)).putX (x := (p : Int) + 1) ha (by omega) (A := sltA k (E p)) ⟨fun _ => by show _ = sltA (d.L ((p : Int) + 1 - 1).toNat).key _; rw [show ((p : Int) + 1 - 1).toNat = p by omega, unhide HK], fun h => by omega⟩)
      rw [show (W.setCell ⟨bk, 4, none⟩ (.int .i64 (d.used + 1))).heap.size = W.heap.size by simp] at hN0
      have HN := hide hN0
      clear hN0
      have HX : Hid (d.X a = 0) := hide hs
      clear hsl hs
      gi_wp2
      refine wpInR_held (HeldA w.heap.size bk R2 d.x k (E p)) (by kernel_rfl) (by kernel_rfl) ?_
      change wpAnyH _ _ _ _ _ _ _ _ (World.drew _)
      have hz : ∀ b q, bk ≠ b → (W.setCell ⟨bk, 4, none⟩ (.int .i64 (d.used + 1))).cell? ⟨b, q, none⟩ = W.cell? ⟨b, q, none⟩ := fun b q h => cell_set_block h
      have hS0 : HeldA w.heap.size bk R2 d.x k (E p) (W.setCell ⟨bk, 4, none⟩ (.int .i64 (d.used + 1))).drew := ⟨(hz _ _ (by omega)).trans g0, (cell_set_other (by decide)).trans c3, (hz _ _ (by omega)).trans e0, (hz _ _ (by omega)).trans e1, (hz _ _ (by omega)).trans e2, (hz _ _ (by omega)).trans e3, (hz _ _ (by omega)).trans e4, (hz _ _ (by omega)).trans s0⟩
      clear hz
      refine tk 0 (v := ?_) rfl (by kernel_rfl) (by rfl) ?_ (by assumption) ?_
      rotate_left
      · intro w' ⟨s0, s1, s2, s3, s4, s5, s6, s7⟩; go_simp; first | done | with_reducible rfl
      simp only [Act.put, List.setIfInBounds_toArray, List.set_cons_succ, List.set_cons_zero]
      refine tk 1 (v := ?_) rfl (by kernel_rfl) (by rfl) ?_ (by assumption) ?_
      rotate_left
      · intro w' ⟨s0, s1, s2, s3, s4, s5, s6, s7⟩; go_simp; first | done | with_reducible rfl
      simp only [Act.put, List.setIfInBounds_toArray, List.set_cons_succ, List.set_cons_zero]
      refine tk 2 (v := ?_) rfl (by kernel_rfl) (by rfl) ?_ (by assumption) ?_
      rotate_left
      · intro w' ⟨s0, s1, s2, s3, s4, s5, s6, s7⟩; go_simp; first | done | with_reducible rfl
      simp only [Act.put, List.setIfInBounds_toArray, List.set_cons_succ, List.set_cons_zero]
      refine tk 3 (v := ?_) rfl (by kernel_rfl) (by rfl) ?_ (by assumption) ?_
      rotate_left
      · intro w' ⟨s0, s1, s2, s3, s4, s5, s6, s7⟩; go_simp; first | done | with_reducible rfl
      simp only [Act.put, List.setIfInBounds_toArray, List.set_cons_succ, List.set_cons_zero]
      refine tk 4 (v := ?_) rfl (by kernel_rfl) (by rfl) ?_ (by assumption) ?_
      rotate_left
      · intro w' ⟨s0, s1, s2, s3, s4, s5, s6, s7⟩; go_simp; first | done | with_reducible rfl
      simp only [Act.put, List.setIfInBounds_toArray, List.set_cons_succ, List.set_cons_zero]
      refine tk 5 (v := ?_) rfl (by kernel_rfl) (by rfl) ?_ (by assumption) ?_
      rotate_left
      · intro w' ⟨s0, s1, s2, s3, s4, s5, s6, s7⟩; go_simp; first | done | with_reducible rfl
      simp only [Act.put, List.setIfInBounds_toArray, List.set_cons_succ, List.set_cons_zero]
      refine tk 6 (v := ?_) rfl (by kernel_rfl) (by rfl) ?_ (by assumption) ?_
      rotate_left
      · intro w' ⟨s0, s1, s2, s3, s4, s5, s6, s7⟩; go_simp; first | done | with_reducible rfl
      simp only [Act.put, List.setIfInBounds_toArray, List.set_cons_succ, List.set_cons_zero]
      refine tk 7 (v := ?_) rfl (by kernel_rfl) (by rfl) ?_ (by assumption) ?_
      rotate_left
      · intro w' ⟨s0, s1, s2, s3, s4, s5, s6, s7⟩; go_simp; first | done | with_reducible rfl
      simp only [Act.put, List.setIfInBounds_toArray, List.set_cons_succ, List.set_cons_zero]
      refine wpAnyH_ready (rs := [8]) (by kernel_rfl) (by simp) ?_
      refine AllReadyH.cons rfl (fun K hK => ?_) AllReadyH.nil
      go_simp
      refine hK.out _ _ ?_ (fun hS1 => ?_)
      · exact hS0.block (fun b hb _ => Deep.blk_alloc_lt _ _ _ (by show b < (W.setCell _ _).heap.size; simp; omega)) hbkw
      clear hK K
      refine tk 9 (v := ?_) rfl (by kernel_rfl) (by rfl) ?_ (by assumption) ?_
      rotate_left
      · intro w' ⟨s0, s1, s2, s3, s4, s5, s6, s7⟩; go_simp; first | done | with_reducible rfl
      simp only [Act.put, List.setIfInBounds_toArray, List.set_cons_succ, List.set_cons_zero]
      refine wpAnyH_ready (rs := [10]) (by kernel_rfl) (by simp) ?_
      refine AllReadyH.cons rfl (fun K hK => ?_) AllReadyH.nil
      go_simp
      refine hK.out _ _ ?_ (fun hS2 => ?_)
      · exact hS0.block (fun b hb h => (Deep.blk_alloc_lt _ _ _ (by simp; omega)).trans (Deep.blk_setCell_other _ _ _ _ (by show b ≠ R2; omega))) hbkw
      clear hK K
      refine wpAnyH_done (by kernel_rfl) ?_ _
      refine QN.normal ?_
      gi_wp2
      exact ⟨(((KeepsOthers.setCell _ _ _).trans (KeepsOthers.setCell _ _ _)).trans (KeepsOthers.alloc _ _)).trans (KeepsOthers.drew _), ⟨rfl, pre, ⟨a, ha⟩, rfl, unhide HP, by have := unhide HX; show d.X a ≤ 0; omega, _, by rw [if_pos (unhide HX)]; exact (unhide HN).below (Below.refl _ _).drew⟩, (((((KX.of_below (unhide HBW) (by omega)).setCell (Nat.le_refl _) (fun _ => .inl rfl) _).setCell (by omega) (fun _ => .inr rfl) _).alloc (by omega) _).drew)⟩
    · rw [show sltP S a (d.X a) = some ⟨S a, 0, none⟩ from if_neg (by omega)] at p0
      obtain ⟨hsz, hgn⟩ := hsl.2 (by omega)
      have HN := hide ((unhide HMW).putX (x := (p : Int) + 1) ha (by omega) (A := sltA k (E p)) ⟨fun _ => by show _ = sltA (d.L ((p : Int) + 1 - 1).toNat).key _; rw [show ((p : Int) + 1 - 1).toNat = p by omega, unhide HK], fun h => by omega⟩)
      have HX : Hid (d.X a ≠ 0 ∧ d.X a ≤ 0) := hide (by omega)
      clear hsl hs
      gi_wp2
      refine wpInR_held (HeldA w.heap.size bk R2 d.x k (E p)) (by kernel_rfl) (by kernel_rfl) ?_
      change wpAnyH _ _ _ _ _ _ _ _ (World.drew _)
      have hS0 : HeldA w.heap.size bk R2 d.x k (E p) W.drew := ⟨g0, c3, e0, e1, e2, e3, e4, s0⟩
      refine tk 0 (v := ?_) rfl (by kernel_rfl) (by rfl) ?_ (by assumption) ?_
      rotate_left
      · intro w' ⟨s0, s1, s2, s3, s4, s5, s6, s7⟩; go_simp; first | done | with_reducible rfl
      simp only [Act.put, List.setIfInBounds_toArray, List.set_cons_succ, List.set_cons_zero]
      refine tk 1 (v := ?_) rfl (by kernel_rfl) (by rfl) ?_ (by assumption) ?_
      rotate_left
      · intro w' ⟨s0, s1, s2, s3, s4, s5, s6, s7⟩; go_simp; first | done | with_reducible rfl
      simp only [Act.put, List.setIfInBounds_toArray, List.set_cons_succ, List.set_cons_zero]
      refine tk 2 (v := ?_) rfl (by kernel_rfl) (by rfl) ?_ (by assumption) ?_
      rotate_left
      · intro w' ⟨s0, s1, s2, s3, s4, s5, s6, s7⟩; go_simp; first | done | with_reducible rfl
      simp only [Act.put, List.setIfInBounds_toArray, List.set_cons_succ, List.set_cons_zero]
      refine tk 3 (v := ?_) rfl (by kernel_rfl) (by rfl) ?_ (by assumption) ?_
      rotate_left
      · intro w' ⟨s0, s1, s2, s3, s4, s5, s6, s7⟩; go_simp; first | done | with_reducible rfl
      simp only [Act.put, List.setIfInBounds_toArray, List.set_cons_succ, List.set_cons_zero]
      refine tk 4 (v := ?_) rfl (by kernel_rfl) (by rfl) ?_ (by assumption) ?_
      rotate_left
      · intro w' ⟨s0, s1, s2, s3, s4, s5, s6, s7⟩; go_simp; first | done | with_reducible rfl
      simp only [Act.put, List.setIfInBounds_toArray, List.set_cons_succ, List.set_cons_zero]
      refine tk 5 (v := ?_) rfl (by kernel_rfl) (by rfl) ?_ (by assumption) ?_
      rotate_left
      · intro w' ⟨s0, s1, s2, s3, s4, s5, s6, s7⟩; go_simp; first | done | with_reducible rfl
      simp only [Act.put, List.setIfInBounds_toArray, List.set_cons_succ, List.set_cons_zero]
      refine tk 6 (v := ?_) rfl (by kernel_rfl) (by rfl) ?_ (by assumption) ?_
      rotate_left
      · intro w' ⟨s0, s1, s2, s3, s4, s5, s6, s7⟩; go_simp; first | done | with_reducible rfl
      simp only [Act.put, List.setIfInBounds_toArray, List.set_cons_succ, List.set_cons_zero]
      refine tk 7 (v := ?_) rfl (by kernel_rfl) (by rfl) ?_ (by assumption) ?_
      rotate_left
      · intro w' ⟨s0, s1, s2, s3, s4, s5, s6, s7⟩; go_simp; first | done | with_reducible rfl
      simp only [Act.put, List.setIfInBounds_toArray, List.set_cons_succ, List.set_cons_zero]
      refine wpAnyH_ready (rs := [8]) (by kernel_rfl) (by simp) ?_
      refine AllReadyH.cons rfl (fun K hK => ?_) AllReadyH.nil
      go_simp
      refine hK.out _ _ ?_ (fun hS1 => ?_)
      · exact hS0.block (fun b hb _ => Deep.blk_alloc_lt _ _ _ (by show b < W.heap.size; omega)) hbkw
      clear hK K
      refine tk 9 (v := ?_) rfl (by kernel_rfl) (by rfl) ?_ (by assumption) ?_
      rotate_left
      · intro w' ⟨s0, s1, s2, s3, s4, s5, s6, s7⟩; go_simp; first | done | with_reducible rfl
      simp only [Act.put, List.setIfInBounds_toArray, List.set_cons_succ, List.set_cons_zero]
      refine wpAnyH_ready (rs := [10]) (by kernel_rfl) (by simp) ?_
      refine AllReadyH.cons rfl (fun K hK => ?_) AllReadyH.nil
      go_simp
      refine hK.out _ _ ?_ (fun hS2 => ?_)
      · exact hS0.block (fun b hb h => (Deep.blk_alloc_lt _ _ _ (by simp; omega)).trans (Deep.blk_setCell_other _ _ _ _ (by show b ≠ R2; omega))) hbkw
      clear hK K
      refine wpAnyH_done (by kernel_rfl) ?_ _
      refine QN.normal ?_
      gi_wp2
      exact ⟨((KeepsOthers.setCell _ _ _).trans (KeepsOthers.alloc _ _)).trans (KeepsOthers.drew _), ⟨rfl, pre, ⟨a, ha⟩, rfl, unhide HP, by have := unhide HX; show d.X a ≤ 0; omega, _, by rw [if_neg (unhide HX).1]; exact (unhide HN).below (Below.refl _ _).drew⟩, ((((KX.of_below (unhide HBW) (by omega)).setCell (by omega) (fun _ => .inr rfl) _).alloc (by omega) _).drew)⟩
    · rw [show sltP S a (d.X a) = some ⟨S a, 0, none⟩ from if_neg (by omega)] at p0
      obtain ⟨hsz, f0, f1, f2, f3, f4', f5, f6⟩ := hsl.1 hs
      have HX := hide hs
      clear hsl hs
      gi_wp2
      exact ⟨KeepsOthers.refl _, Below.refl _ _, ⟨fun y hy => (List.mem_append.1 hy).elim (unhide HP y) (fun e => by simp at e; subst e; exact unhide HX), g0, e0, e1, e2, e3, e4, s0⟩, unhide HBW⟩
  case done =>
    rintro D ys W hD hsq ⟨⟨hp, _⟩, hBW⟩ hK
    exfalso
    obtain ⟨t, ht, hf, hle, hbef⟩ := freeSlot_some (x := d.x) (a := h % d.x) (X := d.X) (Nat.mod_lt _ (by omega)) hu
    have hm : (h % d.x + t) % d.x ∈ ys.map (·.1) := by
      rw [show ys.map (·.1) = seqL d.x (h % d.x) d.x from hsq]
      unfold seqL
      exact List.mem_map.2 ⟨t, List.mem_range.2 ht, rfl⟩
    obtain ⟨y, hy, e⟩ := List.mem_map.1 hm
    have := hp y hy
    rw [e] at this
    omega
  case stop =>
    rintro D c pre W hD hpre ⟨⟨rfl, pre', a, rfl, h1, h2, S', hN⟩, hBW⟩ hK
    have HF : Hid (freeSlot d.x d.X (h % d.x) = some a.1) := hide (by
      have hp : (pre' ++ [a]).map (·.1) <+: seqL d.x (h % d.x) d.x := hpre
      have hlen := hp.length_le
      rw [List.length_map, List.length_append, seqL_length] at hlen
      have hlen : pre'.length + 1 ≤ d.x := hlen
      have hget : ∀ j, j < pre'.length + 1 → ((pre' ++ [a]).map (·.1))[j]? = some ((h % d.x + j) % d.x) := fun j hj => by
        obtain ⟨r, hr⟩ := hp
        have e : (seqL d.x (h % d.x) d.x)[j]? = ((pre' ++ [a]).map (·.1))[j]? := by rw [← hr, List.getElem?_append_left (by simp; omega)]
        rw [← e]
        unfold seqL
        rw [List.getElem?_map, List.getElem?_range (show j < d.x by omega)]
        rfl
      have ha := hget pre'.length (by omega)
      rw [List.getElem?_map, List.getElem?_append_right (Nat.le_refl _)] at ha
      have ha : a.1 = (h % d.x + pre'.length) % d.x := by simpa using ha
      rw [ha]
      refine freeSlot_at (by omega) (fun j hj => ?_) (by rw [← ha]; exact h2)
      have hb := hget j (by omega)
      rw [List.getElem?_map, List.getElem?_append_left hj] at hb
      obtain ⟨y, hy, e⟩ := Option.map_eq_some_iff.1 hb
      rw [← e]
      exact h1 y (List.mem_of_getElem? hy))
    clear hpre h1 h2 hh hM hMu
    gi_wp2
    refine ⟨by simp, .inl ⟨_, _, rfl, run_takeDeferred hK, ?_⟩⟩
    have hg := grownBy_putObj' W D (.deferred none)
    refine ⟨_, results_none rfl _ _ _, ⟨⟨_, rfl⟩, a.1, S', unhide HF, hN.grown hg (fun r e => by cases e; exact ⟨_, hK, rfl⟩)⟩, hBW.grown hg (by omega) (fun k e => by cases e; exact .inl (by omega))⟩
end Go.Proofs.YtglcaejddckleaaDoor
namespace Go.Proofs.YtglcaejddckleaaDoor
open Go.RowKit
set_option linter.unusedVariables false

/-- The index filled with the pairs of a list. -/
def fillL (hf : Vl → Nat) (d : Dc) (x : Nat) (l : List Nat) : Dc := l.foldl (fun c p => enterD hf c (d.L p).key p) { d with x := x, X := fun _ => 0, used := 0 }
theorem fillL_snoc (hf : Vl → Nat) (d : Dc) (x : Nat) (l : List Nat) (p : Nat) : fillL hf d x (l ++ [p]) = enterD hf (fillL hf d x l) (d.L p).key p := by
  unfold fillL
  rw [List.foldl_append]
  rfl
structure FillOk (d : Dc) (sx N : Nat) (c : Dc) : Prop where
  x : c.x = sx
  n : c.n = d.n
  L : c.L = d.L
  m : c.m = d.m
  I : c.I = d.I
  live : c.live = d.live
  turns : c.turns = d.turns
  use : useN c.X sx ≤ N
  used : (useN c.X sx : Int) = c.used
  pos : ∀ j, j < sx → 0 ≤ c.X j
  up : ∀ j, j < sx → c.X j ≤ d.n
theorem FillOk.step {hf : Vl → Nat} {d c : Dc} {x N p : Nat} {k : Vl} (h : FillOk d x N c) (hN : N < x) (hp : p < d.n) : FillOk d x (N + 1) (enterD hf c k p) := by
  obtain ⟨t, ht, hf', hle, _⟩ := freeSlot_some (x := x) (a := hf k % x) (X := c.X) (Nat.mod_lt _ (by omega)) (by have := h.use; omega)
  have hs : (hf k % x + t) % x < x := Nat.mod_lt _ (by omega)
  have h0 : c.X ((hf k % x + t) % x) = 0 := by have := h.pos _ hs; omega
  generalize (hf k % x + t) % x = a at *
  have e := enterD_some (hf := hf) (d := c) (k := k) (p := p) (a := a) (by rw [h.x]; exact hf')
  rw [e]
  have hu := useN_put (v := (p : Int) + 1) (by omega) h0 x
  rw [if_pos hs] at hu
  refine ⟨h.x, h.n, h.L, h.m, h.I, h.live, h.turns, ?_, ?_, fun j hj => ?_, fun j hj => ?_⟩
  · show useN (upd c.X a ((p : Int) + 1)) x ≤ N + 1
    rw [hu]; have := h.use; omega
  · show ((useN (upd c.X a ((p : Int) + 1)) x : Nat) : Int) = if c.X a = 0 then c.used + 1 else c.used
    rw [hu, if_pos h0]; have := h.used; omega
  · show 0 ≤ upd c.X a ((p : Int) + 1) j
    by_cases ej : j = a
    · subst ej; rw [upd_same]; omega
    · rw [upd_other _ _ ej]; exact h.pos j hj
  · show upd c.X a ((p : Int) + 1) j ≤ d.n
    by_cases ej : j = a
    · subst ej; rw [upd_same]; omega
    · rw [upd_other _ _ ej]; exact h.up j hj
theorem FillOk.start (d : Dc) (x : Nat) : FillOk d x 0 { d with x := x, X := fun _ => 0, used := 0 } :=
  ⟨rfl, rfl, rfl, rfl, rfl, rfl, rfl, by show useN (fun _ => 0) x ≤ 0; rw [useN_zero]; exact Nat.le_refl _, by show ((useN (fun _ => 0) x : Nat) : Int) = 0; rw [useN_zero]; rfl, fun j hj => Int.le_refl _, fun j hj => by show (0 : Int) ≤ d.n; omega⟩
theorem fillL_ok {hf : Vl → Nat} {d : Dc} {x : Nat} {l : List Nat} (hl : l.length ≤ x) (hn : ∀ p ∈ l, p < d.n) : FillOk d x l.length (fillL hf d x l) := by
  suffices h : ∀ (k : Nat), k ≤ l.length → FillOk d x k (fillL hf d x (l.take k)) by
    have := h l.length (Nat.le_refl _)
    rwa [List.take_length] at this
  intro k
  induction k with
  | zero => intro _; exact FillOk.start d x
  | succ k ih =>
    intro hk
    have e : l.take (k + 1) = l.take k ++ [l[k]] := (List.take_append_getElem (by omega)).symm
    rw [e, fillL_snoc]
    exact (ih (by omega)).step (by omega) (hn _ (List.getElem_mem _))

/-- The living that the index is to find. -/
noncomputable def hldL (d : Dc) (k : Nat) : List Nat := (livL d k).filter (fun i => !tells (smallK d.m (d.L i).key))
theorem hldL_no {d : Dc} {k : Nat} (h : (d.L k).turn = 0 ∨ smallK d.m (d.L k).key) : hldL d (k + 1) = hldL d k := by
  unfold hldL
  by_cases ht : (d.L k).turn = 0
  · rw [livL_dead ht]
  · rw [livL_live ht, List.filter_append]
    simp [tells_yes (h.resolve_left ht)]
theorem hldL_yes {d : Dc} {k : Nat} (ht : (d.L k).turn ≠ 0) (h : ¬ smallK d.m (d.L k).key) : hldL d (k + 1) = hldL d k ++ [k] := by
  unfold hldL
  rw [livL_live ht, List.filter_append]
  simp [tells_no h]
theorem hldL_le (d : Dc) (k : Nat) : (hldL d k).length ≤ (livL d k).length := List.length_filter_le _ _
theorem mem_hldL {d : Dc} {k i : Nat} (h : i ∈ hldL d k) : i < k ∧ (d.L i).turn ≠ 0 ∧ ¬ smallK d.m (d.L i).key := by
  unfold hldL at h
  obtain ⟨h1, h2⟩ := List.mem_filter.1 h
  obtain ⟨h3, h4⟩ := mem_livL.1 h1
  refine ⟨h3, h4, fun hs => ?_⟩
  rw [tells_yes hs] at h2
  exact absurd h2 (by decide)
theorem refill_fill {hf : Vl → Nat} {d : Dc} {x : Nat} (hp : ∀ i, i < d.n → (d.L i).turn ≠ 0 → 0 < (d.L i).turn) : ∀ k, k ≤ d.n → refill hf d x k = fillL hf d x (hldL d k) ∧ idxN d k = (hldL d k).length := by
  intro k
  induction k with
  | zero => intro _; exact ⟨rfl, rfl⟩
  | succ k ih =>
    intro hk
    obtain ⟨h1, h2⟩ := ih (by omega)
    by_cases h : indexedK d k
    · have ht : (d.L k).turn ≠ 0 := by have := h.1; omega
      rw [refill_yes h, idxN_yes h, hldL_yes ht h.2, fillL_snoc, h1, h2, List.length_append]
      exact ⟨rfl, rfl⟩
    · rw [refill_no h, idxN_no h, hldL_no (by
        by_cases ht : (d.L k).turn = 0
        · exact .inl ht
        · refine .inr (Classical.byContradiction fun hs => h ⟨hp k (by omega) ht, hs⟩))]
      exact ⟨h1, h2⟩
end Go.Proofs.YtglcaejddckleaaDoor
namespace Go.Proofs.YtglcaejddckleaaDoor
open Go.RowKit Go.Shelf
set_option linter.unusedVariables false
attribute [local go_sem] run_store_float run_equalIn_float Oper.semAt_some

/-- All blocks below n0 but p lie as they lay. -/
structure KpB (p n0 : Nat) (A B : World) : Prop where
  size : A.heap.size ≤ B.heap.size
  block : ∀ b, b < n0 → b ≠ p → B.heap[b]? = A.heap[b]?
theorem KpB.refl (p n0 : Nat) (A : World) : KpB p n0 A A := ⟨Nat.le_refl _, fun _ _ _ => rfl⟩
theorem KpB.trans {p n0 : Nat} {A B C : World} (h : KpB p n0 A B) (k : KpB p n0 B C) : KpB p n0 A C := ⟨Nat.le_trans h.size k.size, fun b h1 h2 => (k.block b h1 h2).trans (h.block b h1 h2)⟩
theorem KpB.put {p n0 : Nat} {w : World} (hn : n0 ≤ w.heap.size) (W : World) (l : Nat) (o o' : Obj) (hl : w.heap.size ≤ l) (h : W.heap[l]? = some o) (_ : o.isCells = false) (_ : o.isWalk = false) : KpB p n0 W (W.putObj l o') := by
  have hb := (Below.refl n0 W).grown (grownBy_putObj' W l o') (by have := (Array.getElem?_eq_some_iff.1 h).1; omega) (fun k e => by cases e; omega)
  exact ⟨hb.size, fun b h1 _ => hb.block b h1⟩

theorem kept_cells {A B : World} {row : Option Nat} {b : Nat} {c : Array Value} {t : TypeId} {fz : Nat × Nat} {D : Nat} (h : A.heap[b]? = some (.cells c t fz)) (hg : A.grownBy B row) (hr : ∀ r, row = some r → D ≤ r ∧ ∃ o : Obj, A.heap[r]? = some o ∧ o.isCells = false) : B.heap[b]? = A.heap[b]? :=
  hg.block b (Array.getElem?_eq_some_iff.1 h).1 (fun e => by
    obtain ⟨_, o, ho, hc⟩ := hr b e.symm
    rw [h] at ho
    cases ho
    cases hc)
theorem own_keptO {A B : World} {row : Option Nat} {D base e size : Nat} {v : Value} {n : Nat} {xs : List Value} (h : A.ownsRow base e size v n xs) (hg : A.grownBy B row) (hr : ∀ r, row = some r → D ≤ r ∧ ∃ o : Obj, A.heap[r]? = some o ∧ o.isCells = false) : B.ownsRow base e size v n xs := by
  obtain ⟨hl, h | ⟨g, cap, cur, h1, h2, h3, h4⟩⟩ := h
  · exact ⟨hl, .inl h⟩
  · exact ⟨hl, .inr ⟨g, cap, cur, h1, h2, (kept_cells h3 hg hr).trans h3, h4⟩⟩

section
variable {P : Program}
/-- append, in a round of a range over a function. -/
theorem wpIn_append_lies (w : World) {l n' : Nat} {o : Oper} {a : Act} {K : Act → World → Prop} {Q : Exit → Act → World → Prop} (s x : Operand) (t : TypeId)
    (ho : o.op = .call { callee := .builtin .append, args := #[s, x], argTypes := #[t, t] })
    (base : Nat) (e : TypeId) (i : TypeInfo) (z : Value) (size bytes : Nat) (ht : P.underlying t = some (.slice e)) (hi : P.info? e = some i) (hz : i.zero = some z)
    (hsize : i.size = size) (hby : i.bytes = bytes) (hzs : z.cells.size = size) (hsz : 0 < size)
    (v : Value) (n : Nat) (xs : List Value) (hs : a.eval s = v) (hown : w.ownsRow base e size v n xs)
    (ad : Addr) (m c : Nat) (news : List Value) (hx : a.eval x = .slice (some ad) m c) (hl : news.length = m * size) (hnews : ∀ j u, news[j]? = some u → w.cell? (ad.add j) = some u) (h1 : ∀ u ∈ news, u.oneCell' = true)
    (hm : 0 < m) (h63 : n + m ≤ maxLen) (hbytes : (n + m) * bytes ≤ 140737488355328) (hbase : base ≤ w.heap.size) (H : Nat) (hH : w.heap.size = H)
    (h : ∀ g cap w', w'.ownsRow base e size (.slice (some ⟨g, 0, none⟩) (n + m) cap) (n + m) (xs ++ news) → w.grownBy w' v.ownBlock → (v.ownBlock = some g ∨ g = H) → g < w'.heap.size → K (a.put o.dst (.slice (some ⟨g, 0, none⟩) (n + m) cap)) w') : o.wpIn (Fence.wide.inRound l) n' P a w K Q := by
  obtain ⟨g, cap, w', hr, h2, h3, h4, h5⟩ := run_append_lies (P := P) w t o.type base e i z size bytes ht hi hz hsize hby hzs hsz v n xs hown ad m c news hl hnews h1 hm h63 hbytes hbase H hH
  refine ⟨fun _ _ => trivial, ?_⟩
  show o.uponIn (Fence.wide.inRound l) n' P a K Q ((o.semAt (some l) a.eval).run P w)
  rw [Oper.semAt_some l _ _ (fun c e => by rw [ho] at e; cases e)]
  unfold execOp
  simp only [ho, resolve, invoke, builtin, Sem.run_bind, Sem.run_pure, Result.andThen_ok, List.map_toArray, List.map_cons, List.map_nil, hs, hx, hr]
  exact h g cap w' h2 h3 h4 h5
end

set_option maxRecDepth 100000 in
set_option maxHeartbeats 2000000 in
theorem living_stopsP (n : Nat) (hn : 1 ≤ n) (bk R0 R1 R2 mb p n0 : Nat) (E S : Nat → Nat) (d : Dc) (w : World) (hB : Book w bk R0 R1 R2 E S d) (hS : Small d) (hR : 0 < d.n → R0 < n0 ∧ R0 ≠ p) (hE : ∀ i, i < d.n → E i < n0 ∧ E i ≠ p)
    (m0 : w.cell? ⟨mb, 0, none⟩ = some (.pointer (some ⟨bk, 0, none⟩))) :
    SeqStopsK Fence.wide n Tryd.prog 36 #[.pointer (some ⟨mb, 0, none⟩)] (fun a : Liv d => #[.pointer (some ⟨E a.1, 0, none⟩)]) (KpB p n0)
      (LvAll d) (LvPre d) d.n w := fun l J Jx W hW hJ hJx hY h0 => by
  have lm := World.block_lt_of_cell? _ _ m0
  have m0 := (hW.cell (p := ⟨mb, 0, none⟩) lm).trans m0
  have hBk := hB.below hW
  obtain ⟨a0, k0, c0, ha0⟩ := hBk.c0
  have HA0 := hide ha0
  clear ha0
  have lb := hBk.lt
  have hnn := hS.n
  have HY := hide hY
  have H0 := hide h0
  have HBk := hide hBk
  have HE := hide hE
  clear hJx hJ hY hW h0 hBk hB hS hE
  refine callsIn_of_wp Tryd.func36 rfl trivial ?_ rfl
  simp only [Tryd.ntmps36, List.size_toArray, List.length_cons, List.length_nil, Nat.reduceAdd, Nat.reduceSub, Array.replicate_succ, Array.replicate_zero, List.push_toArray, List.append_toArray, List.nil_append, List.cons_append]
  gi_wp2
  gi_loopw [10] (fun i wr => ∃ (k : Nat) (pre : List (Liv d)), k ≤ d.n ∧ i = .int .i64 (k : Int) ∧ LvTo d k pre ∧ J pre wr ∧ KpB p n0 W wr) (fun i _ => d.n - (intOf i).toNat)
  case atStart => exact ⟨0, [], by omega, rfl, rfl, unhide H0, KpB.refl _ _ _⟩
  case round =>
    obtain ⟨k, pre, hk, rfl, hlv, hJp, hbw⟩ := hrel
    by_cases hkn : k < d.n
    · obtain rfl := unhide HA0 (by omega)
      have p0 := (World.cell?_of_block (a := ⟨R0, k, none⟩) (hbw.block _ (hR (by omega)).1 (hR (by omega)).2)).trans ((unhide HBk).r0 k hkn)
      have t0 := (World.cell?_of_block (a := ⟨E k, 10, none⟩) (hbw.block _ (unhide HE k hkn).1 (unhide HE k hkn).2)).trans ((unhide HBk).ent k hkn).tn
      have HLV := hide hlv
      have HBW := hide hbw
      clear hlv hbw
      by_cases ht : (d.L k).turn = 0
      · have HN : Hid (LvTo d (k + 1) pre) := hide (by unfold LvTo; rw [livL_dead ht]; exact unhide HLV)
        rw [ht] at t0
        clear ht
        gi_wp2
        refine ⟨fun _ h => (by cases h), ?_⟩
        gi_wp2
        go_roundw
        case rel => exact ⟨k + 1, pre, by omega, by go_num, unhide HN, hJp, unhide HBW⟩
        case measure => simp [intOf]; omega
      · have ht' : ((d.L k).turn != 0) = true := by simp [ht]
        obtain ⟨fn, tmps, assign, body, hy, hRR⟩ := unhide HY pre ⟨k, hkn, ht⟩ wr hJp (by
          have h1 : (pre.map (·.1)).length = (livL d k).length := congrArg List.length (unhide HLV)
          rw [List.length_map] at h1
          have := livL_le d k
          omega)
        have HN : Hid (LvTo d (k + 1) (pre ++ [⟨k, hkn, ht⟩])) := hide (by
          unfold LvTo
          rw [livL_live ht, List.map_append, show pre.map (·.1) = livL d k from unhide HLV]
          rfl)
        have HR := hide hRR
        clear hRR hJp
        dsimp only at hy
        gi_wp2
        refine (unhide HR).mono ?_
        rintro e W3 (⟨rfl, hJ3, hk3⟩ | ⟨rfl, hJx3⟩)
        · clear HR hy
          gi_wp2
          go_roundw
          case rel => exact ⟨k + 1, _, by omega, by go_num, unhide HN, hJ3, (unhide HBW).trans hk3⟩
          case measure => simp [intOf]; omega
        · clear HR hy
          gi_wp2
          refine bodyPost_ret (results_none rfl _ _ _) rfl ?_
          exact ⟨⟨_, rfl⟩, .inr ⟨_, (unhide HN).pre (by omega), hJx3⟩⟩
    · have hkn' : k = d.n := by omega
      subst hkn'
      have HS := hide hlv
      clear hlv
      gi_wp2
      go_end0
      exact ⟨⟨_, rfl⟩, .inl ⟨pre, unhide HS, hJp⟩⟩
end Go.Proofs.YtglcaejddckleaaDoor
namespace Go.Proofs.YtglcaejddckleaaDoor
open Go.RowKit Go.Shelf
set_option linter.unusedVariables false
attribute [local go_sem] run_store_float run_equalIn_float Oper.semAt_some

theorem own_at {w w' : World} {B e s n : Nat} {v : Value} {xs : List Value} (h : w.ownsRow B e s v n xs) (hb : ∀ q, v.ownBlock = some q → w'.heap[q]? = w.heap[q]?) : w'.ownsRow B e s v n xs := by
  obtain ⟨hl, h | ⟨g, cap, cur, h1, h2, h3, h4⟩⟩ := h
  · exact ⟨hl, .inl h⟩
  · exact ⟨hl, .inr ⟨g, cap, cur, h1, h2, (hb g (by rw [h1]; rfl)).trans h3, h4⟩⟩
/-- The entries held so far. -/
noncomputable def hlP (d : Dc) (pre : List (Liv d)) : List Nat := (pre.map (·.1)).filter (fun i => !tells (smallK d.m (d.L i).key))
theorem hlP_no {d : Dc} {pre : List (Liv d)} {x : Liv d} (h : smallK d.m (d.L x.1).key) : hlP d (pre ++ [x]) = hlP d pre := by
  unfold hlP
  rw [List.map_append, List.filter_append]
  simp [tells_yes h]
theorem hlP_yes {d : Dc} {pre : List (Liv d)} {x : Liv d} (h : ¬ smallK d.m (d.L x.1).key) : hlP d (pre ++ [x]) = hlP d pre ++ [x.1] := by
  unfold hlP
  rw [List.map_append, List.filter_append]
  simp [tells_no h]
theorem hlP_all {d : Dc} {pre : List (Liv d)} (h : pre.map (·.1) = livL d d.n) : hlP d pre = hldL d d.n := by
  unfold hlP hldL
  rw [h]
theorem hlP_le {d : Dc} (pre : List (Liv d)) : (hlP d pre).length ≤ pre.length := by
  have := List.length_filter_le (fun i => !tells (smallK d.m (d.L i).key)) (pre.map (·.1))
  rwa [List.length_map] at this
def eP (E : Nat → Nat) (l : List Nat) (j : Nat) : Option Addr := some ⟨E (l.getD j 0), 0, none⟩
theorem eP_snoc (E : Nat → Nat) (l : List Nat) (i : Nat) : ptL (eP E l) l.length ++ [.pointer (some ⟨E i, 0, none⟩)] = ptL (eP E (l ++ [i])) (l.length + 1) := by
  rw [ptL_snoc]
  refine ptL_congr (fun j hj => ?_)
  unfold eP
  by_cases e : j = l.length
  · subst e
    rw [upd_same]
    simp [List.getD]
  · rw [upd_other _ _ e]
    rw [List.getD_eq_getElem?_getD, List.getD_eq_getElem?_getD, List.getElem?_append_left (by omega)]

/-- Between two rounds. -/
def HdI (w u : World) (p n0 : Nat) (E : Nat → Nat) (d : Dc) (pre : List (Liv d)) (W : World) : Prop :=
  ∃ v, W.rowIs p 60 1 (fun _ => v) ∧ Rw W n0 tEnt v (hlP d pre).length (eP E (hlP d pre)) ∧ KpB p n0 u W ∧ Below w.heap.size w W
theorem HdI.own (w u : World) (p n0 D : Nat) (E : Nat → Nat) (d : Dc) (hn : n0 ≤ D) (hu : n0 ≤ u.heap.size) (hw : w.heap.size ≤ D) : OwnFrom D (HdI w u p n0 E d) := by
  rintro pre A B row ⟨v, h1, h2, h3, h4⟩ hg hr
  refine ⟨v, ?_, own_keptO h2 hg hr, ⟨Nat.le_trans h3.size hg.size, fun b hb hp => ?_⟩, h4.grown hg h4.size (fun k e => Nat.le_trans hw (hr k e).1)⟩
  · obtain ⟨c, hb, hc⟩ := h1
    exact World.rowIs.of_block ⟨c, hb, hc⟩ (kept_cells hb hg hr)
  · have hl : b < A.heap.size := Nat.lt_of_lt_of_le hb (Nat.le_trans hu h3.size)
    exact (hg.block b hl (fun e => by have := (hr b e.symm).1; omega)).trans (h3.block b hb hp)

theorem HdI.below {w u W W2 : World} {p n0 : Nat} {E : Nat → Nat} {d : Dc} {pre pre' : List (Liv d)} (h : HdI w u p n0 E d pre W) (h2 : Below W.heap.size W W2) (e : hlP d pre' = hlP d pre) (hpn : p < n0) (hnu : n0 ≤ u.heap.size) : KeepsOthers W W2 ∧ KpB p n0 W W2 ∧ HdI w u p n0 E d pre' W2 := by
  obtain ⟨v, hp, hown, hkp, hbw⟩ := h
  have hk2 : KpB p n0 W W2 := ⟨h2.size, fun b hb _ => h2.block b (Nat.lt_of_lt_of_le hb (Nat.le_trans hnu hkp.size))⟩
  refine ⟨⟨h2.size, fun k o hk _ => (h2.block k (Array.getElem?_eq_some_iff.1 hk).1).trans hk⟩, hk2, v, hp.of_block (h2.block p hp.lt), ?_, hkp.trans hk2, hbw.trans (h2.mono hbw.size)⟩
  rw [e]
  exact own_block hown h2.size (fun q _ hq => h2.block q hq)
theorem HdI.add {w u W W2 w3 : World} {p n0 : Nat} {E : Nat → Nat} {d : Dc} {pre : List (Liv d)} {x : Liv d} {v : Value} {o : Obj} {g3 cp3 : Nat} (hp : W.rowIs p 60 1 (fun _ => v)) (hown : Rw W n0 tEnt v (hlP d pre).length (eP E (hlP d pre))) (hkp : KpB p n0 u W) (hbw : Below w.heap.size w W) (h2 : Below W.heap.size W W2)
    (h1 : w3.ownsRow n0 tEnt 1 (.slice (some ⟨g3, 0, none⟩) ((hlP d pre).length + 1) cp3) ((hlP d pre).length + 1) (ptL (eP E (hlP d pre)) (hlP d pre).length ++ [.pointer (some ⟨E x.1, 0, none⟩)])) (hg : (W2.alloc o).grownBy w3 v.ownBlock) (hpn : p < n0) (hnu : n0 ≤ u.heap.size) (hwp : w.heap.size ≤ p) (hs : ¬ smallK d.m (d.L x.1).key) :
    (w3.cell? ⟨p, 0, none⟩ = some v ∧ w3.frozen? ⟨p, 0, none⟩ = false) ∧ KeepsOthers W (w3.setCell ⟨p, 0, none⟩ (.slice (some ⟨g3, 0, none⟩) ((hlP d pre).length + 1) cp3)) ∧ KpB p n0 W (w3.setCell ⟨p, 0, none⟩ (.slice (some ⟨g3, 0, none⟩) ((hlP d pre).length + 1) cp3)) ∧ HdI w u p n0 E d (pre ++ [x]) (w3.setCell ⟨p, 0, none⟩ (.slice (some ⟨g3, 0, none⟩) ((hlP d pre).length + 1) cp3)) := by
  have zW := hkp.size
  have z2 := h2.size
  have z3 : W.heap.size ≤ w3.heap.size := by have := hg.size; simp at this; omega
  have hB : ∀ b, b < W.heap.size → v.ownBlock ≠ some b → w3.heap[b]? = W.heap[b]? := fun b hb he => (hg.block b (by simp; omega) (fun e => he e.symm)).trans ((Deep.blk_alloc_lt _ _ _ (by omega)).trans (h2.block b hb))
  have hrow : ∀ b, b < n0 → v.ownBlock ≠ some b := fun b hb e => by have := (hown.lt b e).1; omega
  have hp1 : w3.rowIs p 60 1 (fun _ => v) := hp.of_block (hB p hp.lt (hrow p hpn))
  have hg3 := (World.ownsRow.lt h1 g3 rfl).1
  have os : ∀ b, b ≠ p → (w3.setCell ⟨p, 0, none⟩ (.slice (some ⟨g3, 0, none⟩) ((hlP d pre).length + 1) cp3)).heap[b]? = w3.heap[b]? := fun b hb => Deep.blk_setCell_other _ _ _ _ (by exact hb)
  have hk : KpB p n0 W (w3.setCell ⟨p, 0, none⟩ (.slice (some ⟨g3, 0, none⟩) ((hlP d pre).length + 1) cp3)) := ⟨by simpa using z3, fun b h1 h2' => (os b h2').trans (hB b (by omega) (hrow b h1))⟩
  refine ⟨⟨hp1.cell (i := 0) (by omega), hp1.frozen 0⟩, ?_, hk, .slice (some ⟨g3, 0, none⟩) ((hlP d pre).length + 1) cp3, (hp1.set 0 _).congr (fun q hq => by simp [show q = 0 by omega]), ?_, hkp.trans hk, ?_⟩
  · have hko : KeepsOthers W w3 := ⟨z3, fun k o' hk' hc => (hB k (Array.getElem?_eq_some_iff.1 hk').1 (fun e => by
      obtain ⟨c, hb⟩ := Rw.block hown e
      rw [hb] at hk'
      cases hk'
      cases hc)).trans hk'⟩
    exact hko.trans (KeepsOthers.setCell _ _ _)
  · rw [hlP_yes hs]
    have hl : (hlP d pre ++ [x.1]).length = (hlP d pre).length + 1 := by simp
    rw [hl]
    refine own_at ?_ (fun q e => os q (by
      have e' : g3 = q := by simpa [Value.ownBlock] using e
      omega))
    rw [eP_snoc] at h1
    exact h1
  · exact (((hbw.trans (h2.mono hbw.size)).alloc (by have := hbw.size; omega) _).grown hg (by have := hbw.size; simp; omega) (fun k e => by have := (hown.lt k e).1; omega)).setCell (by show w.heap.size ≤ p; omega) _

/-- How great the new index is. -/
def sizeX (n : Nat) : Nat := if n = 0 then 0 else sizeFor n
theorem sizeX_le {n : Nat} (h : n ≤ 500) : sizeX n ≤ 4000 := by
  unfold sizeX
  split
  · omega
  · exact (sizeFor_says h).2.2.1
theorem sizeX_room {n : Nat} (h : n ≤ 500) : 4 * n ≤ sizeX n := by
  unfold sizeX
  split
  · omega
  · exact (sizeFor_says h).1

def HeldR (n0 bk p : Nat) (v : Value) (W : World) : Prop := W.cell? ⟨n0, 0, none⟩ = some (.pointer (some ⟨bk, 0, none⟩)) ∧ W.cell? ⟨p, 0, none⟩ = some v
def HeldK (n0 bk e : Nat) (k : Vl) (W : World) : Prop := W.cell? ⟨n0, 0, none⟩ = some (.pointer (some ⟨bk, 0, none⟩)) ∧ W.cell? ⟨e, 0, none⟩ = some (.int .i64 k.kind) ∧ W.cell? ⟨e, 1, none⟩ = some (.int .i64 k.num) ∧ W.cell? ⟨e, 2, none⟩ = some (.float .f64 k.flt) ∧ W.cell? ⟨e, 3, none⟩ = some (.string k.str) ∧ W.cell? ⟨e, 4, none⟩ = some (.int .i64 k.ref)

set_option maxRecDepth 100000 in
set_option maxHeartbeats 2000000 in
theorem indexEmpty_kx (bk : Nat) (r0 r1 : Value) (R2 : Nat) (E S : Nat → Nat) (d : Dc) (x : Nat) (w : World) (hM : BMut w bk r0 r1 R2 E S d) (hx : x ≤ 4194304) :
    Calls Tryd.prog 69 #[.pointer (some ⟨bk, 2, none⟩), .int .i64 (x : Int)] w fun e w' => ((∃ u, e = .returned u) ∧ BMut w' bk r0 r1 w.heap.size E S { d with x := x, X := fun _ => 0, used := 0 }) ∧ KX (fun b => b = bk) bk w w' := by
  have hlt := hM.lt
  have c3 := hM.c3
  have c4 := hM.c4
  have f3 := hM.fz 3
  have f4 := hM.fz 4
  have mk := make_ptrs Tryd.underlying62 infoSlot x hx
  have hP : Ptrs (w.alloc (.cells (madeCells (Value.pointer none).cells x) tSlt)) w.heap.size x tSlt (fun _ => none) := Ptrs.fresh w x tSlt
  have hN := ((hM.below ((Below.refl _ _).alloc (Nat.le_refl _) (.cells (madeCells (Value.pointer none).cells x) tSlt))).setSlots (Q2 := w.heap.size) (x := x) (X := fun _ => 0) ((hP.own (B := bk + 1) (by omega) hx).congr (fun j hj => by simp [sltP])) (fun j hj => ⟨fun h => absurd h (Int.lt_irrefl 0), fun h => absurd h (Int.lt_irrefl 0)⟩) (fun j hj h => absurd rfl h)).setUsed 0
  rw [World.setCell_alloc_past _ _ _ _ hlt, World.setCell_alloc_past _ _ _ _ (by simpa using hlt)] at hN
  have HN := hide hN
  have HB : Hid (∀ o, KX (fun b => b = bk) bk w (((w.setCell ⟨bk, 3, none⟩ (.slice (some ⟨w.heap.size, 0, none⟩) x x)).setCell ⟨bk, 4, none⟩ (.int .i64 0)).alloc o)) := hide (fun o => KX.alloc (n := bk) (A := w) (((KX.refl (fun b => b = bk) _ _).setCell (Nat.le_refl _) (fun _ => rfl) _).setCell (Nat.le_refl _) (fun _ => rfl) _) (by omega) _)
  clear hM hP hN
  go_enter Tryd.func69, Tryd.ntmps69
  go_wp2
  go_end0
  exact ⟨⟨⟨_, rfl⟩, unhide HN⟩, unhide HB _⟩

set_option maxRecDepth 100000 in
set_option maxHeartbeats 4000000 in
theorem remakeIndex_any (T : World → Prop) (hTl : Lasts T) (hf : Vl → Nat) (bk : Nat) (hTb : ∀ w w', T w → Below bk w w' → T w') (r0 r1 : Value) (R2 : Nat) (E S : Nat → Nat) (d : Dc) (g : Nat) (w : World) (hT : T w) (hM : BMut w bk r0 r1 R2 E S d) (hS : Small d)
    (hH : ∀ i, i < d.n → (d.L i).turn ≠ 0 → HsI T (d.L i).key (hf (d.L i).key)) (hlen : (hldL d d.n).length + g ≤ 500) :
    Calls Tryd.prog 58 #[.pointer (some ⟨bk, 0, none⟩), .int .i64 (g : Int)] w fun e w' => ((∃ u, e = .returned u) ∧ ∃ R2' S', BMut w' bk r0 r1 R2' E S' (fillL hf d (sizeX ((hldL d d.n).length + g)) (hldL d d.n)) ∧ w.heap.size ≤ R2') ∧ KX (fun b => b = bk) bk w w' := by
  obtain ⟨i0, hi0, hz0, hz1, hz2⟩ := info_parts infoEnt
  have hdm := hS.m
  have hdn := hS.n
  have hbkw := hM.lt
  refine (callsIn_wide (n := 20)).1 ?_
  refine callsIn_of_wp_marks Tryd.func58 rfl trivial ?_ rfl
  simp only [Tryd.ntmps58, List.size_toArray, List.length_cons, List.length_nil, Nat.reduceAdd, Nat.reduceSub, Array.replicate_succ, Array.replicate_zero, List.push_toArray, List.append_toArray, List.nil_append, List.cons_append]
  have HM := hide hM
  have HS := hide hS
  have HH := hide hH
  have HL := hide hlen
  have HT := hide hT
  clear hM hS hH hlen hT
  gi_wp2_with fail
  refine ⟨trivial, ?_⟩
  refine (callsIn_wide.2 (living_any bk _)).mono ?_
  rintro e w4 ⟨rfl, rfl⟩
  gi_wp2_with fail
  obtain ⟨u, hu⟩ : ∃ u, u = ((w.alloc (.cells #[.pointer (some ⟨bk, 0, none⟩)] 42)).alloc (.cells #[.slice none 0 0] 60)).alloc (.cells #[.pointer (some ⟨bk, 0, none⟩)] 42) := ⟨_, rfl⟩
  try simp only [World.size_alloc]
  rw [← hu]
  have zu : u.heap.size = w.heap.size + 1 + 1 + 1 := by rw [hu]; simp
  have bu : Below w.heap.size w u := by rw [hu]; exact (((Below.refl _ _).alloc (Nat.le_refl _) _).alloc (by simp) _).alloc (by simp; omega) _
  have mb0 : u.cell? ⟨w.heap.size + 1 + 1, 0, none⟩ = some (.pointer (some ⟨bk, 0, none⟩)) := by rw [hu]; simp [go_sem]
  have b0 : u.cell? ⟨w.heap.size, 0, none⟩ = some (.pointer (some ⟨bk, 0, none⟩)) := by rw [hu]; simp [go_sem]
  have hpu : u.rowIs (w.heap.size + 1) 60 1 (fun _ => .slice none 0 0) := by
    have h1 := World.rowIs_alloc (w.alloc (.cells #[.pointer (some ⟨bk, 0, none⟩)] 42)) #[.slice none 0 0] 60 (fun _ => .slice none 0 0) (fun i hi => by
      have : i = 0 := by simpa using hi
      subst this
      rfl)
    rw [World.size_alloc] at h1
    refine World.rowIs.of_block h1 ?_
    rw [hu]
    exact Deep.blk_alloc_lt _ _ _ (by simp)
  clear hu
  have hMu := (unhide HM).below bu
  obtain ⟨R0, R1, hBu⟩ := hMu.book
  have c0u : u.cell? ⟨w.heap.size + 1, 0, none⟩ = some (.slice none 0 0) := hpu.cell (i := 0) (by omega)
  have hRp : 0 < d.n → R0 < u.heap.size ∧ R0 ≠ w.heap.size + 1 := fun h0 => ⟨hBu.l0, fun e => by
    have := hBu.r0 0 h0
    rw [e, c0u] at this
    cases this⟩
  have hEp : ∀ i, i < d.n → E i < u.heap.size ∧ E i ≠ w.heap.size + 1 := fun i hi => ⟨(hBu.ent i hi).lt, fun e => by
    have := (hBu.ent i hi).k0
    rw [e, c0u] at this
    cases this⟩
  obtain ⟨Q1, k1, e1⟩ := hMu.rf
  have c1u : u.cell? ⟨bk, 1, none⟩ = some (.slice (some ⟨Q1, 0, none⟩) d.m k1) := by rw [hMu.c1, e1]
  clear c0u
  refine wpIn_rangeFunc_ownF rfl (by decide) (gf := 36) (lb := #[.pointer (some ⟨w.heap.size + 1 + 1, 0, none⟩)]) rfl trivial (enters_of Tryd.func36 (by kernel_rfl) rfl)
    (living_stopsP 19 (by decide) bk R0 R1 R2 (w.heap.size + 1 + 1) (w.heap.size + 1) u.heap.size E S d u hBu (unhide HS) hRp hEp mb0) KpB.trans (KpB.put (Nat.le_refl _)) (Below.refl _ _) (fun _ => rfl)
    (HdI w u (w.heap.size + 1) u.heap.size E d)
    (fun c pre W => False)
    (HdI.own w u (w.heap.size + 1) u.heap.size u.heap.size E d (Nat.le_refl _) (Nat.le_refl _) (by omega))
    (fun c _ _ _ _ h => h.elim)
    ⟨.slice none 0 0, hpu, World.ownsRow_nil _ _ _ _, KpB.refl _ _ _, bu⟩
    ?a1 ?assign ?body ?done ?stop
  case assign =>
    intro l x W K hK
    gi_wp2
    exact hK
  case stop =>
    rintro D c pre W hD hpre h hK
    exact h.elim
  case body =>
    rintro l pre ⟨i, hi, ht⟩ W ⟨v, hp, hown, hkp, hbw⟩ hlen
    have hblk := hkp.block (E i) (hEp i hi).1 (hEp i hi).2
    obtain ⟨hel, q0, q1, q2, q3, q4, _⟩ := (hBu.ent i hi).keep hkp.size hblk
    have cb : W.cell? ⟨w.heap.size, 0, none⟩ = some (.pointer (some ⟨bk, 0, none⟩)) := (World.cell?_of_block (a := ⟨w.heap.size, 0, none⟩) (hkp.block w.heap.size (by omega) (by omega))).trans b0
    have c1 : W.cell? ⟨bk, 1, none⟩ = some (.slice (some ⟨Q1, 0, none⟩) d.m k1) := (World.cell?_of_block (a := ⟨bk, 1, none⟩) (hkp.block bk (by omega) (by omega))).trans c1u
    have zW := hkp.size
    have lW : w.heap.size < W.heap.size := by omega
    have lb : bk < W.heap.size := by omega
    have HOW := hide hown
    have HKP := hide hkp
    have HBW := hide hbw
    have HP := hide hp
    have hpl := hp.lt
    have HLE := hide (hlP_le pre)
    clear hblk hown hkp hbw hp mb0
    by_cases hs : smallK d.m (d.L i).key
    · have HSM := hide (tells_yes hs)
      have HL' := hide (hlP_no (pre := pre) (x := ⟨i, hi, ht⟩) hs)
      clear hs
      gi_wp2_with fail
      refine wpIn_region_quiet (C := fun w' => Below W.heap.size W w') (by kernel_rfl) (by kernel_rfl) (by kernel_rfl) ((Below.refl _ _).drew) ?_
      show wpQuiet _ _ _ _ [_, _, _, _, _, _, _, _, _, _, _, _] _
      refine wpQuiet_step (fun K hK => ?_)
      go_simp
      refine ⟨_, fun w' hw' => rfl, hK _ ?_⟩
      clear hK K
      refine wpQuiet_step (fun K hK => ?_)
      go_simp
      refine ⟨_, fun w' hw' => rfl, hK _ ?_⟩
      clear hK K
      refine wpQuiet_step (fun K hK => ?_)
      go_simp
      refine ⟨_, fun w' hw' => rfl, hK _ ?_⟩
      clear hK K
      refine wpQuiet_step (fun K hK => ?_)
      go_simp
      refine ⟨_, fun w' hw' => rfl, hK _ ?_⟩
      clear hK K
      refine wpQuiet_step (fun K hK => ?_)
      go_simp
      apply Exists.intro
      refine And.intro (fun w' hw' => ?_) (hK _ ?_)
      · obtain ⟨hc', hf'⟩ := bcell hw'
        go_simp
        first | rfl | exact ⟨rfl, rfl⟩ | exact ⟨rfl⟩
      clear hK K
      refine wpQuiet_step (fun K hK => ?_)
      go_simp
      apply Exists.intro
      refine And.intro (fun w' hw' => ?_) (hK _ ?_)
      · obtain ⟨hc', hf'⟩ := bcell hw'
        go_simp
        first | rfl | exact ⟨rfl, rfl⟩ | exact ⟨rfl⟩
      clear hK K
      refine wpQuiet_step (fun K hK => ?_)
      go_simp
      refine ⟨_, fun w' hw' => rfl, hK _ ?_⟩
      clear hK K
      refine wpQuiet_step (fun K hK => ?_)
      go_simp
      refine ⟨_, fun w' hw' => rfl, hK _ ?_⟩
      clear hK K
      refine wpQuiet_step (fun K hK => ?_)
      go_simp
      apply Exists.intro
      refine And.intro (fun w' hw' => ?_) (hK _ ?_)
      · obtain ⟨hc', hf'⟩ := bcell hw'
        go_simp
        first | rfl | exact ⟨rfl, rfl⟩ | exact ⟨rfl⟩
      clear hK K
      refine wpQuiet_step (fun K hK => ?_)
      go_simp
      refine ⟨_, fun w' hw' => rfl, hK _ ?_⟩
      clear hK K
      refine wpQuiet_step (fun K hK => ?_)
      go_simp
      apply Exists.intro
      refine And.intro (fun w' hw' => ?_) (hK _ ?_)
      · refine (((unhide HSM) ▸ hasPlace_any (d.L i).key d.m _ hdm)).mono ?_
        rintro e w'' ⟨rfl, hb⟩
        exact ⟨rfl, hw'.trans (hb.mono hw'.size)⟩
      clear hK K
      refine wpQuiet_step (fun K hK => ?_)
      go_simp
      refine ⟨_, fun w' hw' => rfl, hK _ ?_⟩
      clear hK K
      refine wpQuiet_nil ?_
      intro w2 hw2
      gi_wp2
      exact HdI.below ⟨v, unhide HP, unhide HOW, unhide HKP, unhide HBW⟩ hw2 (unhide HL') (by omega) (Nat.le_refl _)
    · have HSM := hide (tells_no hs)
      have HNS := hide hs
      clear hs
      gi_wp2_with fail
      refine wpIn_region_quiet (C := fun w' => Below W.heap.size W w') (by kernel_rfl) (by kernel_rfl) (by kernel_rfl) ((Below.refl _ _).drew) ?_
      show wpQuiet _ _ _ _ [_, _, _, _, _, _, _, _, _, _, _, _] _
      refine wpQuiet_step (fun K hK => ?_)
      go_simp
      refine ⟨_, fun w' hw' => rfl, hK _ ?_⟩
      clear hK K
      refine wpQuiet_step (fun K hK => ?_)
      go_simp
      refine ⟨_, fun w' hw' => rfl, hK _ ?_⟩
      clear hK K
      refine wpQuiet_step (fun K hK => ?_)
      go_simp
      refine ⟨_, fun w' hw' => rfl, hK _ ?_⟩
      clear hK K
      refine wpQuiet_step (fun K hK => ?_)
      go_simp
      refine ⟨_, fun w' hw' => rfl, hK _ ?_⟩
      clear hK K
      refine wpQuiet_step (fun K hK => ?_)
      go_simp
      apply Exists.intro
      refine And.intro (fun w' hw' => ?_) (hK _ ?_)
      · obtain ⟨hc', hf'⟩ := bcell hw'
        go_simp
        first | rfl | exact ⟨rfl, rfl⟩ | exact ⟨rfl⟩
      clear hK K
      refine wpQuiet_step (fun K hK => ?_)
      go_simp
      apply Exists.intro
      refine And.intro (fun w' hw' => ?_) (hK _ ?_)
      · obtain ⟨hc', hf'⟩ := bcell hw'
        go_simp
        first | rfl | exact ⟨rfl, rfl⟩ | exact ⟨rfl⟩
      clear hK K
      refine wpQuiet_step (fun K hK => ?_)
      go_simp
      refine ⟨_, fun w' hw' => rfl, hK _ ?_⟩
      clear hK K
      refine wpQuiet_step (fun K hK => ?_)
      go_simp
      refine ⟨_, fun w' hw' => rfl, hK _ ?_⟩
      clear hK K
      refine wpQuiet_step (fun K hK => ?_)
      go_simp
      apply Exists.intro
      refine And.intro (fun w' hw' => ?_) (hK _ ?_)
      · obtain ⟨hc', hf'⟩ := bcell hw'
        go_simp
        first | rfl | exact ⟨rfl, rfl⟩ | exact ⟨rfl⟩
      clear hK K
      refine wpQuiet_step (fun K hK => ?_)
      go_simp
      refine ⟨_, fun w' hw' => rfl, hK _ ?_⟩
      clear hK K
      refine wpQuiet_step (fun K hK => ?_)
      go_simp
      apply Exists.intro
      refine And.intro (fun w' hw' => ?_) (hK _ ?_)
      · refine (((unhide HSM) ▸ hasPlace_any (d.L i).key d.m _ hdm)).mono ?_
        rintro e w'' ⟨rfl, hb⟩
        exact ⟨rfl, hw'.trans (hb.mono hw'.size)⟩
      clear hK K
      refine wpQuiet_step (fun K hK => ?_)
      go_simp
      refine ⟨_, fun w' hw' => rfl, hK _ ?_⟩
      clear hK K
      refine wpQuiet_nil ?_
      intro w2 hw2
      have x2 : w2.cell? ⟨w.heap.size + 1, 0, none⟩ = some v := (hw2.cell (p := ⟨w.heap.size + 1, 0, none⟩) hpl).trans ((unhide HP).cell (i := 0) (by omega))
      have hown2 : Rw w2 u.heap.size tEnt v (hlP d pre).length (eP E (hlP d pre)) := own_block (unhide HOW) hw2.size (fun q _ hq => hw2.block q hq)
      have z2 := hw2.size
      have hpl2 : w.heap.size + 1 < w2.heap.size := by omega
      have hle := unhide HLE
      have HAPP : Hid (∀ (o : Obj) (v3 : Value) (w3 : World), w3.ownsRow u.heap.size tEnt 1 v3 ((hlP d pre).length + 1) (ptL (eP E (hlP d pre)) (hlP d pre).length ++ [.pointer (some ⟨E i, 0, none⟩)]) → (w2.alloc o).grownBy w3 v.ownBlock → ∃ g3 cp3, v3 = .slice (some ⟨g3, 0, none⟩) ((hlP d pre).length + 1) cp3 ∧ (w3.cell? ⟨w.heap.size + 1, 0, none⟩ = some v ∧ w3.frozen? ⟨w.heap.size + 1, 0, none⟩ = false) ∧ KeepsOthers W (w3.setCell ⟨w.heap.size + 1, 0, none⟩ (.slice (some ⟨g3, 0, none⟩) ((hlP d pre).length + 1) cp3)) ∧ KpB (w.heap.size + 1) u.heap.size W (w3.setCell ⟨w.heap.size + 1, 0, none⟩ (.slice (some ⟨g3, 0, none⟩) ((hlP d pre).length + 1) cp3)) ∧ HdI w u (w.heap.size + 1) u.heap.size E d (pre ++ [⟨i, hi, ht⟩]) (w3.setCell ⟨w.heap.size + 1, 0, none⟩ (.slice (some ⟨g3, 0, none⟩) ((hlP d pre).length + 1) cp3))) := hide (fun o v3 w3 hown3 hgr3 => by
        obtain ⟨g3, cp3, rfl⟩ : ∃ g3 cp3, v3 = .slice (some ⟨g3, 0, none⟩) ((hlP d pre).length + 1) cp3 := by
          obtain ⟨_, ⟨_, h0⟩ | ⟨g, cap, cur, hv, _⟩⟩ := hown3
          · omega
          · exact ⟨g, cap, hv⟩
        exact ⟨g3, cp3, rfl, HdI.add (x := ⟨i, hi, ht⟩) (unhide HP) (unhide HOW) (unhide HKP) (unhide HBW) hw2 hown3 hgr3 (by omega) (Nat.le_refl _) (by omega) (unhide HNS)⟩)
      have HOW2 := hide hown2
      clear hown2 hw2
      gi_wp2_with (gi_at_builtin; refine wpListIn_append_own _ rfl _ _ 60 rfl u.heap.size tEnt i0 (.pointer none) 1 8 Tryd.underlying60 hi0 hz0 hz1 hz2 rfl (by decide) v (hlP d pre).length (ptL (eP E (hlP d pre)) (hlP d pre).length) rfl (World.ownsRow.alloc (unhide HOW2) _) ⟨w2.heap.size, 0, none⟩ 1 1 [.pointer (some ⟨E i, 0, none⟩)] rfl rfl (World.news_of_block (Deep.blk_alloc_new _ _)) (by simp [Value.oneCell']) (by unfold maxLen; omega) (by omega) (by simp; omega) ?_; intro v3 w3 hown3 hgr3 _; obtain ⟨g3, cp3, rfl, ⟨x3, f3⟩, HN3⟩ := unhide HAPP _ v3 w3 hown3 hgr3; clear hown3 hgr3)
      exact HN3
  case done =>
    rintro D ys W hD hlv ⟨v, hp, hown, hkp, hbw⟩ hK
    have hlv' : ys.map (·.1) = livL d d.n := hlv
    rw [hlP_all hlv'] at hown
    obtain ⟨va, vc, rfl⟩ := hown.slice
    have x0 := hp.cell (i := 0) (by omega)
    have zW := hkp.size
    have cb : W.cell? ⟨w.heap.size, 0, none⟩ = some (.pointer (some ⟨bk, 0, none⟩)) := (World.cell?_of_block (a := ⟨w.heap.size, 0, none⟩) (hkp.block w.heap.size (by omega) (by omega))).trans b0
    have hln := unhide HL
    have hmem : ∀ q ∈ hldL d d.n, q < d.n ∧ (d.L q).turn ≠ 0 ∧ ¬ smallK d.m (d.L q).key := fun q hq => mem_hldL hq
    have HMEM := hide hmem
    have HMW := hide ((unhide HM).below hbw)
    have HBW := hide hbw
    have HOW := hide hown
    have hsl := sizeX_le hln
    have hsr := sizeX_room hln
    have lW : w.heap.size < W.heap.size := by omega
    have lW1 : w.heap.size + 1 < W.heap.size := by omega
    have lb : bk < W.heap.size := by omega
    have hrow : ∀ q, (Value.slice va (hldL d d.n).length vc).ownBlock = some q → u.heap.size ≤ q ∧ q < W.heap.size := fun q e => hown.lt q e
    have HROW := hide hrow
    generalize hHH : hldL d d.n = H at *
    have HHH := hide hHH
    clear hHH
    have hw1 : IntKind.i64.wrap ((H.length : Int) + (g : Int)) = (H.length : Int) + (g : Int) := by rw [IntKind.wrap_i64]; omega
    clear hlv hlv' hp hown hkp hbw hmem hrow mb0 b0 c1u hMu hBu hpu hRp hEp bu
    have HIS : Hid (∀ W', Calls Tryd.prog 70 #[.int .i64 ((H.length : Int) + (g : Int))] W' fun e w' => e = .returned (.int .i64 (sizeX (H.length + g) : Nat)) ∧ Below W'.heap.size W' w') := hide (fun W' => by
      have h1 := indexSize_any (H.length + g) W' hln
      rw [Int.natCast_add] at h1
      exact h1)
    gi_wp2_with fail
    refine wpInW_held (HeldR w.heap.size bk (w.heap.size + 1) (.slice va H.length vc)) (by kernel_rfl) ?_
    change wpAnyH _ _ _ _ _ _ _ _ (World.drew _)
    have hS0 : HeldR w.heap.size bk (w.heap.size + 1) (.slice va H.length vc) W.drew := ⟨cb, x0⟩
    refine tk 0 (v := ?_) rfl (by kernel_rfl) (by rfl) ?_ (by assumption) ?_
    rotate_left
    · intro w' ⟨s0, s1⟩; go_simp; first | done | with_reducible rfl
    simp only [Act.put, List.setIfInBounds_toArray, List.set_cons_succ, List.set_cons_zero]
    refine tk 1 (v := ?_) rfl (by kernel_rfl) (by rfl) ?_ (by assumption) ?_
    rotate_left
    · intro w' ⟨s0, s1⟩; go_simp; first | done | with_reducible rfl
    simp only [Act.put, List.setIfInBounds_toArray, List.set_cons_succ, List.set_cons_zero]
    refine tk 2 (v := ?_) rfl (by kernel_rfl) (by rfl) ?_ (by assumption) ?_
    rotate_left
    · intro w' ⟨s0, s1⟩; go_simp; first | done | with_reducible rfl
    simp only [Act.put, List.setIfInBounds_toArray, List.set_cons_succ, List.set_cons_zero]
    refine tk 3 (v := ?_) rfl (by kernel_rfl) (by rfl) ?_ (by assumption) ?_
    rotate_left
    · intro w' ⟨s0, s1⟩; go_simp; first | done | with_reducible rfl
    simp only [Act.put, List.setIfInBounds_toArray, List.set_cons_succ, List.set_cons_zero]
    refine tk 4 (v := ?_) rfl (by kernel_rfl) (by rfl) ?_ (by assumption) ?_
    rotate_left
    · intro w' ⟨s0, s1⟩; go_simp; first | done | with_reducible rfl
    simp only [Act.put, List.setIfInBounds_toArray, List.set_cons_succ, List.set_cons_zero]
    refine tk 5 (v := ?_) rfl (by kernel_rfl) (by rfl) ?_ (by assumption) ?_
    rotate_left
    · intro w' ⟨s0, s1⟩; go_simp; first | done | with_reducible rfl
    simp only [Act.put, List.setIfInBounds_toArray, List.set_cons_succ, List.set_cons_zero]
    refine tk 6 (v := ?_) rfl (by kernel_rfl) (by rfl) ?_ (by assumption) ?_
    rotate_left
    · intro w' ⟨s0, s1⟩; go_simp; first | done | with_reducible rfl
    simp only [Act.put, List.setIfInBounds_toArray, List.set_cons_succ, List.set_cons_zero]
    refine wpAnyH_ready (rs := [7]) (by kernel_rfl) (by simp) ?_
    refine AllReadyH.cons rfl (fun K hK => ?_) AllReadyH.nil
    go_simp
    refine (unhide HIS _).mono ?_
    rintro e w1 ⟨rfl, hb1⟩
    have hb1 : Below W.heap.size W w1 := (Below.refl W.heap.size W).drew.trans hb1
    have cb1 := (hb1.cell (p := ⟨w.heap.size, 0, none⟩) lW).trans cb
    have x1 := (hb1.cell (p := ⟨w.heap.size + 1, 0, none⟩) lW1).trans x0
    refine hK.out _ _ ⟨cb1, x1⟩ (fun hS1 => ?_)
    clear hK K hS0
    have z1 := hb1.size
    generalize hsx : sizeX (H.length + g) = sx at *
    have HSX := hide hsx
    clear hsx
    refine wpAnyH_ready (rs := [8]) (by kernel_rfl) (by simp) ?_
    refine AllReadyH.cons rfl (fun K hK => ?_) AllReadyH.nil
    go_simp
    refine (indexEmpty_kx bk r0 r1 R2 E S d sx w1 ((unhide HMW).below hb1) (by omega)).mono ?_
    rintro e w2 ⟨⟨⟨uu, rfl⟩, hM2⟩, hkx⟩
    have z2 := hkx.bel.size
    have cb2 := (World.cell?_of_block (a := ⟨w.heap.size, 0, none⟩) (hkx.blk w.heap.size (by omega) (by omega))).trans cb1
    have x2 := (World.cell?_of_block (a := ⟨w.heap.size + 1, 0, none⟩) (hkx.blk (w.heap.size + 1) (by omega) (by omega))).trans x1
    refine hK.out _ _ ⟨cb2, x2⟩ (fun hS2 => ?_)
    clear hK K hS1 cb1 x1 cb x0
    refine wpAnyH_done (by kernel_rfl) ?_ _
    refine QN.normal ?_
    have HKX : Hid (KX (fun b => b = bk) bk w w2) := hide (((KX.of_below (unhide HBW) (by omega)).trans (KX.of_below hb1 (by omega))).trans hkx)
    have HBLK : Hid (∀ b, b < W.heap.size → b ≠ bk → w2.heap[b]? = W.heap[b]?) := hide (fun b hb hne => (hkx.blk b (by omega) hne).trans (hb1.block b hb))
    have hDW : D < W.heap.size := (Array.getElem?_eq_some_iff.1 hK).1
    have hK2 : w2.heap[D]? = some (.deferred (some [])) := (unhide HBLK D (Array.getElem?_eq_some_iff.1 hK).1 (by omega)).trans hK
    have HM2 := hide hM2
    clear hb1 hM2 hkx hS2 hK
    gi_wp2
    gi_loopw [38] (fun i wr => ∃ (j : Nat) (S' : Nat → Nat), j ≤ H.length ∧ i = .int .i64 (j : Int) ∧ BMut wr bk r0 r1 w1.heap.size E S' (fillL hf d sx (H.take j)) ∧ KX (fun b => b = bk ∨ b = w1.heap.size) bk w2 wr) (fun i _ => H.length - (intOf i).toNat)
    case atStart => exact ⟨0, S, by omega, rfl, unhide HM2, KX.refl _ _ _⟩
    case round =>
      obtain ⟨j, S', hj, rfl, hMr, hkr⟩ := hrel
      by_cases hjn : j < H.length
      · obtain ⟨p, hp⟩ : ∃ p, p = H[j] := ⟨_, rfl⟩
        obtain ⟨hp1, hp2, hp3⟩ := unhide HMEM H[j] (List.getElem_mem hjn)
        rw [← hp] at hp1 hp2
        have hfo := fillL_ok (hf := hf) (d := d) (x := sx) (l := H.take j) (by simp; omega) (fun p hp => (unhide HMEM p (List.mem_of_mem_take hp)).1)
        rw [List.length_take, Nat.min_eq_left (by omega)] at hfo
        have hnx : fillL hf d sx (H.take (j + 1)) = enterD hf (fillL hf d sx (H.take j)) (d.L p).key p := by rw [← List.take_append_getElem hjn, fillL_snoc, ← hp]
        obtain ⟨gq, cq, eq, g1, g2, _, hqc, _⟩ := (unhide HOW).form (by omega)
        cases eq
        have hb := fun b (h : b < W.heap.size) (h' : b ≠ bk) => (hkr.blk b (by omega) (by rintro (e | e) <;> omega)).trans (unhide HBLK b h h')
        have rc : wr.cell? ⟨gq, j, none⟩ = some (.pointer (some ⟨E p, 0, none⟩)) := (World.cell?_of_block (a := ⟨gq, j, none⟩) (hb gq g2 (by omega))).trans (by rw [hqc j hjn, hp]; simp [eP, List.getD, hjn])
        have cbr : wr.cell? ⟨w.heap.size, 0, none⟩ = some (.pointer (some ⟨bk, 0, none⟩)) := (World.cell?_of_block (a := ⟨w.heap.size, 0, none⟩) (hkr.blk w.heap.size (by omega) (by rintro (e | e) <;> omega))).trans cb2
        have hen := hMr.ent p (by rw [hfo.n]; exact hp1)
        rw [hfo.L] at hen
        have hzr := hkr.bel.size
        have hlr := hen.lt
        have lgr : gq < wr.heap.size := by omega
        have lwr : w.heap.size < wr.heap.size := by omega
        have lbr : bk < wr.heap.size := by omega
        have HADD : Hid (Calls Tryd.prog 59 #[.pointer (some ⟨bk, 2, none⟩), V (d.L p).key.kind (d.L p).key.num (d.L p).key.flt (d.L p).key.str (d.L p).key.ref, .pointer (some ⟨E p, 0, none⟩)] wr.drew fun e w5 => (∃ u, e = .returned u) ∧ (∃ S5, BMut w5 bk r0 r1 w1.heap.size E S5 (fillL hf d sx (H.take (j + 1)))) ∧ KX (fun b => b = bk ∨ b = w1.heap.size) bk w2 w5 ∧ HeldK w.heap.size bk (E p) (d.L p).key w5) := hide (by
          have hux := hfo.use
          have huu := hfo.used
          refine (indexAdd_any T hTl bk r0 r1 w1.heap.size E S' _ (d.L p).key p (hf (d.L p).key) (unhide HH p hp1 hp2) wr.drew (hTb _ _ (unhide HT) (((unhide HKX).bel.trans hkr.bel).drew)) (hMr.below (Below.refl _ _).drew) ⟨by rw [hfo.n]; omega, by rw [hfo.m]; omega, by rw [hfo.x]; omega⟩ (fun q hq => by rw [hfo.x] at hq; have := hfo.pos q hq; omega) (by rw [hfo.L]) (by rw [hfo.x]; omega) (by omega) (by omega)).mono ?_
          rintro e w5 ⟨⟨hu, a5, S5, hfs, hN5⟩, hkx5⟩
          rw [← enterD_some hfs, ← hnx] at hN5
          have hk5 : KX (fun b => b = bk ∨ b = w1.heap.size) bk w2 w5 := hkr.trans (KX.trans ((KX.refl _ _ _).drew) hkx5)
          have hfo5 := fillL_ok (hf := hf) (d := d) (x := sx) (l := H.take (j + 1)) (by simp; omega) (fun p hp => (unhide HMEM p (List.mem_of_mem_take hp)).1)
          have hen5 := hN5.ent p (by rw [hfo5.n]; exact hp1)
          rw [hfo5.L] at hen5
          exact ⟨hu, ⟨S5, hN5⟩, hk5, (World.cell?_of_block (a := ⟨w.heap.size, 0, none⟩) (hk5.blk w.heap.size (by omega) (by rintro (e | e) <;> omega))).trans cb2, hen5.k0, hen5.k1, hen5.k2, hen5.k3, hen5.k4⟩)
        have hS0 : HeldK w.heap.size bk (E p) (d.L p).key wr.drew := ⟨cbr, hen.k0, hen.k1, hen.k2, hen.k3, hen.k4⟩
        clear hfo hnx hqc hb hen hMr hkr cbr hp
        gi_wp2_with fail
        refine wpInW_held (HeldK w.heap.size bk (E p) (d.L p).key) (by kernel_rfl) ?_
        change wpAnyH _ _ _ _ _ _ _ _ (World.drew _)
        refine tk 0 (v := ?_) rfl (by kernel_rfl) (by rfl) ?_ (by assumption) ?_
        rotate_left
        · intro w' ⟨s0, s1, s2, s3, s4, s5⟩; go_simp; first | done | with_reducible rfl
        simp only [Act.put, List.setIfInBounds_toArray, List.set_cons_succ, List.set_cons_zero]
        refine tk 1 (v := ?_) rfl (by kernel_rfl) (by rfl) ?_ (by assumption) ?_
        rotate_left
        · intro w' ⟨s0, s1, s2, s3, s4, s5⟩; go_simp; first | done | with_reducible rfl
        simp only [Act.put, List.setIfInBounds_toArray, List.set_cons_succ, List.set_cons_zero]
        refine tk 2 (v := ?_) rfl (by kernel_rfl) (by rfl) ?_ (by assumption) ?_
        rotate_left
        · intro w' ⟨s0, s1, s2, s3, s4, s5⟩; go_simp; first | done | with_reducible rfl
        simp only [Act.put, List.setIfInBounds_toArray, List.set_cons_succ, List.set_cons_zero]
        refine tk 3 (v := ?_) rfl (by kernel_rfl) (by rfl) ?_ (by assumption) ?_
        rotate_left
        · intro w' ⟨s0, s1, s2, s3, s4, s5⟩; go_simp; first | done | with_reducible rfl
        simp only [Act.put, List.setIfInBounds_toArray, List.set_cons_succ, List.set_cons_zero]
        refine tk 4 (v := ?_) rfl (by kernel_rfl) (by rfl) ?_ (by assumption) ?_
        rotate_left
        · intro w' ⟨s0, s1, s2, s3, s4, s5⟩; go_simp; first | done | with_reducible rfl
        simp only [Act.put, List.setIfInBounds_toArray, List.set_cons_succ, List.set_cons_zero]
        refine tk 5 (v := ?_) rfl (by kernel_rfl) (by rfl) ?_ (by assumption) ?_
        rotate_left
        · intro w' ⟨s0, s1, s2, s3, s4, s5⟩; go_simp; first | done | with_reducible rfl
        simp only [Act.put, List.setIfInBounds_toArray, List.set_cons_succ, List.set_cons_zero]
        refine tk 6 (v := ?_) rfl (by kernel_rfl) (by rfl) ?_ (by assumption) ?_
        rotate_left
        · intro w' ⟨s0, s1, s2, s3, s4, s5⟩; go_simp; first | done | with_reducible rfl
        simp only [Act.put, List.setIfInBounds_toArray, List.set_cons_succ, List.set_cons_zero]
        refine tk 7 (v := ?_) rfl (by kernel_rfl) (by rfl) ?_ (by assumption) ?_
        rotate_left
        · intro w' ⟨s0, s1, s2, s3, s4, s5⟩; go_simp; first | done | with_reducible rfl
        simp only [Act.put, List.setIfInBounds_toArray, List.set_cons_succ, List.set_cons_zero]
        refine tk 8 (v := ?_) rfl (by kernel_rfl) (by rfl) ?_ (by assumption) ?_
        rotate_left
        · intro w' ⟨s0, s1, s2, s3, s4, s5⟩; go_simp; first | done | with_reducible rfl
        simp only [Act.put, List.setIfInBounds_toArray, List.set_cons_succ, List.set_cons_zero]
        refine wpAnyH_ready (rs := [9]) (by kernel_rfl) (by simp) ?_
        refine AllReadyH.cons rfl (fun K hK => ?_) AllReadyH.nil
        go_simp
        refine (unhide HADD).mono ?_
        rintro e w5 ⟨⟨uu5, rfl⟩, ⟨S5, hM5⟩, hk5, hS5⟩
        refine hK.out _ _ hS5 (fun _ => ?_)
        clear hK K hS0 HADD hS5
        refine wpAnyH_done (by kernel_rfl) ?_ _
        refine QN.normal ?_
        have HM5 := hide hM5
        have HK5 := hide hk5
        clear hM5 hk5
        gi_wp2
        go_roundw
        case rel => exact ⟨j + 1, S5, by omega, by go_num, unhide HM5, unhide HK5⟩
        case measure => simp [intOf]; omega
      · have hj' : j = H.length := by omega
        subst hj'
        rw [List.take_length] at hMr
        have hKr : wr.heap[D]? = some (.deferred (some [])) := (hkr.blk D (by omega) (by rintro (e | e) <;> omega)).trans hK2
        have HMr := hide hMr
        have HKr : Hid (KX (fun b => b = bk) bk w wr) := hide ⟨(unhide HKX).bel.trans hkr.bel, fun b hb hm => (hkr.blk b (by have := (unhide HKX).bel.size; omega) (by rintro (e | e); exact hm e; omega)).trans ((unhide HKX).blk b hb hm)⟩
        clear hMr hkr
        gi_wp2
        refine ⟨by simp, .inl ⟨_, _, rfl, run_takeDeferred hKr, ?_⟩⟩
        have hg := grownBy_putObj' wr D (.deferred none)
        exact ⟨_, results_none rfl _ _ _, ⟨⟨_, rfl⟩, w1.heap.size, S', by rw [unhide HHH, unhide HSX]; exact (unhide HMr).grown hg (fun r e => by cases e; exact ⟨_, hKr, rfl⟩), by omega⟩, (unhide HKr).grown hg (by omega) (fun k e => by cases e; exact .inl (by omega))⟩
end Go.Proofs.YtglcaejddckleaaDoor
namespace Go.Proofs.YtglcaejddckleaaDoor
open Go.RowKit Go.Shelf
set_option linter.unusedVariables false
attribute [local go_sem] run_store_float run_equalIn_float Oper.semAt_some

theorem ECell.of_ob {w : World} {b : Nat} {p : Pr} {i : Nat} (h : w.heap[b]? = some (.cells (entA p i) 57 (0, 0))) : ECell w b p i :=
  ⟨(Array.getElem?_eq_some_iff.1 h).1, by simp [World.cell?, h, entA], by simp [World.cell?, h, entA], by simp [World.cell?, h, entA], by simp [World.cell?, h, entA], by simp [World.cell?, h, entA], by simp [World.cell?, h, entA], by simp [World.cell?, h, entA], by simp [World.cell?, h, entA], by simp [World.cell?, h, entA], by simp [World.cell?, h, entA], by simp [World.cell?, h, entA], by simp [World.cell?, h, entA], h⟩
theorem ECell.setPlace {w : World} {b : Nat} {p : Pr} {i : Nat} (h : ECell w b p i) (j : Nat) : ECell (w.setCell ⟨b, 11, none⟩ (.int .i64 (j : Int))) b p j :=
  ECell.of_ob ((heap_setCell_same w b 11 _ _ _ h.ob).trans (by simp [entA]))

/-- All blocks below n0 but p and the entries lie as they lay; of the entries all but the places. -/
structure KpE (p n0 : Nat) (E : Nat → Nat) (n : Nat) (A B : World) : Prop where
  size : A.heap.size ≤ B.heap.size
  block : ∀ b, b < n0 → b ≠ p → (∀ i, i < n → E i ≠ b) → B.heap[b]? = A.heap[b]?
  ent : ∀ i q, i < n → q ≠ 11 → B.cell? ⟨E i, q, none⟩ = A.cell? ⟨E i, q, none⟩
theorem KpE.refl (p n0 : Nat) (E : Nat → Nat) (n : Nat) (A : World) : KpE p n0 E n A A := ⟨Nat.le_refl _, fun _ _ _ _ => rfl, fun _ _ _ _ => rfl⟩
theorem KpE.trans {p n0 : Nat} {E : Nat → Nat} {n : Nat} {A B C : World} (h : KpE p n0 E n A B) (k : KpE p n0 E n B C) : KpE p n0 E n A C := ⟨Nat.le_trans h.size k.size, fun b h1 h2 h3 => (k.block b h1 h2 h3).trans (h.block b h1 h2 h3), fun i q h1 h2 => (k.ent i q h1 h2).trans (h.ent i q h1 h2)⟩
theorem KpE.of_below {p n0 : Nat} {E : Nat → Nat} {n : Nat} {A B : World} (h : Below n0 A B) (hE : ∀ i, i < n → E i < n0) : KpE p n0 E n A B := ⟨h.size, fun b h1 _ _ => h.block b h1, fun i q h1 _ => h.cell (p := ⟨E i, q, none⟩) (hE i h1)⟩
theorem KpE.put {p n0 : Nat} {E : Nat → Nat} {n : Nat} {w : World} (hn : n0 ≤ w.heap.size) (hE : ∀ i, i < n → E i < n0) (W : World) (l : Nat) (o o' : Obj) (hl : w.heap.size ≤ l) (h : W.heap[l]? = some o) (_ : o.isCells = false) (_ : o.isWalk = false) : KpE p n0 E n W (W.putObj l o') :=
  KpE.of_below ((Below.refl n0 W).grown (grownBy_putObj' W l o') (by have := (Array.getElem?_eq_some_iff.1 h).1; omega) (fun k e => by cases e; omega)) hE

set_option maxRecDepth 100000 in
set_option maxHeartbeats 2000000 in
theorem living_stopsE (n : Nat) (hn : 1 ≤ n) (bk R0 R1 R2 mb p n0 : Nat) (E S : Nat → Nat) (d : Dc) (w : World) (hB : Book w bk R0 R1 R2 E S d) (hS : Small d) (hR : 0 < d.n → R0 < n0 ∧ R0 ≠ p ∧ ∀ i, i < d.n → E i ≠ R0)
    (m0 : w.cell? ⟨mb, 0, none⟩ = some (.pointer (some ⟨bk, 0, none⟩))) :
    SeqStopsK Fence.wide n Tryd.prog 36 #[.pointer (some ⟨mb, 0, none⟩)] (fun a : Liv d => #[.pointer (some ⟨E a.1, 0, none⟩)]) (KpE p n0 E d.n)
      (LvAll d) (LvPre d) d.n w := fun l J Jx W hW hJ hJx hY h0 => by
  have lm := World.block_lt_of_cell? _ _ m0
  have m0 := (hW.cell (p := ⟨mb, 0, none⟩) lm).trans m0
  have hBk := hB.below hW
  obtain ⟨a0, k0, c0, ha0⟩ := hBk.c0
  have HA0 := hide ha0
  clear ha0
  have lb := hBk.lt
  have hnn := hS.n
  have HY := hide hY
  have H0 := hide h0
  have HBk := hide hBk
  clear hJx hJ hY hW h0 hBk hB hS
  refine callsIn_of_wp Tryd.func36 rfl trivial ?_ rfl
  simp only [Tryd.ntmps36, List.size_toArray, List.length_cons, List.length_nil, Nat.reduceAdd, Nat.reduceSub, Array.replicate_succ, Array.replicate_zero, List.push_toArray, List.append_toArray, List.nil_append, List.cons_append]
  gi_wp2
  gi_loopw [10] (fun i wr => ∃ (k : Nat) (pre : List (Liv d)), k ≤ d.n ∧ i = .int .i64 (k : Int) ∧ LvTo d k pre ∧ J pre wr ∧ KpE p n0 E d.n W wr) (fun i _ => d.n - (intOf i).toNat)
  case atStart => exact ⟨0, [], by omega, rfl, rfl, unhide H0, KpE.refl _ _ _ _ _⟩
  case round =>
    obtain ⟨k, pre, hk, rfl, hlv, hJp, hbw⟩ := hrel
    by_cases hkn : k < d.n
    · obtain rfl := unhide HA0 (by omega)
      have hR' := hR (by omega)
      have p0 := (World.cell?_of_block (a := ⟨R0, k, none⟩) (hbw.block _ hR'.1 hR'.2.1 hR'.2.2)).trans ((unhide HBk).r0 k hkn)
      have t0 := (hbw.ent k 10 hkn (by decide)).trans ((unhide HBk).ent k hkn).tn
      have HLV := hide hlv
      have HBW := hide hbw
      clear hlv hbw hR'
      by_cases ht : (d.L k).turn = 0
      · have HN : Hid (LvTo d (k + 1) pre) := hide (by unfold LvTo; rw [livL_dead ht]; exact unhide HLV)
        rw [ht] at t0
        clear ht
        gi_wp2
        refine ⟨fun _ h => (by cases h), ?_⟩
        gi_wp2
        go_roundw
        case rel => exact ⟨k + 1, pre, by omega, by go_num, unhide HN, hJp, unhide HBW⟩
        case measure => simp [intOf]; omega
      · have ht' : ((d.L k).turn != 0) = true := by simp [ht]
        obtain ⟨fn, tmps, assign, body, hy, hRR⟩ := unhide HY pre ⟨k, hkn, ht⟩ wr hJp (by
          have h1 : (pre.map (·.1)).length = (livL d k).length := congrArg List.length (unhide HLV)
          rw [List.length_map] at h1
          have := livL_le d k
          omega)
        have HN : Hid (LvTo d (k + 1) (pre ++ [⟨k, hkn, ht⟩])) := hide (by
          unfold LvTo
          rw [livL_live ht, List.map_append, show pre.map (·.1) = livL d k from unhide HLV]
          rfl)
        have HR := hide hRR
        clear hRR hJp
        dsimp only at hy
        gi_wp2
        refine (unhide HR).mono ?_
        rintro e W3 (⟨rfl, hJ3, hk3⟩ | ⟨rfl, hJx3⟩)
        · clear HR hy
          gi_wp2
          go_roundw
          case rel => exact ⟨k + 1, _, by omega, by go_num, unhide HN, hJ3, (unhide HBW).trans hk3⟩
          case measure => simp [intOf]; omega
        · clear HR hy
          gi_wp2
          refine bodyPost_ret (results_none rfl _ _ _) rfl ?_
          exact ⟨⟨_, rfl⟩, .inr ⟨_, (unhide HN).pre (by omega), hJx3⟩⟩
    · have hkn' : k = d.n := by omega
      subst hkn'
      have HS := hide hlv
      clear hlv
      gi_wp2
      go_end0
      exact ⟨⟨_, rfl⟩, .inl ⟨pre, unhide HS, hJp⟩⟩
end Go.Proofs.YtglcaejddckleaaDoor
namespace Go.Proofs.YtglcaejddckleaaDoor
open Go.RowKit
set_option linter.unusedVariables false
attribute [local go_sem] run_store_float run_equalIn_float

/-- Room for one more key. -/
noncomputable def roomB (hf : Vl → Nat) (d : Dc) : Dc := if (d.x : Int) < 2 * (d.used + 1) then fillL hf d (sizeX ((hldL d d.n).length + 1)) (hldL d d.n) else d
def HeldE (e : Nat) (k : Vl) (W : World) : Prop := W.cell? ⟨e, 0, none⟩ = some (.int .i64 k.kind) ∧ W.cell? ⟨e, 1, none⟩ = some (.int .i64 k.num) ∧ W.cell? ⟨e, 2, none⟩ = some (.float .f64 k.flt) ∧ W.cell? ⟨e, 3, none⟩ = some (.string k.str) ∧ W.cell? ⟨e, 4, none⟩ = some (.int .i64 k.ref)

set_option maxRecDepth 100000 in
set_option maxHeartbeats 4000000 in
theorem addToIndex_any (T : World → Prop) (hTl : Lasts T) (hf : Vl → Nat) (bk : Nat) (hTb : ∀ w w', T w → Below bk w w' → T w') (r0 r1 : Value) (R2 : Nat) (E S : Nat → Nat) (d : Dc) (w : World) (hT : T w) (hM : BMut w bk r0 r1 R2 E S d) (hS : Small d)
    (hH : ∀ i, i < d.n → (d.L i).turn ≠ 0 → HsI T (d.L i).key (hf (d.L i).key)) (hlen : (hldL d d.n).length + 1 ≤ 500) (he : ECell w (E d.n) (d.L d.n) d.n) (heb : bk < E d.n) (hk : HsI T (d.L d.n).key (hf (d.L d.n).key))
    (hX : ∀ j, j < d.x → d.X j = 0 ∨ d.X j = -1 ∨ 0 < d.X j) (hu : (useN d.X d.x : Int) = d.used) :
    Calls Tryd.prog 47 #[.pointer (some ⟨bk, 0, none⟩), .pointer (some ⟨E d.n, 0, none⟩)] w fun e w' => ((∃ u, e = .returned u) ∧ ∃ R2' S', BMut w' bk r0 r1 R2' E S' (enterD hf (roomB hf d) (d.L d.n).key d.n)) ∧ KX (fun b => b = bk ∨ b = R2) bk w w' := by
  have hlt := hM.lt
  have c3 := hM.c3
  have c4 := hM.c4
  have hx := hS.x
  have hul : useN d.X d.x ≤ d.x := useN_le _ _
  have hw1 : IntKind.i64.wrap (d.used + 1) = d.used + 1 := by rw [IntKind.wrap_i64]; omega
  have hw2 : IntKind.i64.wrap (2 * (d.used + 1)) = 2 * (d.used + 1) := by rw [IntKind.wrap_i64]; omega
  obtain ⟨c2, hbR⟩ := hM.slots.block (b := R2) rfl
  have heR : E d.n ≠ R2 := fun e => type_apart (e ▸ he.ob) hbR (by decide)
  have hR2 := hM.r2_lt
  -- the adding itself, over a book with room
  have ADD : ∀ (W : World) (Q2 : Nat) (S2 : Nat → Nat) (c : Dc), BMut W bk r0 r1 Q2 E S2 c → Small c → T W → ECell W (E d.n) (d.L d.n) d.n → c.n = d.n → c.L = d.L → (∀ j, j < c.x → c.X j = 0 ∨ c.X j = -1 ∨ 0 < c.X j) → useN c.X c.x < c.x → 0 ≤ c.used → c.used ≤ 4194304 →
      Calls Tryd.prog 59 #[.pointer (some ⟨bk, 2, none⟩), V (d.L d.n).key.kind (d.L d.n).key.num (d.L d.n).key.flt (d.L d.n).key.str (d.L d.n).key.ref, .pointer (some ⟨E d.n, 0, none⟩)] W fun e w' => ((∃ u, e = .returned u) ∧ ∃ S', BMut w' bk r0 r1 Q2 E S' (enterD hf c (d.L d.n).key d.n)) ∧ KX (fun b => b = bk ∨ b = Q2) bk W w' := fun W Q2 S2 c h1 h2 h3 h4 h5 h6 h7 h8 h9 h10 => by
    refine (indexAdd_any T hTl bk r0 r1 Q2 E S2 c (d.L d.n).key d.n (hf (d.L d.n).key) hk W h3 h1 h2 h7 (by rw [h6]) h8 h9 h10).mono ?_
    rintro e w' ⟨⟨hr, a, S', hfs, hN⟩, hkx⟩
    refine ⟨⟨hr, S', ?_⟩, hkx⟩
    rw [enterD_some hfs]
    exact hN
  by_cases hr : (d.x : Int) < 2 * (d.used + 1)
  · have hd : decide ((d.x : Int) < 2 * (d.used + 1)) = true := by simpa using hr
    have HR : Hid (roomB hf d = fillL hf d (sizeX ((hldL d d.n).length + 1)) (hldL d d.n)) := hide (if_pos hr)
    have hsl := sizeX_le hlen
    have hsr := sizeX_room hlen
    have hfl := fillL_ok (hf := hf) (d := d) (x := sizeX ((hldL d d.n).length + 1)) (l := hldL d d.n) (by omega) (fun p hp => (mem_hldL hp).1)
    have HREM : Hid (∀ W, Below w.heap.size w W → Calls Tryd.prog 58 #[.pointer (some ⟨bk, 0, none⟩), .int .i64 1] W fun e w' => ((∃ u, e = .returned u) ∧ ∃ R2' S', BMut w' bk r0 r1 R2' E S' (fillL hf d (sizeX ((hldL d d.n).length + 1)) (hldL d d.n)) ∧ W.heap.size ≤ R2') ∧ KX (fun b => b = bk) bk W w') := hide (fun W hW => remakeIndex_any T hTl hf bk hTb r0 r1 R2 E S d 1 W (hTl _ _ hT hW) (hM.below hW) hS hH hlen)
    generalize fillL hf d (sizeX ((hldL d d.n).length + 1)) (hldL d d.n) = c at *
    have HADD := hide ADD
    have HE := hide he
    have HT := hide hT
    have HFL := hide hfl
    have HS := hide hS
    have HH := hide hH
    have hel := he.lt
    clear ADD he hM hT hfl hS hH hX hu hul hbR hr
    go_enter Tryd.func47, Tryd.ntmps47
    go_wp2_with fail
    go_region
    go_wp2_with fail
    refine (unhide HREM _ (Below.refl _ _).drew).mono ?_
    rintro e w1 ⟨⟨⟨uu, rfl⟩, Q2, S1, hM1, hQ2⟩, hkx1⟩
    have hkx1 : KX (fun b => b = bk) bk w w1 := (KX.refl _ _ _).drew.trans hkx1
    have hQ2 : w.heap.size ≤ Q2 := hQ2
    have z1 := hkx1.bel.size
    have hE1 : ECell w1 (E d.n) (d.L d.n) d.n := (unhide HE).keep z1 (hkx1.blk _ hel (by omega))
    have hS0 : HeldE (E d.n) (d.L d.n).key w1.drew := ⟨hE1.k0, hE1.k1, hE1.k2, hE1.k3, hE1.k4⟩
    have HADD1 : Hid (Calls Tryd.prog 59 #[.pointer (some ⟨bk, 2, none⟩), V (d.L d.n).key.kind (d.L d.n).key.num (d.L d.n).key.flt (d.L d.n).key.str (d.L d.n).key.ref, .pointer (some ⟨E d.n, 0, none⟩)] w1.drew fun e w' => ((∃ u, e = .returned u) ∧ ∃ S', BMut w' bk r0 r1 Q2 E S' (enterD hf c (d.L d.n).key d.n)) ∧ HeldE (E d.n) (d.L d.n).key w' ∧ KX (fun b => b = bk ∨ b = R2) bk w w') := hide (by
      have hfo := unhide HFL
      have hux := hfo.use
      have huu := hfo.used
      have hSm := unhide HS
      refine (unhide HADD w1.drew Q2 S1 c (hM1.below (Below.refl _ _).drew) ⟨by rw [hfo.n]; exact hSm.n, by rw [hfo.m]; exact hSm.m, by rw [hfo.x]; omega⟩ (hTb _ _ (unhide HT) hkx1.bel.drew) (hE1.keep (Nat.le_refl _) rfl) hfo.n hfo.L (fun j hj => by rw [hfo.x] at hj; have := hfo.pos j hj; omega) (by rw [hfo.x]; omega) (by omega) (by omega)).mono ?_
      rintro e w' ⟨h1, h2⟩
      have h3 := h2.blk (E d.n) hE1.lt (by rintro (e | e) <;> omega)
      have hE2 := hE1.keep h2.bel.size h3
      exact ⟨h1, ⟨hE2.k0, hE2.k1, hE2.k2, hE2.k3, hE2.k4⟩, hkx1.bel.trans (Below.trans (Below.refl _ _).drew h2.bel), fun b hb hm => (h2.blk b (by show b < w1.heap.size; omega) (by rintro (e | e); exact hm (.inl e); omega)).trans (hkx1.blk b hb (fun e => hm (.inl e)))⟩)
    clear hM1 hkx1 hE1 HREM
    go_wp2_with fail
    refine wpN_held (HeldE (E d.n) (d.L d.n).key) (by kernel_rfl) ?_
    change wpAnyH _ _ _ _ _ _ _ _ (World.drew _)
    refine tk 0 (v := ?_) rfl (by kernel_rfl) (by rfl) ?_ (by assumption) ?_
    rotate_left
    · intro w' ⟨s0, s1, s2, s3, s4⟩; go_simp; first | done | with_reducible rfl
    simp only [Act.put, List.setIfInBounds_toArray, List.set_cons_succ, List.set_cons_zero]
    refine tk 1 (v := ?_) rfl (by kernel_rfl) (by rfl) ?_ (by assumption) ?_
    rotate_left
    · intro w' ⟨s0, s1, s2, s3, s4⟩; go_simp; first | done | with_reducible rfl
    simp only [Act.put, List.setIfInBounds_toArray, List.set_cons_succ, List.set_cons_zero]
    refine tk 2 (v := ?_) rfl (by kernel_rfl) (by rfl) ?_ (by assumption) ?_
    rotate_left
    · intro w' ⟨s0, s1, s2, s3, s4⟩; go_simp; first | done | with_reducible rfl
    simp only [Act.put, List.setIfInBounds_toArray, List.set_cons_succ, List.set_cons_zero]
    refine tk 3 (v := ?_) rfl (by kernel_rfl) (by rfl) ?_ (by assumption) ?_
    rotate_left
    · intro w' ⟨s0, s1, s2, s3, s4⟩; go_simp; first | done | with_reducible rfl
    simp only [Act.put, List.setIfInBounds_toArray, List.set_cons_succ, List.set_cons_zero]
    refine tk 4 (v := ?_) rfl (by kernel_rfl) (by rfl) ?_ (by assumption) ?_
    rotate_left
    · intro w' ⟨s0, s1, s2, s3, s4⟩; go_simp; first | done | with_reducible rfl
    simp only [Act.put, List.setIfInBounds_toArray, List.set_cons_succ, List.set_cons_zero]
    refine tk 5 (v := ?_) rfl (by kernel_rfl) (by rfl) ?_ (by assumption) ?_
    rotate_left
    · intro w' ⟨s0, s1, s2, s3, s4⟩; go_simp; first | done | with_reducible rfl
    simp only [Act.put, List.setIfInBounds_toArray, List.set_cons_succ, List.set_cons_zero]
    refine tk 6 (v := ?_) rfl (by kernel_rfl) (by rfl) ?_ (by assumption) ?_
    rotate_left
    · intro w' ⟨s0, s1, s2, s3, s4⟩; go_simp; first | done | with_reducible rfl
    simp only [Act.put, List.setIfInBounds_toArray, List.set_cons_succ, List.set_cons_zero]
    refine tk 7 (v := ?_) rfl (by kernel_rfl) (by rfl) ?_ (by assumption) ?_
    rotate_left
    · intro w' ⟨s0, s1, s2, s3, s4⟩; go_simp; first | done | with_reducible rfl
    simp only [Act.put, List.setIfInBounds_toArray, List.set_cons_succ, List.set_cons_zero]
    refine tk 8 (v := ?_) rfl (by kernel_rfl) (by rfl) ?_ (by assumption) ?_
    rotate_left
    · intro w' ⟨s0, s1, s2, s3, s4⟩; go_simp; first | done | with_reducible rfl
    simp only [Act.put, List.setIfInBounds_toArray, List.set_cons_succ, List.set_cons_zero]
    refine wpAnyH_ready (rs := [9]) (by kernel_rfl) (by simp) ?_
    refine AllReadyH.cons rfl (fun K hK => ?_) AllReadyH.nil
    go_simp
    refine (unhide HADD1).mono ?_
    rintro e w2 ⟨⟨⟨uu2, rfl⟩, S2, hM2⟩, hS2, hkx2⟩
    refine hK.out _ _ hS2 (fun _ => ?_)
    clear hK K hS0 HADD1 hS2
    refine wpAnyH_done (by kernel_rfl) ?_ _
    refine QN.normal ?_
    go_wp2
    go_end0
    exact ⟨⟨⟨_, rfl⟩, Q2, S2, by rw [unhide HR]; exact hM2⟩, hkx2⟩
  · have hd : decide ((d.x : Int) < 2 * (d.used + 1)) = false := by simpa using hr
    have HR : Hid (roomB hf d = d) := hide (if_neg hr)
    have hel := he.lt
    have hS0 : HeldE (E d.n) (d.L d.n).key w.drew.drew := ⟨he.k0, he.k1, he.k2, he.k3, he.k4⟩
    have HADD1 : Hid (Calls Tryd.prog 59 #[.pointer (some ⟨bk, 2, none⟩), V (d.L d.n).key.kind (d.L d.n).key.num (d.L d.n).key.flt (d.L d.n).key.str (d.L d.n).key.ref, .pointer (some ⟨E d.n, 0, none⟩)] w.drew.drew fun e w' => ((∃ u, e = .returned u) ∧ ∃ S', BMut w' bk r0 r1 R2 E S' (enterD hf d (d.L d.n).key d.n)) ∧ HeldE (E d.n) (d.L d.n).key w' ∧ KX (fun b => b = bk ∨ b = R2) bk w w') := hide (by
      refine (ADD w.drew.drew R2 S d (hM.below (Below.refl _ _).drew.drew) hS (hTb _ _ hT (Below.refl _ _).drew.drew) (he.keep (Nat.le_refl _) rfl) rfl rfl hX (by omega) (by omega) (by omega)).mono ?_
      rintro e w' ⟨h1, h2⟩
      have h3 := h2.blk (E d.n) hel (by rintro (e | e) <;> omega)
      have hE2 := he.keep h2.bel.size h3
      exact ⟨h1, ⟨hE2.k0, hE2.k1, hE2.k2, hE2.k3, hE2.k4⟩, KX.trans ((KX.refl _ _ _).drew.drew) h2⟩)
    clear hM hS hT hH he ADD hk hX hu hul hbR hr
    go_enter Tryd.func47, Tryd.ntmps47
    go_wp2_with fail
    go_region
    go_wp2_with fail
    refine wpN_held (HeldE (E d.n) (d.L d.n).key) (by kernel_rfl) ?_
    change wpAnyH _ _ _ _ _ _ _ _ (World.drew _)
    refine tk 0 (v := ?_) rfl (by kernel_rfl) (by rfl) ?_ (by assumption) ?_
    rotate_left
    · intro w' ⟨s0, s1, s2, s3, s4⟩; go_simp; first | done | with_reducible rfl
    simp only [Act.put, List.setIfInBounds_toArray, List.set_cons_succ, List.set_cons_zero]
    refine tk 1 (v := ?_) rfl (by kernel_rfl) (by rfl) ?_ (by assumption) ?_
    rotate_left
    · intro w' ⟨s0, s1, s2, s3, s4⟩; go_simp; first | done | with_reducible rfl
    simp only [Act.put, List.setIfInBounds_toArray, List.set_cons_succ, List.set_cons_zero]
    refine tk 2 (v := ?_) rfl (by kernel_rfl) (by rfl) ?_ (by assumption) ?_
    rotate_left
    · intro w' ⟨s0, s1, s2, s3, s4⟩; go_simp; first | done | with_reducible rfl
    simp only [Act.put, List.setIfInBounds_toArray, List.set_cons_succ, List.set_cons_zero]
    refine tk 3 (v := ?_) rfl (by kernel_rfl) (by rfl) ?_ (by assumption) ?_
    rotate_left
    · intro w' ⟨s0, s1, s2, s3, s4⟩; go_simp; first | done | with_reducible rfl
    simp only [Act.put, List.setIfInBounds_toArray, List.set_cons_succ, List.set_cons_zero]
    refine tk 4 (v := ?_) rfl (by kernel_rfl) (by rfl) ?_ (by assumption) ?_
    rotate_left
    · intro w' ⟨s0, s1, s2, s3, s4⟩; go_simp; first | done | with_reducible rfl
    simp only [Act.put, List.setIfInBounds_toArray, List.set_cons_succ, List.set_cons_zero]
    refine tk 5 (v := ?_) rfl (by kernel_rfl) (by rfl) ?_ (by assumption) ?_
    rotate_left
    · intro w' ⟨s0, s1, s2, s3, s4⟩; go_simp; first | done | with_reducible rfl
    simp only [Act.put, List.setIfInBounds_toArray, List.set_cons_succ, List.set_cons_zero]
    refine tk 6 (v := ?_) rfl (by kernel_rfl) (by rfl) ?_ (by assumption) ?_
    rotate_left
    · intro w' ⟨s0, s1, s2, s3, s4⟩; go_simp; first | done | with_reducible rfl
    simp only [Act.put, List.setIfInBounds_toArray, List.set_cons_succ, List.set_cons_zero]
    refine tk 7 (v := ?_) rfl (by kernel_rfl) (by rfl) ?_ (by assumption) ?_
    rotate_left
    · intro w' ⟨s0, s1, s2, s3, s4⟩; go_simp; first | done | with_reducible rfl
    simp only [Act.put, List.setIfInBounds_toArray, List.set_cons_succ, List.set_cons_zero]
    refine tk 8 (v := ?_) rfl (by kernel_rfl) (by rfl) ?_ (by assumption) ?_
    rotate_left
    · intro w' ⟨s0, s1, s2, s3, s4⟩; go_simp; first | done | with_reducible rfl
    simp only [Act.put, List.setIfInBounds_toArray, List.set_cons_succ, List.set_cons_zero]
    refine wpAnyH_ready (rs := [9]) (by kernel_rfl) (by simp) ?_
    refine AllReadyH.cons rfl (fun K hK => ?_) AllReadyH.nil
    go_simp
    refine (unhide HADD1).mono ?_
    rintro e w2 ⟨⟨⟨uu2, rfl⟩, S2, hM2⟩, hS2, hkx2⟩
    refine hK.out _ _ hS2 (fun _ => ?_)
    clear hK K hS0 HADD1 hS2
    refine wpAnyH_done (by kernel_rfl) ?_ _
    refine QN.normal ?_
    go_wp2
    go_end0
    exact ⟨⟨⟨_, rfl⟩, R2, S2, by rw [unhide HR]; exact hM2⟩, hkx2⟩
end Go.Proofs.YtglcaejddckleaaDoor
namespace Go.Proofs.YtglcaejddckleaaDoor
open Go.RowKit
set_option linter.unusedVariables false
attribute [local go_sem] run_store_float run_equalIn_float

section
variable {w w3 : World} {bk : Nat} {r0 r1 : Value} {R2 : Nat} {E S : Nat → Nat} {d : Dc}
/-- The ints are grown by one. -/
theorem BMut.pushI (h : BMut w bk r0 r1 R2 E S d) {W : World} (hW : Below w.heap.size w W) {o : Obj} {g3 cp3 : Nat} {x : Int} {a : Option Addr} (ha : a = entP E x) (h1 : w3.ownsRow (bk + 1) tEnt 1 (.slice (some ⟨g3, 0, none⟩) (d.m + 1) cp3) (d.m + 1) (ptL (fun i => entP E (d.I i)) d.m ++ [.pointer a])) (hg : W.grownBy w3 r1.ownBlock) (hl : r1.ownBlock = some g3 ∨ w.heap.size ≤ g3) :
    BMut (w3.setCell ⟨bk, 1, none⟩ (.slice (some ⟨g3, 0, none⟩) (d.m + 1) cp3)) bk r0 (.slice (some ⟨g3, 0, none⟩) (d.m + 1) cp3) R2 E S { d with m := d.m + 1, I := upd d.I d.m x } ∧ KX (fun b => b = bk ∨ r1.ownBlock = some b) bk w (w3.setCell ⟨bk, 1, none⟩ (.slice (some ⟨g3, 0, none⟩) (d.m + 1) cp3)) := by
  have hlt := h.lt
  have hwz := hW.size
  have hz : w.heap.size ≤ w3.heap.size := Nat.le_trans hwz hg.size
  have hB : ∀ b, b < w.heap.size → r1.ownBlock ≠ some b → w3.heap[b]? = w.heap[b]? := fun b hb he => (hg.block b (by omega) (fun e => he e.symm)).trans (hW.block b hb)
  have hbk : r1.ownBlock ≠ some bk := fun e => by have := (h.ints.lt bk e).1; omega
  have os : ∀ b, b ≠ bk → (w3.setCell ⟨bk, 1, none⟩ (.slice (some ⟨g3, 0, none⟩) (d.m + 1) cp3)).heap[b]? = w3.heap[b]? := fun b hb => Deep.blk_setCell_other _ _ _ _ (by exact hb)
  have hc : ∀ q, w3.cell? ⟨bk, q, none⟩ = w.cell? ⟨bk, q, none⟩ := fun q => World.cell?_of_block (a := ⟨bk, q, none⟩) (hB bk hlt hbk)
  have ho : ∀ q, q ≠ 1 → (w3.setCell ⟨bk, 1, none⟩ (.slice (some ⟨g3, 0, none⟩) (d.m + 1) cp3)).cell? ⟨bk, q, none⟩ = w.cell? ⟨bk, q, none⟩ := fun q hq => (cell_set_other (fun e => hq e.symm)).trans (hc q)
  have ty : ∀ {t : TypeId} {c : Array Value} {b : Nat}, w.heap[b]? = some (.cells c t (0, 0)) → t ≠ tEnt → r1.ownBlock ≠ some b := fun {t c b} hb ht e => by
    obtain ⟨c', hb'⟩ := h.ints.block e
    exact type_apart hb hb' ht
  have hg3 := (World.ownsRow.lt h1 g3 rfl).1
  refine ⟨⟨by simpa using Nat.lt_of_lt_of_le hlt hz, (ho 0 (by decide)).trans h.c0, World.cell?_setCell_same' _ _ _ (by rw [hc, h.c1]; rfl), (ho 2 (by decide)).trans h.c2, (ho 3 (by decide)).trans h.c3, (ho 4 (by decide)).trans h.c4, (ho 5 (by decide)).trans h.c5, (ho 6 (by decide)).trans h.c6, fun q => by rw [World.frozen?_setCell]; exact (World.frozen?_of_block (a := ⟨bk, q, none⟩) (hB bk hlt hbk)).trans (h.fz q), ?_, ?_, ⟨_, _, rfl⟩, ?_, ?_, fun i hi => ?_, h.eb, h.inj, fun j hj => ?_, h.sg⟩, ?_⟩
  · exact own_at h.log (fun q e => (os q (by have := (h.log.lt q e).1; omega)).trans (hB q (h.log.lt q e).2 (fun e' => h.ap q e e')))
  · have h2 : (w3.setCell ⟨bk, 1, none⟩ (.slice (some ⟨g3, 0, none⟩) (d.m + 1) cp3)).ownsRow (bk + 1) tEnt 1 (.slice (some ⟨g3, 0, none⟩) (d.m + 1) cp3) (d.m + 1) (ptL (fun i => entP E (d.I i)) d.m ++ [.pointer a]) := own_at h1 (fun q e => os q (by
      have e' : g3 = q := by simpa [Value.ownBlock] using e
      omega))
    rw [ptL_snoc] at h2
    refine Rw.congr h2 (fun j hj => ?_)
    show entP E (upd d.I d.m x j) = upd (fun i => entP E (d.I i)) d.m a j
    by_cases e : j = d.m
    · subst e; rw [upd_same, upd_same, ha]
    · rw [upd_other _ _ e, upd_other _ _ e]
  · exact own_at h.slots (fun q e => by
      obtain ⟨c, hb⟩ := h.slots.block e
      exact (os q (by have := (h.slots.lt q e).1; omega)).trans (hB q (h.slots.lt q e).2 (ty hb (by decide))))
  · intro q e e'
    have e2 : g3 = q := by simpa [Value.ownBlock] using e'
    subst e2
    rcases hl with hl | hl
    · exact h.ap g3 e hl
    · have := (h.log.lt g3 e).2; omega
  · exact (h.ent i hi).keep (by simpa using hz) ((os _ (by have := h.eb i hi; omega)).trans (hB _ (h.ent i hi).lt (ty (h.ent i hi).ob (by decide))))
  · by_cases h0 : d.X j = 0
    · exact ⟨fun hp => absurd hp (by show ¬ 0 < d.X j; omega), fun hp => absurd hp (by show ¬ d.X j < 0; omega)⟩
    · exact SlotIs.keep (d := { d with m := d.m + 1, I := upd d.I d.m x }) (w := w) (h.sl j hj) (by simpa using hz) (fun c hc => (os _ (by have := h.sg j hj h0; omega)).trans (hB _ (Array.getElem?_eq_some_iff.1 hc).1 (ty hc (by decide))))
  · refine ⟨((hW.mono (by omega)).grown hg (by omega) (fun k e => by have := (h.ints.lt k e).1; omega)).setCell (by exact Nat.le_refl _) _, fun b hb hm => (os b (fun e => hm (.inl e))).trans (hB b hb (fun e => hm (.inr e)))⟩
end
end Go.Proofs.YtglcaejddckleaaDoor
namespace Go.Proofs.YtglcaejddckleaaDoor
open Go.RowKit
set_option linter.unusedVariables false
attribute [local go_sem] run_store_float run_equalIn_float

theorem probe_n {c : Dc} {n : Nat} {v : Vl} : ∀ (f a : Nat), probe { c with n := n } v a f = probe c v a f := by
  intro f
  induction f with
  | zero => intro a; rfl
  | succ f ih => intro a; unfold probe; rw [ih]
theorem slotOf_n (c : Dc) (n : Nat) (v : Vl) (a : Nat) : slotOf { c with n := n } v a = slotOf c v a := by
  unfold slotOf
  show _ = _
  simp only [probe_n]
theorem D4.cut {K : Vl → Prop} {hf : Vl → Nat} {c : Dc} {n : Nat} (h : Inv0 K hf c) (hn : c.n = n + 1) (hs : smallK c.m (c.L n).key) : D4 { c with n := n } := by
  obtain ⟨h1, h2, h3, h4⟩ := h.d4
  refine ⟨h1, fun j hj => ?_, ?_, ?_⟩
  · rcases h.idx.range j hj with e | e | ⟨e1, e2, e3, e4⟩
    · exact .inl e
    · exact .inr (.inl e)
    · have hne : (c.X j - 1).toNat ≠ n := fun e => e4 (by rw [e]; exact hs)
      exact .inr (.inr ⟨e1, by show c.X j ≤ (n : Int); omega, e3, e4⟩)
  · rw [usedTo_useN]; rw [usedTo_useN] at h3; exact h3
  · rw [usedTo_useN]; rw [usedTo_useN] at h4; exact h4
def HeldS (bk R2 x s b e : Nat) (W : World) : Prop := W.cell? ⟨bk, 3, none⟩ = some (.slice (some ⟨R2, 0, none⟩) x x) ∧ W.cell? ⟨R2, s, none⟩ = some (.pointer (some ⟨b, 0, none⟩)) ∧ W.cell? ⟨b, 5, none⟩ = some (.pointer (some ⟨e, 0, none⟩))
set_option maxRecDepth 100000 in
set_option maxHeartbeats 2000000 in
theorem indexRemove_kx (bk : Nat) (r0 r1 : Value) (R2 : Nat) (E S : Nat → Nat) (d : Dc) (s : Nat) (w : World) (hM : BMut w bk r0 r1 R2 E S d) (hS : Small d) (hs : s < d.x) :
    Calls Tryd.prog 43 #[.pointer (some ⟨bk, 2, none⟩), .int .i64 (s : Int)] w fun e w' => ((∃ u, e = .returned u) ∧ ∃ S', BMut w' bk r0 r1 R2 E S' { d with X := upd d.X s (-1) }) ∧ KX (fun b => b = R2) bk w w' := by
  have hx := hS.x
  have hlt := hM.lt
  have c3 := hM.c3
  have hR := hM.r2_lt
  have hR2 := hR.2
  obtain ⟨g, cp, e, _, _, _, hc, hf⟩ := hM.slots.form (by omega)
  cases e
  have d0 := hc s hs
  have f0 := hf s
  have HN := hide (hM.putX hs (x := -1) (by decide) (A := goneA) ⟨fun h => by omega, fun _ => rfl⟩)
  have HB : Hid (KX (fun b => b = R2) bk w ((w.setCell ⟨R2, s, none⟩ (.pointer (some ⟨w.heap.size, 0, none⟩))).alloc (.cells goneA 69))) := hide (KX.alloc (n := bk) (A := w) ((KX.refl (fun b => b = R2) _ _).setCell (by omega) (fun _ => rfl) _) (by omega) _)
  clear hM hS hc hf hR
  go_enter Tryd.func43, Tryd.ntmps43
  go_wp2
  go_end0
  exact ⟨⟨⟨_, rfl⟩, _, unhide HN⟩, unhide HB⟩

/-- Between two rounds. -/
structure NxI (K : Vl → Prop) (hf : Vl → Nat) (w : World) (bk : Nat) (r0 r1 : Value) (R2 : Nat) (E : Nat → Nat) (d D1 : Dc) (c : Dc) (f : Nat) (r1c : Value) (S : Nat → Nat) (W : World) : Prop where
  inv : Inv0 K hf c
  n : c.n = d.n + 1
  L : c.L = d.L
  x : c.x = d.x
  m : d.m + 1 ≤ c.m
  pos : posN c.X c.x < f
  mv : moveD hf f c = moveD hf (d.x + 1) D1
  sum : c.m + posN c.X c.x ≤ d.m + 1 + d.x
  bm : BMut W bk r0 r1c R2 E S { c with n := d.n }
  kx : KX (fun b => b = bk ∨ r1.ownBlock = some b ∨ b = R2) bk w W
  row : ∀ b, r1c.ownBlock = some b → r1.ownBlock = some b ∨ w.heap.size ≤ b
theorem NxI.below {K : Vl → Prop} {hf : Vl → Nat} {w : World} {bk : Nat} {r0 r1 : Value} {R2 : Nat} {E : Nat → Nat} {d D1 c : Dc} {f : Nat} {r1c : Value} {S : Nat → Nat} {W W' : World} (h : NxI K hf w bk r0 r1 R2 E d D1 c f r1c S W) (hb : Below W.heap.size W W') (hbk : bk < w.heap.size) : NxI K hf w bk r0 r1 R2 E d D1 c f r1c S W' :=
  ⟨h.inv, h.n, h.L, h.x, h.m, h.pos, h.mv, h.sum, h.bm.below hb, h.kx.trans (KX.of_below hb (by have := h.bm.lt; omega)), h.row⟩
theorem NxI.step {K : Vl → Prop} {hf : Vl → Nat} (KL : KeyLaw K hf) {w : World} {bk : Nat} {r0 r1 : Value} {R2 : Nat} {E : Nat → Nat} {d D1 c : Dc} {f : Nat} {r1c r1' : Value} {S S' : Nat → Nat} {W W1 W2 : World} {s : Nat} (h : NxI K hf w bk r0 r1 R2 E d D1 c f r1c S W) (e : slotOf c (intV ((c.m : Int) + 1)) (hf (intV ((c.m : Int) + 1))) = some s)
    (k1 : KX (fun b => b = bk ∨ r1c.ownBlock = some b) bk W W1) (hr : ∀ b, r1'.ownBlock = some b → r1c.ownBlock = some b ∨ W.heap.size ≤ b) (k2 : KX (fun b => b = R2) bk W1 W2) (hM : BMut W2 bk r0 r1' R2 E S' { c with m := c.m + 1, I := upd c.I c.m (c.X s), X := upd c.X s (-1), n := d.n }) (hbk : bk < w.heap.size) : ∃ f', NxI K hf w bk r0 r1 R2 E d D1 (moveS c s) f' r1' S' W2 := by
  obtain ⟨s1, s2, s3, s4⟩ := h.inv.slot e
  obtain ⟨f', rfl⟩ : ∃ f', f = f' + 1 := ⟨f - 1, by have := h.pos; omega⟩
  have hp := posN_leave s2 c.x
  rw [if_pos s1] at hp
  have hpos := h.pos
  have hsum := h.sum
  have hm := h.m
  have hz := h.kx.bel.size
  have hz1 := k1.bel.size
  refine ⟨f', moveS_inv KL h.inv e, h.n, h.L, h.x, by show d.m + 1 ≤ c.m + 1; omega, by show posN (upd c.X s (-1)) c.x < f'; omega, by rw [← h.mv, moveD_some e], by show c.m + 1 + posN (upd c.X s (-1)) c.x ≤ _; omega, hM, ⟨h.kx.bel.trans (k1.bel.trans k2.bel), fun b hb hmm => ?_⟩, fun b hb => ?_⟩
  · refine (k2.blk b (by omega) (fun e => hmm (.inr (.inr e)))).trans ((k1.blk b (by omega) (fun e => ?_)).trans (h.kx.blk b hb hmm))
    rcases e with e | e
    · exact hmm (.inl e)
    · rcases h.row b e with e' | e'
      · exact hmm (.inr (.inl e'))
      · omega
  · rcases hr b hb with e' | e'
    · exact h.row b e'
    · exact .inr (by omega)

set_option maxRecDepth 100000 in
set_option maxHeartbeats 4000000 in
theorem addNextInt_any (T : World → Prop) (hTl : Lasts T) (hf : Vl → Nat) (K : Vl → Prop) (KL : KeyLaw K hf) (hHs : ∀ v, K v → HsI T v (hf v)) (bk : Nat) (hTb : ∀ w w', T w → Below bk w w' → T w') (r0 r1 : Value) (R2 : Nat) (E S : Nat → Nat) (d : Dc) (w : World) (hT : T w) (hM : BMut w bk r0 r1 R2 E S d) (hS : Small d) (hm4 : d.m ≤ 4000000)
    (hk1 : (d.L d.n).key.kind = 2) (hk2 : (d.L d.n).key.num = (d.m : Int) + 1) (hI : Inv0 K hf { d with n := d.n + 1, m := d.m + 1, I := upd d.I d.m ((d.n : Int) + 1) }) :
    Calls Tryd.prog 46 #[.pointer (some ⟨bk, 0, none⟩), .pointer (some ⟨E d.n, 0, none⟩)] w fun e w' => ((∃ u, e = .returned u) ∧ ∃ r1' S', BMut w' bk r0 r1' R2 E S' { moveD hf (d.x + 1) { d with n := d.n + 1, m := d.m + 1, I := upd d.I d.m ((d.n : Int) + 1) } with n := d.n }) ∧ KX (fun b => b = bk ∨ r1.ownBlock = some b ∨ b = R2) bk w w' := by
  obtain ⟨i0, hi0, hz0, hz1, hz2⟩ := info_parts infoEnt
  obtain ⟨D1, hD1⟩ : ∃ D1 : Dc, D1 = { d with n := d.n + 1, m := d.m + 1, I := upd d.I d.m ((d.n : Int) + 1) } := ⟨_, rfl⟩
  rw [← hD1] at hI ⊢
  have hx4 : d.x ≤ 4000 := by
    have := hI.sz
    rw [hD1] at this
    rcases this with h | h
    · have h : d.x = 0 := h
      omega
    · exact h.2.1
  obtain ⟨Q1, q1, rfl⟩ := hM.rf
  have hlt := hM.lt
  have c1 := hM.c1
  have f1 := hM.fz 1
  have HOW0 := hide hM.ints
  have hQ1 := (hM.ints.lt Q1 rfl).1
  -- the find of the next int
  have FIND : ∀ (W : World) (c : Dc) (f : Nat) (r1c : Value) (S' : Nat → Nat), NxI K hf w bk r0 (.slice (some ⟨Q1, 0, none⟩) d.m q1) R2 E d D1 c f r1c S' W → (∀ w', Below W.heap.size W w' → Calls Tryd.prog 35 #[.pointer (some ⟨bk, 0, none⟩)] w' fun e w'' => e = .returned (V 2 ((c.m : Int) + 1) 0 ⟨#[]⟩ 0) ∧ Below w'.heap.size w' w'') ∧
      (∀ w', Below W.heap.size W w' → Calls Tryd.prog 41 #[.pointer (some ⟨bk, 2, none⟩), V 2 ((c.m : Int) + 1) 0 ⟨#[]⟩ 0] w' fun e w'' => e = .returned (.int .i64 (slotI (slotOf c (intV ((c.m : Int) + 1)) (hf (intV ((c.m : Int) + 1)))))) ∧ Below w'.heap.size w' w'') := fun W c f r1c S' h => by
    have hsm : Small { c with n := d.n } := ⟨hS.n, by show c.m ≤ _; have := h.sum; omega, by show c.x ≤ _; rw [h.x]; omega⟩
    refine ⟨fun w' hw' => ?_, fun w' hw' => ?_⟩
    · obtain ⟨R0, R1, hB⟩ := (h.bm.below hw').book
      exact nextInt_any bk R0 R1 R2 E S' { c with n := d.n } w' hB hsm
    · obtain ⟨R0, R1, hB⟩ := (h.bm.below hw').book
      have h4 : D4 { c with n := d.n } := D4.cut h.inv h.n ⟨by rw [h.L]; exact hk1, by rw [h.L, hk2]; omega, by rw [h.L, hk2]; have := h.m; omega⟩
      have := find_any T hTl bk R0 R1 R2 E S' { c with n := d.n } (intV ((c.m : Int) + 1)) (hf (intV ((c.m : Int) + 1))) (hHs _ (KL.own _)) w' (hTb _ _ hT (h.kx.bel.trans (hw'.mono (by have := h.bm.lt; omega)))) hB hsm h4
      rw [slotOf_n] at this
      exact this
  have HFIND := hide FIND
  have START : ∀ (o : Obj) (g3 cp3 : Nat) (w3 : World), w3.ownsRow (bk + 1) tEnt 1 (.slice (some ⟨g3, 0, none⟩) (d.m + 1) cp3) (d.m + 1) (ptL (fun i => entP E (d.I i)) d.m ++ [.pointer (some ⟨E d.n, 0, none⟩)]) → (w.alloc o).grownBy w3 (Value.slice (some ⟨Q1, 0, none⟩) d.m q1).ownBlock → ((Value.slice (some ⟨Q1, 0, none⟩) d.m q1).ownBlock = some g3 ∨ g3 = w.heap.size + 1) →
      w3.cell? ⟨bk, 1, none⟩ = some (.slice (some ⟨Q1, 0, none⟩) d.m q1) ∧ w3.frozen? ⟨bk, 1, none⟩ = false ∧ bk < w3.heap.size ∧ NxI K hf w bk r0 (.slice (some ⟨Q1, 0, none⟩) d.m q1) R2 E d D1 D1 (d.x + 1) (.slice (some ⟨g3, 0, none⟩) (d.m + 1) cp3) S (w3.setCell ⟨bk, 1, none⟩ (.slice (some ⟨g3, 0, none⟩) (d.m + 1) cp3)) := fun o g3 cp3 w3 h1 h2 h3 => by
    have hn : (Value.slice (some ⟨Q1, 0, none⟩) d.m q1).ownBlock ≠ some bk := fun e => by
      have e' : Q1 = bk := by simpa [Value.ownBlock] using e
      omega
    have hb : w3.heap[bk]? = w.heap[bk]? := (h2.block bk (by simp; omega) (fun e => hn e.symm)).trans (Deep.blk_alloc_lt _ _ _ hlt)
    obtain ⟨p1, p2⟩ := hM.pushI ((Below.refl _ _).alloc (Nat.le_refl _) o) (o := o) (x := (d.n : Int) + 1) (a := some ⟨E d.n, 0, none⟩) (by unfold entP; rw [if_pos (by omega), show ((d.n : Int) + 1 - 1).toNat = d.n by omega]) h1 h2 (by rcases h3 with h3 | h3; exact .inl h3; exact .inr (by omega))
    have hz : w.heap.size + 1 ≤ w3.heap.size := by have := h2.size; simpa using this
    refine ⟨(World.cell?_of_block (a := ⟨bk, 1, none⟩) hb).trans c1, (World.frozen?_of_block (a := ⟨bk, 1, none⟩) hb).trans f1, by omega, hI, by rw [hD1], by rw [hD1], by rw [hD1], by rw [hD1]; exact Nat.le_refl _, ?_, rfl, ?_, ?_, p2.mono (fun b _ e => e.elim .inl (fun e => .inr (.inl e))), fun b e => ?_⟩
    · rw [hD1]; have := posN_le d.X d.x; show posN d.X d.x < d.x + 1; omega
    · rw [hD1]; have := posN_le d.X d.x; show d.m + 1 + posN d.X d.x ≤ d.m + 1 + d.x; omega
    · rw [hD1]; exact p1
    · rcases h3 with h3 | h3
      · have e' : g3 = b := by simpa [Value.ownBlock] using e
        rw [← e']; exact .inl h3
      · have e' : g3 = b := by simpa [Value.ownBlock] using e
        exact .inr (by omega)
  have HSTART := hide START
  have HT := hide hT
  have HS := hide hS
  have HD1 := hide hD1
  clear hM hT hS START FIND hI hD1
  go_enter Tryd.func46, Tryd.ntmps46
  go_wp2_with (at_builtin; refine wpList_append_lies _ rfl _ _ 60 rfl (bk + 1) tEnt i0 (.pointer none) 1 8 Tryd.underlying60 hi0 hz0 hz1 hz2 rfl (by decide) (.slice (some ⟨Q1, 0, none⟩) d.m q1) d.m (ptL (fun i => entP E (d.I i)) d.m) rfl (World.ownsRow.alloc (unhide HOW0) _) ⟨w.heap.size, 0, none⟩ 1 1 [.pointer (some ⟨E d.n, 0, none⟩)] rfl rfl (World.news_of_block (Deep.blk_alloc_new _ _)) (by simp [Value.oneCell']) (by decide) (by unfold maxLen; omega) (by omega) (by simp; omega) (w.heap.size + 1) (by simp) ?_; intro g3 cp3 w3 hown3 hgr3 hloc3 hlt3; obtain ⟨x3, f3, l3, hN3⟩ := unhide HSTART _ g3 cp3 w3 hown3 hgr3 hloc3; have HN3 := hide hN3; clear hown3 hgr3 hloc3 hN3)
  generalize hW : w3.setCell ⟨bk, 1, none⟩ (.slice (some ⟨g3, 0, none⟩) (d.m + 1) cp3) = W at *
  have hW' : bk < W.heap.size := by rw [← hW]; simpa using l3
  have HNX := hide ((unhide HFIND _ _ _ _ _ (unhide HN3)).1)
  have HFD := hide ((unhide HFIND _ _ _ _ _ (unhide HN3)).2)
  clear hW x3 f3 l3 c1 f1 hlt3
  refine wp_region_quiet (C := fun w' => Below W.heap.size W w') (by kernel_rfl) (by kernel_rfl) ((Below.refl _ _).drew) ?_
  show wpQuiet _ _ _ _ [_, _, _, _, _, _, _] _
  refine wpQuiet_step (fun K hK => ?_)
  go_simp
  refine ⟨_, fun w' hw' => rfl, hK _ ?_⟩
  clear hK K
  refine wpQuiet_step (fun K hK => ?_)
  go_simp
  refine ⟨_, fun w' hw' => rfl, hK _ ?_⟩
  clear hK K
  refine wpQuiet_step (fun K hK => ?_)
  go_simp
  refine ⟨_, fun w' hw' => rfl, hK _ ?_⟩
  clear hK K
  refine wpQuiet_step (fun K hK => ?_)
  go_simp
  refine ⟨_, fun w' hw' => rfl, hK _ ?_⟩
  clear hK K
  refine wpQuiet_step (fun K hK => ?_)
  go_simp
  apply Exists.intro
  refine And.intro (fun w' hw' => ?_) (hK _ ?_)
  · refine ((unhide HNX _ hw')).mono ?_
    rintro e w'' ⟨rfl, hb⟩
    exact ⟨rfl, hw'.trans (hb.mono hw'.size)⟩
  clear hK K
  refine wpQuiet_step (fun K hK => ?_)
  go_simp
  apply Exists.intro
  refine And.intro (fun w' hw' => ?_) (hK _ ?_)
  · refine ((unhide HFD _ hw')).mono ?_
    rintro e w'' ⟨rfl, hb⟩
    exact ⟨rfl, hw'.trans (hb.mono hw'.size)⟩
  clear hK K
  refine wpQuiet_step (fun K hK => ?_)
  go_simp
  refine ⟨_, fun w' hw' => rfl, hK _ ?_⟩
  clear hK K
  refine wpQuiet_nil ?_
  intro w4 hw4
  have HN4 := hide ((unhide HN3).below hw4 hlt)
  clear hw4 HNX HFD HN3 hW'
  go_wp2_with fail
  go_loopw [4] (fun i wr => ∃ (c : Dc) (f : Nat) (r1c : Value) (S' : Nat → Nat), i = .int .i64 (slotI (slotOf c (intV ((c.m : Int) + 1)) (hf (intV ((c.m : Int) + 1))))) ∧ NxI K hf w bk r0 (.slice (some ⟨Q1, 0, none⟩) d.m q1) R2 E d D1 c f r1c S' wr) (fun _ wr => d.m + 2 + d.x - lenB wr bk 1)
  case atStart => exact ⟨D1, d.x + 1, _, S, rfl, unhide HN4⟩
  case round =>
    clear HN4
    obtain ⟨c, f, r1c, S', rfl, hN⟩ := hrel
    cases hsl : slotOf c (intV ((c.m : Int) + 1)) (hf (intV ((c.m : Int) + 1))) with
    | none =>
      have HR : Hid ({ moveD hf (d.x + 1) D1 with n := d.n } = { c with n := d.n }) := hide (by rw [← hN.mv, moveD_none hsl])
      have HNN := hide hN
      clear hN hsl
      rw [show slotI none = -1 from rfl]
      go_wp2
      go_end0
      exact ⟨⟨⟨_, rfl⟩, r1c, S', by rw [unhide HR]; exact (unhide HNN).bm⟩, (unhide HNN).kx⟩
    | some s =>
      obtain ⟨s1, s2, s3, s4⟩ := hN.inv.slot hsl
      obtain ⟨R1, k1, e1⟩ := hN.bm.rf
      have e1 : r1c = .slice (some ⟨R1, 0, none⟩) c.m k1 := e1
      subst e1
      have hbm := hN.bm
      have c1r : wr.cell? ⟨bk, 1, none⟩ = some (.slice (some ⟨R1, 0, none⟩) c.m k1) := hbm.c1
      have f1r := hbm.fz 1
      have c3r : wr.cell? ⟨bk, 3, none⟩ = some (.slice (some ⟨R2, 0, none⟩) c.x c.x) := hbm.c3
      have hlr := hbm.lt
      have hlenr : lenB wr bk 1 = c.m := lenB_is c1r
      have hR1 := hbm.ints.lt R1 rfl
      have hR2 := hbm.r2_lt
      obtain ⟨_, _, es, _, _, _, hsc, _⟩ := hbm.slots.form (by show 0 < c.x; omega)
      cases es
      have p0 : wr.cell? ⟨R2, s, none⟩ = some (.pointer (some ⟨S' s, 0, none⟩)) := (hsc s s1).trans (by show some (Value.pointer (sltP S' s (c.X s))) = _; rw [show sltP S' s (c.X s) = some ⟨S' s, 0, none⟩ from if_neg (by omega)])
      have hsl1 := (hbm.sl s s1).1 s2
      obtain ⟨q, hq⟩ : ∃ q, q = (c.X s - 1).toNat := ⟨_, rfl⟩
      have hsl2 : SCell wr (S' s) (c.L q).key (E q) := by rw [hq]; exact hsl1
      have p5 := hsl2.pt
      have hSl := hsl2.lt
      have hSb : bk < S' s := hbm.sg s s1 (by show c.X s ≠ 0; omega)
      obtain ⟨cR1, hbR1⟩ := hbm.ints.block (b := R1) rfl
      obtain ⟨cR2, hbR2⟩ := hbm.slots.block (b := R2) rfl
      have n1 : R1 ≠ R2 := fun e => type_apart (e ▸ hbR1) hbR2 (by decide)
      have n2 : R1 ≠ S' s := fun e => type_apart (e ▸ hbR1) hsl2.ob (by decide)
      have hR1b := hR1.1
      have hR2b := hR2.1
      have hR2l := hR2.2
      have hsum := hN.sum
      have hcx := hN.x
      have HOW : Hid (Rw wr.drew (bk + 1) tEnt (.slice (some ⟨R1, 0, none⟩) c.m k1) c.m (fun i => entP E (c.I i))) := hide (own_at hbm.ints (fun _ _ => rfl))
      have hS0 : HeldS bk R2 c.x s (S' s) (E q) wr.drew := ⟨c3r, p0, p5⟩
      have HPUSH : Hid (∀ (o : Obj) (g3 cp3 : Nat) (w3 : World), w3.ownsRow (bk + 1) tEnt 1 (.slice (some ⟨g3, 0, none⟩) (c.m + 1) cp3) (c.m + 1) (ptL (fun i => entP E (c.I i)) c.m ++ [.pointer (some ⟨E q, 0, none⟩)]) → (wr.drew.alloc o).grownBy w3 (Value.slice (some ⟨R1, 0, none⟩) c.m k1).ownBlock → ((Value.slice (some ⟨R1, 0, none⟩) c.m k1).ownBlock = some g3 ∨ g3 = (wr.drew.alloc o).heap.size) →
          HeldS bk R2 c.x s (S' s) (E q) w3 ∧ w3.cell? ⟨bk, 1, none⟩ = some (.slice (some ⟨R1, 0, none⟩) c.m k1) ∧ w3.frozen? ⟨bk, 1, none⟩ = false ∧ bk < w3.heap.size ∧ (BMut (w3.setCell ⟨bk, 1, none⟩ (.slice (some ⟨g3, 0, none⟩) (c.m + 1) cp3)) bk r0 (.slice (some ⟨g3, 0, none⟩) (c.m + 1) cp3) R2 E S' { c with n := d.n, m := c.m + 1, I := upd c.I c.m (c.X s) } ∧ KX (fun b => b = bk ∨ (Value.slice (some ⟨R1, 0, none⟩) c.m k1).ownBlock = some b) bk wr (w3.setCell ⟨bk, 1, none⟩ (.slice (some ⟨g3, 0, none⟩) (c.m + 1) cp3)) ∧ ∀ b, (Value.slice (some ⟨g3, 0, none⟩) (c.m + 1) cp3).ownBlock = some b → (Value.slice (some ⟨R1, 0, none⟩) c.m k1).ownBlock = some b ∨ wr.heap.size ≤ b)) := hide (fun o g3 cp3 w3 h1 h2 h3 => by
        have hB : ∀ b, b < wr.heap.size → R1 ≠ b → w3.heap[b]? = wr.heap[b]? := fun b hb hne => (h2.block b (by simp; omega) (fun e => hne (by
          have e' : b = R1 := by simpa [Value.ownBlock] using e
          exact e'.symm))).trans (Deep.blk_alloc_lt _ _ _ hb)
        have hz : wr.heap.size + 1 ≤ w3.heap.size := by have := h2.size; simpa using this
        obtain ⟨p1, p2⟩ := hbm.pushI (W := wr.drew.alloc o) ((Below.refl _ _).drew.alloc (Nat.le_refl _) o) (o := o) (x := c.X s) (a := some ⟨E q, 0, none⟩) (by unfold entP; rw [if_pos s2, hq]) h1 h2 (by rcases h3 with h3 | h3; exact .inl h3; exact .inr (by rw [h3]; simp))
        refine ⟨⟨(World.cell?_of_block (a := ⟨bk, 3, none⟩) (hB bk hlr (by omega))).trans c3r, (World.cell?_of_block (a := ⟨R2, s, none⟩) (hB R2 hR2l n1)).trans p0, (World.cell?_of_block (a := ⟨S' s, 5, none⟩) (hB _ hSl n2)).trans p5⟩, (World.cell?_of_block (a := ⟨bk, 1, none⟩) (hB bk hlr (by omega))).trans c1r, (World.frozen?_of_block (a := ⟨bk, 1, none⟩) (hB bk hlr (by omega))).trans f1r, by omega, p1, p2, fun b e => ?_⟩
        have e' : g3 = b := by simpa [Value.ownBlock] using e
        rcases h3 with h3 | h3
        · rw [← e']; exact .inl h3
        · exact .inr (by rw [← e', h3]; simp))
      have HREMV : Hid (∀ (g3 cp3 : Nat) (w3 : World), (BMut (w3.setCell ⟨bk, 1, none⟩ (.slice (some ⟨g3, 0, none⟩) (c.m + 1) cp3)) bk r0 (.slice (some ⟨g3, 0, none⟩) (c.m + 1) cp3) R2 E S' { c with n := d.n, m := c.m + 1, I := upd c.I c.m (c.X s) } ∧ KX (fun b => b = bk ∨ (Value.slice (some ⟨R1, 0, none⟩) c.m k1).ownBlock = some b) bk wr (w3.setCell ⟨bk, 1, none⟩ (.slice (some ⟨g3, 0, none⟩) (c.m + 1) cp3)) ∧ ∀ b, (Value.slice (some ⟨g3, 0, none⟩) (c.m + 1) cp3).ownBlock = some b → (Value.slice (some ⟨R1, 0, none⟩) c.m k1).ownBlock = some b ∨ wr.heap.size ≤ b) →
          Calls Tryd.prog 43 #[.pointer (some ⟨bk, 2, none⟩), .int .i64 (s : Int)] (w3.setCell ⟨bk, 1, none⟩ (.slice (some ⟨g3, 0, none⟩) (c.m + 1) cp3)) fun e w6 => (∃ u, e = .returned u) ∧ ∃ f6 S6, NxI K hf w bk r0 (.slice (some ⟨Q1, 0, none⟩) d.m q1) R2 E d D1 (moveS c s) f6 (.slice (some ⟨g3, 0, none⟩) (c.m + 1) cp3) S6 w6 ∧ lenB w6 bk 1 = c.m + 1) := hide (fun g3 cp3 w3 h => by
        refine (indexRemove_kx bk r0 _ R2 E S' _ s _ h.1 ⟨(unhide HS).n, by show c.m + 1 ≤ _; omega, by show c.x ≤ _; omega⟩ s1).mono ?_
        rintro e w6 ⟨⟨hu, S6, hM6⟩, hk6⟩
        obtain ⟨f6, hN6⟩ := hN.step KL hsl h.2.1 h.2.2 hk6 hM6 hlt
        exact ⟨hu, f6, S6, hN6, lenB_is hM6.c1⟩)
      have hxs : c.x ≤ 4000 := by omega
      clear hN hbm hsl hsc hsl1 hsl2 hq s2 s3 s4 hR1 hR2 hbR1 hbR2 p0 p5 c3r hcx
      rw [show slotI (some s) = (s : Int) from rfl]
      go_wp2_with fail
      refine wpN_held (HeldS bk R2 c.x s (S' s) (E q)) (by kernel_rfl) ?_
      change wpAnyH _ _ _ _ _ _ _ _ (World.drew _)
      refine tk 0 (v := ?_) rfl (by kernel_rfl) (by rfl) ?_ (by assumption) ?_
      rotate_left
      · intro w' ⟨s0, s1, s2⟩; go_simp; first | done | with_reducible rfl
      simp only [Act.put, List.setIfInBounds_toArray, List.set_cons_succ, List.set_cons_zero]
      refine tk 1 (v := ?_) rfl (by kernel_rfl) (by rfl) ?_ (by assumption) ?_
      rotate_left
      · intro w' ⟨s0, s1, s2⟩; go_simp; first | done | with_reducible rfl
      simp only [Act.put, List.setIfInBounds_toArray, List.set_cons_succ, List.set_cons_zero]
      refine tk 2 (v := ?_) rfl (by kernel_rfl) (by rfl) ?_ (by assumption) ?_
      rotate_left
      · intro w' ⟨s0, s1, s2⟩; go_simp; first | done | with_reducible rfl
      simp only [Act.put, List.setIfInBounds_toArray, List.set_cons_succ, List.set_cons_zero]
      refine tk 3 (v := ?_) rfl (by kernel_rfl) (by rfl) ?_ (by assumption) ?_
      rotate_left
      · intro w' ⟨s0, s1, s2⟩; go_simp; first | done | with_reducible rfl
      simp only [Act.put, List.setIfInBounds_toArray, List.set_cons_succ, List.set_cons_zero]
      refine tk 5 (v := ?_) rfl (by kernel_rfl) (by rfl) ?_ (by assumption) ?_
      rotate_left
      · intro w' ⟨s0, s1, s2⟩; go_simp; first | done | with_reducible rfl
      simp only [Act.put, List.setIfInBounds_toArray, List.set_cons_succ, List.set_cons_zero]
      refine tk 6 (v := ?_) rfl (by kernel_rfl) (by rfl) ?_ (by assumption) ?_
      rotate_left
      · intro w' ⟨s0, s1, s2⟩; go_simp; first | done | with_reducible rfl
      simp only [Act.put, List.setIfInBounds_toArray, List.set_cons_succ, List.set_cons_zero]
      refine tk 7 (v := ?_) rfl (by kernel_rfl) (by rfl) ?_ (by assumption) ?_
      rotate_left
      · intro w' ⟨s0, s1, s2⟩; go_simp; first | done | with_reducible rfl
      simp only [Act.put, List.setIfInBounds_toArray, List.set_cons_succ, List.set_cons_zero]
      refine tk 8 (v := ?_) rfl (by kernel_rfl) (by rfl) ?_ (by assumption) ?_
      rotate_left
      · intro w' ⟨s0, s1, s2⟩; go_simp; first | done | with_reducible rfl
      simp only [Act.put, List.setIfInBounds_toArray, List.set_cons_succ, List.set_cons_zero]
      refine tk 9 (v := ?_) rfl (by kernel_rfl) (by rfl) ?_ (by assumption) ?_
      rotate_left
      · intro w' ⟨s0, s1, s2⟩; go_simp; first | done | with_reducible rfl
      simp only [Act.put, List.setIfInBounds_toArray, List.set_cons_succ, List.set_cons_zero]
      refine tk 10 (v := ?_) rfl (by kernel_rfl) (by rfl) ?_ (by assumption) ?_
      rotate_left
      · intro w' ⟨s0, s1, s2⟩; go_simp; first | done | with_reducible rfl
      simp only [Act.put, List.setIfInBounds_toArray, List.set_cons_succ, List.set_cons_zero]
      refine tk 11 (v := ?_) rfl (by kernel_rfl) (by rfl) ?_ (by assumption) ?_
      rotate_left
      · intro w' ⟨s0, s1, s2⟩; go_simp; first | done | with_reducible rfl
      simp only [Act.put, List.setIfInBounds_toArray, List.set_cons_succ, List.set_cons_zero]
      refine tk 12 (v := ?_) rfl (by kernel_rfl) (by rfl) ?_ (by assumption) ?_
      rotate_left
      · intro w' ⟨s0, s1, s2⟩; go_simp; first | done | with_reducible rfl
      simp only [Act.put, List.setIfInBounds_toArray, List.set_cons_succ, List.set_cons_zero]
      refine tk 13 (v := ?_) rfl (by kernel_rfl) (by rfl) ?_ (by assumption) ?_
      rotate_left
      · intro w' ⟨s0, s1, s2⟩; go_simp; first | done | with_reducible rfl
      simp only [Act.put, List.setIfInBounds_toArray, List.set_cons_succ, List.set_cons_zero]
      refine tk 14 (v := ?_) rfl (by kernel_rfl) (by rfl) ?_ (by assumption) ?_
      rotate_left
      · intro w' ⟨s0, s1, s2⟩; go_simp; first | done | with_reducible rfl
      simp only [Act.put, List.setIfInBounds_toArray, List.set_cons_succ, List.set_cons_zero]
      refine tk 15 (v := ?_) rfl (by kernel_rfl) (by rfl) ?_ (by assumption) ?_
      rotate_left
      · intro w' ⟨s0, s1, s2⟩; go_simp; first | done | with_reducible rfl
      simp only [Act.put, List.setIfInBounds_toArray, List.set_cons_succ, List.set_cons_zero]
      refine wpAnyH_ready (rs := [4, 16]) (by kernel_rfl) (by simp) ?_
      refine AllReadyH.cons rfl (fun K hK => ?_) (AllReadyH.cons rfl (fun K hK => ?_) AllReadyH.nil)
      · go_simp
        refine hK.out _ _ hS0 (fun _ => ?_)
        clear hK K
        refine wpAnyH_ready (rs := [16]) (by kernel_rfl) (by simp) ?_
        refine AllReadyH.cons rfl (fun K hK => ?_) AllReadyH.nil
        go_simp
        refine hK.out _ _ ⟨(Below.refl wr.heap.size wr).drew.alloc (Nat.le_refl _) _ |>.cell (p := ⟨bk, 3, none⟩) hlr |>.trans hS0.1, (Below.refl wr.heap.size wr).drew.alloc (Nat.le_refl _) _ |>.cell (p := ⟨R2, s, none⟩) hR2l |>.trans hS0.2.1, (Below.refl wr.heap.size wr).drew.alloc (Nat.le_refl _) _ |>.cell (p := ⟨S' s, 5, none⟩) hSl |>.trans hS0.2.2⟩ (fun hS1 => ?_)
        clear hK K
        refine wpAnyH_ready (rs := [17]) (by kernel_rfl) (by simp) ?_
        refine AllReadyH.cons rfl (fun K hK => ?_) AllReadyH.nil
        refine step_append_lies _ rfl (.tmp 33) (.tmp 45) 60 rfl (bk + 1) tEnt i0 (.pointer none) 1 8 Tryd.underlying60 hi0 hz0 hz1 hz2 rfl (by decide) (.slice (some ⟨R1, 0, none⟩) c.m k1) c.m (ptL (fun i => entP E (c.I i)) c.m) (by simp [Act.eval]) (World.ownsRow.alloc (unhide HOW) _) ⟨wr.heap.size, 0, none⟩ 1 1 [.pointer (some ⟨E q, 0, none⟩)] (by simp [Act.eval]) rfl (World.news_of_block (Deep.blk_alloc_new _ _)) (by simp [Value.oneCell']) (by decide) (by unfold maxLen; omega) (by omega) (by simp; omega) _ rfl ?_
        intro g3 cp3 w3 hown3 hgr3 hloc3 hlt3
        obtain ⟨hS3, x3, f3, hlt3', HN3⟩ := unhide HPUSH _ g3 cp3 w3 hown3 hgr3 hloc3
        clear hown3 hgr3 hloc3
        refine hK.out _ _ hS3 (fun hS3' => ?_)
        clear hK K
        refine tk 18 (v := ?_) rfl (by kernel_rfl) (by rfl) ?_ (by assumption) ?_
        rotate_left
        · intro w' ⟨s0, s1, s2⟩; go_simp; first | done | with_reducible rfl
        (try simp only [Act.put]); (try simp only [List.setIfInBounds_toArray]); (try simp only [List.set_cons_succ]); try simp only [List.set_cons_zero]
        refine tk 19 (v := ?_) rfl (by kernel_rfl) (by rfl) ?_ (by assumption) ?_
        rotate_left
        · intro w' ⟨s0, s1, s2⟩; go_simp; first | done | with_reducible rfl
        (try simp only [Act.put]); (try simp only [List.setIfInBounds_toArray]); (try simp only [List.set_cons_succ]); try simp only [List.set_cons_zero]
        refine wpAnyH_ready (rs := [20]) (by kernel_rfl) (by simp) ?_
        refine AllReadyH.cons rfl (fun K hK => ?_) AllReadyH.nil
        go_simp
        refine hK.out _ _ ?_ (fun _ => ?_)
        · obtain ⟨a1, a2, a3⟩ := hS3
          exact ⟨(cell_set_other (by decide)).trans a1, (cell_set_block (by omega)).trans a2, (cell_set_block (by omega)).trans a3⟩
        clear hK K
        refine wpAnyH_done (by kernel_rfl) ?_ _
        refine QN.normal ?_
        go_wp2_with fail
        refine (unhide HREMV g3 cp3 w3 HN3).mono ?_
        rintro e w6 ⟨⟨uu6, rfl⟩, f6, S6, HN6, hlen6⟩
        have HNX := hide ((unhide HFIND _ _ _ _ _ HN6).1)
        have HFD := hide ((unhide HFIND _ _ _ _ _ HN6).2)
        have HN6' := hide HN6
        clear HN6 HN3 x3 f3 hS3 hS3'
        go_wp2_with fail
        refine wp_region_quiet (C := fun w' => Below w6.heap.size w6 w') (by kernel_rfl) (by kernel_rfl) ((Below.refl _ _).drew) ?_
        show wpQuiet _ _ _ _ [_, _, _, _, _, _, _] _
        refine wpQuiet_step (fun K hK => ?_)
        go_simp
        refine ⟨_, fun w' hw' => rfl, hK _ ?_⟩
        clear hK K
        refine wpQuiet_step (fun K hK => ?_)
        go_simp
        refine ⟨_, fun w' hw' => rfl, hK _ ?_⟩
        clear hK K
        refine wpQuiet_step (fun K hK => ?_)
        go_simp
        refine ⟨_, fun w' hw' => rfl, hK _ ?_⟩
        clear hK K
        refine wpQuiet_step (fun K hK => ?_)
        go_simp
        refine ⟨_, fun w' hw' => rfl, hK _ ?_⟩
        clear hK K
        refine wpQuiet_step (fun K hK => ?_)
        go_simp
        apply Exists.intro
        refine And.intro (fun w' hw' => ?_) (hK _ ?_)
        · refine ((unhide HNX _ hw')).mono ?_
          rintro e w'' ⟨rfl, hb⟩
          exact ⟨rfl, hw'.trans (hb.mono hw'.size)⟩
        clear hK K
        refine wpQuiet_step (fun K hK => ?_)
        go_simp
        apply Exists.intro
        refine And.intro (fun w' hw' => ?_) (hK _ ?_)
        · refine ((unhide HFD _ hw')).mono ?_
          rintro e w'' ⟨rfl, hb⟩
          exact ⟨rfl, hw'.trans (hb.mono hw'.size)⟩
        clear hK K
        refine wpQuiet_step (fun K hK => ?_)
        go_simp
        refine ⟨_, fun w' hw' => rfl, hK _ ?_⟩
        clear hK K
        refine wpQuiet_nil ?_
        intro w7 hw7
        have HN7 := hide ((unhide HN6').below hw7 hlt)
        have hlen7 : lenB w7 bk 1 = c.m + 1 := by rw [← hlen6]; unfold lenB; rw [hw7.cell (p := ⟨bk, 1, none⟩) (unhide HN6').bm.lt]
        clear hw7 HNX HFD HN6' hlen6
        go_wp2
        go_roundw
        case rel => exact ⟨moveS c s, f6, _, S6, rfl, unhide HN7⟩
        case measure => rw [hlen7, hlenr]; omega
      · go_simp
        refine hK.out _ _ ⟨(Below.refl wr.heap.size wr).drew.alloc (Nat.le_refl _) _ |>.cell (p := ⟨bk, 3, none⟩) hlr |>.trans hS0.1, (Below.refl wr.heap.size wr).drew.alloc (Nat.le_refl _) _ |>.cell (p := ⟨R2, s, none⟩) hR2l |>.trans hS0.2.1, (Below.refl wr.heap.size wr).drew.alloc (Nat.le_refl _) _ |>.cell (p := ⟨S' s, 5, none⟩) hSl |>.trans hS0.2.2⟩ (fun hS1 => ?_)
        clear hK K
        refine wpAnyH_ready (rs := [4]) (by kernel_rfl) (by simp) ?_
        refine AllReadyH.cons rfl (fun K hK => ?_) AllReadyH.nil
        go_simp
        refine hK.out _ _ hS1 (fun _ => ?_)
        clear hK K
        refine wpAnyH_ready (rs := [17]) (by kernel_rfl) (by simp) ?_
        refine AllReadyH.cons rfl (fun K hK => ?_) AllReadyH.nil
        refine step_append_lies _ rfl (.tmp 33) (.tmp 45) 60 rfl (bk + 1) tEnt i0 (.pointer none) 1 8 Tryd.underlying60 hi0 hz0 hz1 hz2 rfl (by decide) (.slice (some ⟨R1, 0, none⟩) c.m k1) c.m (ptL (fun i => entP E (c.I i)) c.m) (by simp [Act.eval]) (World.ownsRow.alloc (unhide HOW) _) ⟨wr.heap.size, 0, none⟩ 1 1 [.pointer (some ⟨E q, 0, none⟩)] (by simp [Act.eval]) rfl (World.news_of_block (Deep.blk_alloc_new _ _)) (by simp [Value.oneCell']) (by decide) (by unfold maxLen; omega) (by omega) (by simp; omega) _ rfl ?_
        intro g3 cp3 w3 hown3 hgr3 hloc3 hlt3
        obtain ⟨hS3, x3, f3, hlt3', HN3⟩ := unhide HPUSH _ g3 cp3 w3 hown3 hgr3 hloc3
        clear hown3 hgr3 hloc3
        refine hK.out _ _ hS3 (fun hS3' => ?_)
        clear hK K
        refine tk 18 (v := ?_) rfl (by kernel_rfl) (by rfl) ?_ (by assumption) ?_
        rotate_left
        · intro w' ⟨s0, s1, s2⟩; go_simp; first | done | with_reducible rfl
        (try simp only [Act.put]); (try simp only [List.setIfInBounds_toArray]); (try simp only [List.set_cons_succ]); try simp only [List.set_cons_zero]
        refine tk 19 (v := ?_) rfl (by kernel_rfl) (by rfl) ?_ (by assumption) ?_
        rotate_left
        · intro w' ⟨s0, s1, s2⟩; go_simp; first | done | with_reducible rfl
        (try simp only [Act.put]); (try simp only [List.setIfInBounds_toArray]); (try simp only [List.set_cons_succ]); try simp only [List.set_cons_zero]
        refine wpAnyH_ready (rs := [20]) (by kernel_rfl) (by simp) ?_
        refine AllReadyH.cons rfl (fun K hK => ?_) AllReadyH.nil
        go_simp
        refine hK.out _ _ ?_ (fun _ => ?_)
        · obtain ⟨a1, a2, a3⟩ := hS3
          exact ⟨(cell_set_other (by decide)).trans a1, (cell_set_block (by omega)).trans a2, (cell_set_block (by omega)).trans a3⟩
        clear hK K
        refine wpAnyH_done (by kernel_rfl) ?_ _
        refine QN.normal ?_
        go_wp2_with fail
        refine (unhide HREMV g3 cp3 w3 HN3).mono ?_
        rintro e w6 ⟨⟨uu6, rfl⟩, f6, S6, HN6, hlen6⟩
        have HNX := hide ((unhide HFIND _ _ _ _ _ HN6).1)
        have HFD := hide ((unhide HFIND _ _ _ _ _ HN6).2)
        have HN6' := hide HN6
        clear HN6 HN3 x3 f3 hS3 hS3'
        go_wp2_with fail
        refine wp_region_quiet (C := fun w' => Below w6.heap.size w6 w') (by kernel_rfl) (by kernel_rfl) ((Below.refl _ _).drew) ?_
        show wpQuiet _ _ _ _ [_, _, _, _, _, _, _] _
        refine wpQuiet_step (fun K hK => ?_)
        go_simp
        refine ⟨_, fun w' hw' => rfl, hK _ ?_⟩
        clear hK K
        refine wpQuiet_step (fun K hK => ?_)
        go_simp
        refine ⟨_, fun w' hw' => rfl, hK _ ?_⟩
        clear hK K
        refine wpQuiet_step (fun K hK => ?_)
        go_simp
        refine ⟨_, fun w' hw' => rfl, hK _ ?_⟩
        clear hK K
        refine wpQuiet_step (fun K hK => ?_)
        go_simp
        refine ⟨_, fun w' hw' => rfl, hK _ ?_⟩
        clear hK K
        refine wpQuiet_step (fun K hK => ?_)
        go_simp
        apply Exists.intro
        refine And.intro (fun w' hw' => ?_) (hK _ ?_)
        · refine ((unhide HNX _ hw')).mono ?_
          rintro e w'' ⟨rfl, hb⟩
          exact ⟨rfl, hw'.trans (hb.mono hw'.size)⟩
        clear hK K
        refine wpQuiet_step (fun K hK => ?_)
        go_simp
        apply Exists.intro
        refine And.intro (fun w' hw' => ?_) (hK _ ?_)
        · refine ((unhide HFD _ hw')).mono ?_
          rintro e w'' ⟨rfl, hb⟩
          exact ⟨rfl, hw'.trans (hb.mono hw'.size)⟩
        clear hK K
        refine wpQuiet_step (fun K hK => ?_)
        go_simp
        refine ⟨_, fun w' hw' => rfl, hK _ ?_⟩
        clear hK K
        refine wpQuiet_nil ?_
        intro w7 hw7
        have HN7 := hide ((unhide HN6').below hw7 hlt)
        have hlen7 : lenB w7 bk 1 = c.m + 1 := by rw [← hlen6]; unfold lenB; rw [hw7.cell (p := ⟨bk, 1, none⟩) (unhide HN6').bm.lt]
        clear hw7 HNX HFD HN6' hlen6
        go_wp2
        go_roundw
        case rel => exact ⟨moveS c s, f6, _, S6, rfl, unhide HN7⟩
        case measure => rw [hlen7, hlenr]; omega
end Go.Proofs.YtglcaejddckleaaDoor
