/-
  DtL, DtM, DtQ, DtS in one text.
-/
import Derived.Test.YtglcaejddckleaaDoorBg2
namespace Go.Proofs.YtglcaejddckleaaDoor
open Go.RowKit Go.Shelf
set_option linter.unusedVariables false
attribute [local go_sem] run_store_float run_equalIn_float Oper.semAt_some

theorem livL_nodup (d : Dc) (k : Nat) : (livL d k).Nodup := List.Nodup.sublist List.filter_sublist List.nodup_range
theorem livL_rank {d : Dc} {i : Nat} (hi : i < d.n) (ht : (d.L i).turn ≠ 0) : (livL d d.n)[rank d i]? = some i := by
  obtain ⟨r, hr⟩ := livL_prefix (d := d) (k := i + 1) (n := d.n) (by omega)
  rw [livL_live ht] at hr
  rw [← hr]
  unfold rank
  rw [List.append_assoc, List.getElem?_append_right (Nat.le_refl _)]
  simp
def pkX (d : Dc) (j : Nat) : Int := if 0 < d.X j then (rank d (d.X j - 1).toNat : Int) + 1 else d.X j
def packX (d : Dc) : Dc := { packD d with X := pkX d }
/-- Where the living lie in the new order. -/
def E' (E : Nat → Nat) (d : Dc) (j : Nat) : Nat := E ((livL d d.n).getD j 0)
theorem E'_rank {E : Nat → Nat} {d : Dc} {i : Nat} (hi : i < d.n) (ht : (d.L i).turn ≠ 0) : E' E d (rank d i) = E i := by
  unfold E'
  rw [List.getD_eq_getElem?_getD, livL_rank hi ht]
  rfl
theorem packed {w W : World} {bk p n0 : Nat} {r0 r1 v : Value} {R2 : Nat} {E S f : Nat → Nat} {d : Dc} (h : BMut w bk r0 r1 R2 E S d) (hsz : w.heap.size ≤ W.heap.size) (hb : ∀ b, b < w.heap.size → (∀ i, i < d.n → E i ≠ b) → W.heap[b]? = w.heap[b]?) (hn0 : bk < n0)
    (hI : ∀ j, j < d.m → d.I j = 0 ∨ (0 < d.I j ∧ d.I j ≤ d.n ∧ (d.L (d.I j - 1).toNat).turn ≠ 0)) (hX : ∀ j, j < d.x → 0 < d.X j → d.X j ≤ d.n ∧ (d.L (d.X j - 1).toNat).turn ≠ 0)
    (he : ∀ i, i < d.n → ECell W (E i) (d.L i) (f i)) (hf : ∀ j (hj : j < (livL d d.n).length), f (livL d d.n)[j] = j) (hv : Rw W n0 tEnt v (livL d d.n).length (eP E (livL d d.n))) (hl0 : w.heap.size ≤ n0) :
    BMut (W.setCell ⟨bk, 0, none⟩ v) bk v r1 R2 (E' E d) S (packX d) := by
  have hE : ∀ i, i < d.n → E i ≠ bk := fun i hi e => by have := h.eb i hi; omega
  have hbk : W.heap[bk]? = w.heap[bk]? := hb bk h.lt hE
  have hc : ∀ q, W.cell? ⟨bk, q, none⟩ = w.cell? ⟨bk, q, none⟩ := fun q => World.cell?_of_block (a := ⟨bk, q, none⟩) hbk
  have ob : ∀ b, b ≠ bk → (W.setCell ⟨bk, 0, none⟩ v).heap[b]? = W.heap[b]? := fun b hb => Deep.blk_setCell_other _ _ _ _ (by exact hb)
  have ho : ∀ q, q ≠ 0 → (W.setCell ⟨bk, 0, none⟩ v).cell? ⟨bk, q, none⟩ = w.cell? ⟨bk, q, none⟩ := fun q hq => (cell_set_other (fun e => hq e.symm)).trans (hc q)
  have tE : ∀ {t : TypeId} {c : Array Value} {b : Nat}, w.heap[b]? = some (.cells c t (0, 0)) → t ≠ 57 → ∀ i, i < d.n → E i ≠ b := fun {t c b} hb ht i hi e => type_apart (e ▸ (h.ent i hi).ob) hb (fun e => ht e.symm)
  have kr : ∀ {t : TypeId} {u : Value} {n : Nat} {g : Nat → Option Addr}, Rw w (bk + 1) t u n g → t ≠ 57 → Rw (W.setCell ⟨bk, 0, none⟩ v) (bk + 1) t u n g := fun {t u n g} hh ht => own_at hh (fun q e => by
    have := hh.lt q e
    obtain ⟨c, hq⟩ := hh.block e
    exact (ob q (by omega)).trans (hb q this.2 (tE hq ht)))
  have lv : ∀ j, j < lvN d → ∃ i, i < d.n ∧ (d.L i).turn ≠ 0 ∧ rank d i = j ∧ (livL d d.n)[j]? = some i := fun j hj => by
    obtain ⟨i, h1, h2, h3⟩ := rank_surj d.n hj
    exact ⟨i, h1, h2, h3, by rw [← h3]; exact livL_rank h1 h2⟩
  have eI : ∀ x : Int, x = 0 ∨ (0 < x ∧ x ≤ d.n ∧ (d.L (x - 1).toNat).turn ≠ 0) → entP (E' E d) (if 0 < x then (rank d (x - 1).toNat : Int) + 1 else x) = entP E x := fun x hx => by
    rcases hx with rfl | ⟨h1, h2, h3⟩
    · rfl
    · rw [if_pos h1]
      unfold entP
      rw [if_pos h1, if_pos (by omega), show ((rank d (x - 1).toNat : Int) + 1 - 1).toNat = rank d (x - 1).toNat by omega, E'_rank (by omega) h3]
  refine ⟨by simpa using Nat.lt_of_lt_of_le h.lt hsz, World.cell?_setCell_same' _ _ _ (by rw [hc, h.c0]; rfl), (ho 1 (by decide)).trans h.c1, (ho 2 (by decide)).trans h.c2, (ho 3 (by decide)).trans h.c3, (ho 4 (by decide)).trans h.c4, (ho 5 (by decide)).trans h.c5, (ho 6 (by decide)).trans h.c6, fun q => by rw [World.frozen?_setCell]; exact (World.frozen?_of_block (a := ⟨bk, q, none⟩) hbk).trans (h.fz q), ?_, ?_, h.rf, ?_, ?_, ?_, ?_, ?_, ?_, ?_⟩
  · have h1 : Rw (W.setCell ⟨bk, 0, none⟩ v) n0 tEnt v (livL d d.n).length (eP E (livL d d.n)) := own_at hv (fun q e => ob q (by have := (hv.lt q e).1; omega))
    exact own_mono h1 (by omega)
  · refine (kr h.ints (by decide)).congr (fun j hj => ?_)
    exact eI (d.I j) (hI j hj)
  · refine (kr h.slots (by decide)).congr (fun j hj => ?_)
    show sltP S j (pkX d j) = sltP S j (d.X j)
    unfold sltP pkX
    by_cases e : 0 < d.X j
    · rw [if_pos e, if_neg (by omega), if_neg (by omega)]
    · rw [if_neg e]
  · intro q e e'
    have h1 := (hv.lt q e).1
    have h2 := (h.ints.lt q e').2
    omega
  · intro j hj
    obtain ⟨i, h1, h2, h3, h4⟩ := lv j hj
    have hLj : (packX d).L j = d.L i := by
      show lvF d j = _
      unfold lvF
      rw [List.getD_eq_getElem?_getD, h4]
      rfl
    have hEj : E' E d j = E i := by rw [← h3]; exact E'_rank h1 h2
    obtain ⟨hjl, hge⟩ := List.getElem?_eq_some_iff.1 h4
    have hfi : f i = j := by have := hf j hjl; rwa [hge] at this
    rw [hLj, hEj]
    have h5 := he i h1
    rw [hfi] at h5
    exact h5.keep (by simp) (ob _ (by have := h.eb i h1; omega))
  · intro j hj
    obtain ⟨i, h1, h2, h3, h4⟩ := lv j hj
    rw [show E' E d j = E i by rw [← h3]; exact E'_rank h1 h2]
    exact h.eb i h1
  · intro j j' hj hj' e
    obtain ⟨i, h1, h2, h3, h4⟩ := lv j hj
    obtain ⟨i', h1', h2', h3', h4'⟩ := lv j' hj'
    rw [show E' E d j = E i by rw [← h3]; exact E'_rank h1 h2, show E' E d j' = E i' by rw [← h3']; exact E'_rank h1' h2'] at e
    have := h.inj i i' h1 h1' e
    subst this
    omega
  · intro j hj
    have hj' : j < d.x := hj
    have hs := h.sl j hj'
    have hk : ∀ c, w.heap[S j]? = some (.cells c 69 (0, 0)) → d.X j ≠ 0 → (W.setCell ⟨bk, 0, none⟩ v).heap[S j]? = w.heap[S j]? := fun c hc' h0 => (ob _ (by have := h.sg j hj' h0; omega)).trans (hb _ (Array.getElem?_eq_some_iff.1 hc').1 (tE hc' (by decide)))
    unfold SlotIs
    show (0 < pkX d j → SCell _ (S j) ((packX d).L (pkX d j - 1).toNat).key (E' E d (pkX d j - 1).toNat)) ∧ (pkX d j < 0 → GCell _ (S j))
    by_cases e : 0 < d.X j
    · have hx : pkX d j = (rank d (d.X j - 1).toNat : Int) + 1 := if_pos e
      obtain ⟨g1, g2⟩ := hX j hj' e
      refine ⟨fun _ => ?_, fun h0 => by omega⟩
      rw [hx, show ((rank d (d.X j - 1).toNat : Int) + 1 - 1).toNat = rank d (d.X j - 1).toNat by omega, E'_rank (by omega) g2, show (packX d).L (rank d (d.X j - 1).toNat) = d.L (d.X j - 1).toNat from lvF_at (by omega) g2]
      have h1 := hs.1 e
      exact h1.keep (by simpa using hsz) (hk _ h1.ob (by omega))
    · have hx : pkX d j = d.X j := if_neg e
      rw [hx]
      refine ⟨fun h0 => absurd h0 e, fun h0 => ?_⟩
      have h1 := hs.2 h0
      exact h1.keep (by simpa using hsz) (hk _ h1.ob (by omega))
  · intro j hj h0
    refine h.sg j hj (fun e => h0 ?_)
    show pkX d j = 0
    unfold pkX
    rw [if_neg (by omega), e]
end Go.Proofs.YtglcaejddckleaaDoor
namespace Go.Proofs.YtglcaejddckleaaDoor
open Go.RowKit Go.Shelf
set_option linter.unusedVariables false
attribute [local go_sem] run_store_float run_equalIn_float Oper.semAt_some

/-- Between two rounds. -/
def TgI (w u : World) (bk p n0 : Nat) (E : Nat → Nat) (d : Dc) (pre : List (Liv d)) (W : World) : Prop :=
  ∃ (v : Value) (f : Nat → Nat), W.rowIs p 60 1 (fun _ => v) ∧ Rw W n0 tEnt v pre.length (eP E (pre.map (·.1))) ∧ (∀ i, i < d.n → ECell W (E i) (d.L i) (f i)) ∧ ((pre.map (·.1)).Nodup → ∀ j i, (pre.map (·.1))[j]? = some i → f i = j) ∧ KpE p n0 E d.n u W ∧ Below bk w W
theorem TgI.own (w u : World) (bk p n0 D : Nat) (E : Nat → Nat) (d : Dc) (hn : n0 ≤ D) (hu : n0 ≤ u.heap.size) (hw : bk ≤ w.heap.size) (hb : bk ≤ D) (hE : ∀ i, i < d.n → E i < D) : OwnFrom D (TgI w u bk p n0 E d) := by
  rintro pre A B row ⟨v, f, h1, h2, h3, h4, h5, h6⟩ hg hr
  have hEs : ∀ i, i < d.n → B.heap[E i]? = A.heap[E i]? := fun i hi => hg.block _ (h3 i hi).lt (fun e => by have := (hr _ e.symm).1; have := hE i hi; omega)
  refine ⟨v, f, ?_, own_keptO h2 hg hr, fun i hi => (h3 i hi).keep hg.size (hEs i hi), h4, ⟨Nat.le_trans h5.size hg.size, fun b hb hp he => ?_, fun i q hi hq => (World.cell?_of_block (a := ⟨E i, q, none⟩) (hEs i hi)).trans (h5.ent i q hi hq)⟩, h6.grown hg (Nat.le_trans hw h6.size) (fun k e => Nat.le_trans hb (hr k e).1)⟩
  · obtain ⟨c, hb, hc⟩ := h1
    exact World.rowIs.of_block ⟨c, hb, hc⟩ (kept_cells hb hg hr)
  · have hl : b < A.heap.size := Nat.lt_of_lt_of_le hb (Nat.le_trans hu h5.size)
    exact (hg.block b hl (fun e => by have := (hr b e.symm).1; omega)).trans (h5.block b hb hp he)

set_option maxRecDepth 100000 in
set_option maxHeartbeats 4000000 in
theorem tighten_any (T : World → Prop) (hTl : Lasts T) (hf : Vl → Nat) (bk : Nat) (hTb : ∀ w w', T w → Below bk w w' → T w') (r0 r1 : Value) (R2 : Nat) (E S : Nat → Nat) (d : Dc) (w : World) (hT : T w) (hM : BMut w bk r0 r1 R2 E S d) (hS : Small d)
    (hH : ∀ i, i < d.n → (d.L i).turn ≠ 0 → HsI T (d.L i).key (hf (d.L i).key)) (hlen : lvN d ≤ 500)
    (hI : ∀ j, j < d.m → d.I j = 0 ∨ (0 < d.I j ∧ d.I j ≤ d.n ∧ (d.L (d.I j - 1).toNat).turn ≠ 0)) (hX : ∀ j, j < d.x → 0 < d.X j → d.X j ≤ d.n ∧ (d.L (d.X j - 1).toNat).turn ≠ 0) :
    Calls Tryd.prog 45 #[.pointer (some ⟨bk, 0, none⟩)] w fun e w' => ((∃ u, e = .returned u) ∧ ∃ r0' R2' E2 S', BMut w' bk r0' r1 R2' E2 S' (fillL hf (packX d) (sizeX (hldL (packX d) (packX d).n).length) (hldL (packX d) (packX d).n))) ∧ KX (fun b => b = bk ∨ ∃ i, i < d.n ∧ E i = b) bk w w' := by
  obtain ⟨i0, hi0, hz0, hz1, hz2⟩ := info_parts infoEnt
  have hdn := hS.n
  have hbkw := hM.lt
  refine (callsIn_wide (n := 20)).1 ?_
  refine callsIn_of_wp_marks Tryd.func45 rfl trivial ?_ rfl
  simp only [Tryd.ntmps45, List.size_toArray, List.length_cons, List.length_nil, Nat.reduceAdd, Nat.reduceSub, Array.replicate_succ, Array.replicate_zero, List.push_toArray, List.append_toArray, List.nil_append, List.cons_append]
  have HM := hide hM
  have HS := hide hS
  have HH := hide hH
  have HL := hide hlen
  have HT := hide hT
  have HI := hide hI
  have HX := hide hX
  clear hM hS hH hlen hT hI hX
  gi_wp2_with fail
  refine ⟨trivial, ?_⟩
  refine (callsIn_wide.2 (living_any bk _)).mono ?_
  rintro e w4 ⟨rfl, rfl⟩
  gi_wp2_with fail
  obtain ⟨u, hu⟩ : ∃ u, u = (w.alloc (.cells #[.slice none 0 0] 60)).alloc (.cells #[.pointer (some ⟨bk, 0, none⟩)] 42) := ⟨_, rfl⟩
  try simp only [World.size_alloc]
  rw [← hu]
  have zu : u.heap.size = w.heap.size + 1 + 1 := by rw [hu]; simp
  have bu : Below w.heap.size w u := by rw [hu]; exact ((Below.refl _ _).alloc (Nat.le_refl _) _).alloc (by simp) _
  have mb0 : u.cell? ⟨w.heap.size + 1, 0, none⟩ = some (.pointer (some ⟨bk, 0, none⟩)) := by rw [hu]; simp [go_sem]
  have hpu : u.rowIs w.heap.size 60 1 (fun _ => .slice none 0 0) := by
    have h1 := World.rowIs_alloc w #[.slice none 0 0] 60 (fun _ => .slice none 0 0) (fun i hi => by
      have : i = 0 := by simpa using hi
      subst this
      rfl)
    refine World.rowIs.of_block h1 ?_
    rw [hu]
    exact Deep.blk_alloc_lt _ _ _ (by simp)
  clear hu
  have hMu := (unhide HM).below bu
  obtain ⟨R0, R1, hBu⟩ := hMu.book
  have c0u : u.cell? ⟨w.heap.size, 0, none⟩ = some (.slice none 0 0) := hpu.cell (i := 0) (by omega)
  have hEp : ∀ i, i < d.n → E i < u.heap.size ∧ E i ≠ w.heap.size := fun i hi => ⟨(hBu.ent i hi).lt, fun e => by
    have := (hBu.ent i hi).k0
    rw [e, c0u] at this
    cases this⟩
  have hRp : 0 < d.n → R0 < u.heap.size ∧ R0 ≠ w.heap.size ∧ ∀ i, i < d.n → E i ≠ R0 := fun h0 => by
    refine ⟨hBu.l0, fun e => ?_, fun i hi e => ?_⟩
    · have := hBu.r0 0 h0
      rw [e, c0u] at this
      cases this
    · have h1 := hBu.r0 0 h0
      have h2 := (hBu.ent i hi).k0
      rw [← e, h2] at h1
      cases h1
  clear c0u
  refine wpIn_rangeFunc_ownF rfl (by decide) (gf := 36) (lb := #[.pointer (some ⟨w.heap.size + 1, 0, none⟩)]) rfl trivial (enters_of Tryd.func36 (by kernel_rfl) rfl)
    (living_stopsE 19 (by decide) bk R0 R1 R2 (w.heap.size + 1) w.heap.size u.heap.size E S d u hBu (unhide HS) hRp mb0) KpE.trans (KpE.put (Nat.le_refl _) (fun i hi => (hEp i hi).1)) (Below.refl _ _) (fun _ => rfl)
    (TgI w u bk w.heap.size u.heap.size E d)
    (fun c pre W => False)
    (TgI.own w u bk w.heap.size u.heap.size u.heap.size E d (Nat.le_refl _) (Nat.le_refl _) (by omega) (by omega) (fun i hi => (hEp i hi).1))
    (fun c _ _ _ _ h => h.elim)
    ⟨.slice none 0 0, id, hpu, World.ownsRow_nil _ _ _ _, hBu.ent, fun _ j i h => by simp at h, KpE.refl _ _ _ _ _, bu.mono (by omega)⟩
    ?a1 ?assign ?body ?done ?stop
  case assign =>
    intro l x W K hK
    gi_wp2
    exact hK
  case stop =>
    rintro D c pre W hD hpre h hK
    exact h.elim
  case body =>
    rintro l pre ⟨i, hi, ht⟩ W ⟨v, f, hp, hown, hec, hfi, hkp, hbw⟩ hlen
    obtain ⟨va, vc, rfl⟩ := hown.slice
    have heb := (hec i hi).ob
    have p11 := (hec i hi).pl
    have hEi := (hec i hi).lt
    have fE : W.frozen? ⟨E i, 11, none⟩ = false := by simp [World.frozen?, heb]
    have x0 := hp.cell (i := 0) (by omega)
    have fx := hp.frozen 0
    have hpl := hp.lt
    have hne : E i ≠ w.heap.size := (hEp i hi).2
    have zW := hkp.size
    have hEu := (hEp i hi).1
    have hpre : pre.length ≤ d.n := by omega
    have HOW1 : Hid (∀ o, ((W.setCell ⟨E i, 11, none⟩ (.int .i64 (pre.length : Int))).alloc o).ownsRow u.heap.size tEnt 1 (.slice va pre.length vc) pre.length (ptL (eP E (pre.map (·.1))) pre.length)) := hide (fun o => World.ownsRow.alloc (own_at hown (fun q e => Deep.blk_setCell_other _ _ _ _ (by have := (hown.lt q e).1; show q ≠ E i; omega))) _)
    have HAPP : Hid (∀ (o : Obj) (g3 cp3 : Nat) (w3 : World), w3.ownsRow u.heap.size tEnt 1 (.slice (some ⟨g3, 0, none⟩) (pre.length + 1) cp3) (pre.length + 1) (ptL (eP E (pre.map (·.1))) pre.length ++ [.pointer (some ⟨E i, 0, none⟩)]) → ((W.setCell ⟨E i, 11, none⟩ (.int .i64 (pre.length : Int))).alloc o).grownBy w3 (Value.slice va pre.length vc).ownBlock →
        (w3.cell? ⟨w.heap.size, 0, none⟩ = some (.slice va pre.length vc) ∧ w3.frozen? ⟨w.heap.size, 0, none⟩ = false) ∧ KeepsOthers W (w3.setCell ⟨w.heap.size, 0, none⟩ (.slice (some ⟨g3, 0, none⟩) (pre.length + 1) cp3)) ∧ KpE w.heap.size u.heap.size E d.n W (w3.setCell ⟨w.heap.size, 0, none⟩ (.slice (some ⟨g3, 0, none⟩) (pre.length + 1) cp3)) ∧ TgI w u bk w.heap.size u.heap.size E d (pre ++ [⟨i, hi, ht⟩]) (w3.setCell ⟨w.heap.size, 0, none⟩ (.slice (some ⟨g3, 0, none⟩) (pre.length + 1) cp3))) := hide (fun o g3 cp3 w3 h1 h2 => by
      have hrow : ∀ b, b < u.heap.size → (Value.slice va pre.length vc).ownBlock ≠ some b := fun b hb e => by have := (hown.lt b e).1; omega
      have hB : ∀ b, b < u.heap.size → b ≠ E i → w3.heap[b]? = W.heap[b]? := fun b hb he => (h2.block b (by simp; omega) (fun e => hrow b hb e.symm)).trans ((Deep.blk_alloc_lt _ _ _ (by simp; omega)).trans (Deep.blk_setCell_other _ _ _ _ (by exact he)))
      have hBi : w3.heap[E i]? = (W.setCell ⟨E i, 11, none⟩ (.int .i64 (pre.length : Int))).heap[E i]? := (h2.block (E i) (by simp; omega) (fun e => hrow _ hEu e.symm)).trans (Deep.blk_alloc_lt _ _ _ (by simpa using hEi))
      have hzz : W.heap.size ≤ w3.heap.size := by have := h2.size; simp at this; omega
      have hp1 : w3.rowIs w.heap.size 60 1 (fun _ => .slice va pre.length vc) := hp.of_block (hB _ (by omega) (fun e => hne e.symm))
      have hg3 := (World.ownsRow.lt h1 g3 rfl).1
      have os : ∀ b, b ≠ w.heap.size → (w3.setCell ⟨w.heap.size, 0, none⟩ (.slice (some ⟨g3, 0, none⟩) (pre.length + 1) cp3)).heap[b]? = w3.heap[b]? := fun b hb => Deep.blk_setCell_other _ _ _ _ (by exact hb)
      have hei : ECell (w3.setCell ⟨w.heap.size, 0, none⟩ (.slice (some ⟨g3, 0, none⟩) (pre.length + 1) cp3)) (E i) (d.L i) pre.length := ((hec i hi).setPlace pre.length).keep (by simpa using hzz) ((os _ hne).trans hBi)
      have hecs : ∀ j, j < d.n → j ≠ i → ECell (w3.setCell ⟨w.heap.size, 0, none⟩ (.slice (some ⟨g3, 0, none⟩) (pre.length + 1) cp3)) (E j) (d.L j) (f j) := fun j hj hji => (hec j hj).keep (by simpa using hzz) ((os _ (hEp j hj).2).trans (hB _ (hEp j hj).1 (fun e => hji (hBu.inj j i hj hi e))))
      have hkE : KpE w.heap.size u.heap.size E d.n W (w3.setCell ⟨w.heap.size, 0, none⟩ (.slice (some ⟨g3, 0, none⟩) (pre.length + 1) cp3)) := ⟨by simpa using hzz, fun b h1 h2' h3 => (os b h2').trans (hB b h1 (fun e => h3 i hi e.symm)), fun j q hj hq => by
        by_cases e : j = i
        · subst e
          refine (World.cell?_of_block (a := ⟨E j, q, none⟩) ((os _ hne).trans hBi)).trans ?_
          exact cell_set_other (fun e => hq e.symm)
        · exact World.cell?_of_block (a := ⟨E j, q, none⟩) ((os _ (hEp j hj).2).trans (hB _ (hEp j hj).1 (fun e' => e (hBu.inj j i hj hi e'))))⟩
      refine ⟨⟨hp1.cell (i := 0) (by omega), hp1.frozen 0⟩, ?_, hkE, .slice (some ⟨g3, 0, none⟩) (pre.length + 1) cp3, upd f i pre.length, (hp1.set 0 _).congr (fun q hq => by simp [show q = 0 by omega]), ?_, fun j hj => ?_, fun hnd j q hq => ?_, hkp.trans hkE, ?_⟩
      · have hko : KeepsOthers ((W.setCell ⟨E i, 11, none⟩ (.int .i64 (pre.length : Int))).alloc o) w3 := KeepsOthers.of_grownBy h2 (fun j o' e ho => by
          obtain ⟨c, hb⟩ := Rw.block hown e
          have hj := (hown.lt j e)
          rw [Deep.blk_alloc_lt _ _ _ (by simpa using hj.2), Deep.blk_setCell_other _ _ _ _ (by show j ≠ E i; omega), hb] at ho
          cases ho
          rfl)
        exact (((KeepsOthers.setCell W _ _).trans (KeepsOthers.alloc _ _)).trans hko).trans (KeepsOthers.setCell _ _ _)
      · have hl : (pre ++ [⟨i, hi, ht⟩] : List (Liv d)).length = pre.length + 1 := by simp
        have e1 : ptL (eP E (pre.map (·.1))) pre.length ++ [.pointer (some ⟨E i, 0, none⟩)] = ptL (eP E ((pre ++ [⟨i, hi, ht⟩] : List (Liv d)).map (·.1))) (pre.length + 1) := by
          have := eP_snoc E (pre.map (·.1)) i
          rw [List.length_map] at this
          rw [this, List.map_append]
          rfl
        rw [hl]
        refine own_at ?_ (fun q e => os q (by
          have e' : g3 = q := by simpa [Value.ownBlock] using e
          omega))
        rw [e1] at h1
        exact h1
      · by_cases e : j = i
        · subst e; rw [upd_same]; exact hei
        · rw [upd_other _ _ e]; exact hecs j hj e
      · rw [List.map_append] at hnd hq
        have hnd' := List.nodup_append.1 hnd
        by_cases e : j < (pre.map (·.1)).length
        · rw [List.getElem?_append_left e] at hq
          have hne' : q ≠ i := fun e' => hnd'.2.2 q (List.mem_of_getElem? hq) i (by simp) e'
          rw [upd_other _ _ hne']
          exact hfi hnd'.1 j q hq
        · rw [List.getElem?_append_right (by omega)] at hq
          have hj0 : j - (pre.map (·.1)).length = 0 := by
            have h3 := (List.getElem?_eq_some_iff.1 hq).1
            simp at h3
            simp
            omega
          rw [hj0] at hq
          have hqi : i = q := by simpa using hq
          subst hqi
          rw [upd_same]
          rw [List.length_map] at e hj0
          omega
      · exact (((hbw.setCell (by have := hBu.ent i hi; have := (unhide HM).eb i hi; show bk ≤ E i; omega) _).alloc (by simp; omega) _).grown h2 (by simp; omega) (fun k e => by have := (hown.lt k e).1; omega)).setCell (by show bk ≤ w.heap.size; omega) _)
    clear hown hkp hbw hp mb0 hec hfi heb
    gi_wp2_with (gi_at_builtin; refine wpListIn_append_own _ rfl _ _ 60 rfl u.heap.size tEnt i0 (.pointer none) 1 8 Tryd.underlying60 hi0 hz0 hz1 hz2 rfl (by decide) (.slice va pre.length vc) pre.length (ptL (eP E (pre.map (·.1))) pre.length) rfl (unhide HOW1 _) ⟨W.heap.size, 0, none⟩ 1 1 [.pointer (some ⟨E i, 0, none⟩)] rfl rfl (World.news_of_block (by rw [show W.heap.size = (W.setCell ⟨E i, 11, none⟩ (.int .i64 (pre.length : Int))).heap.size by simp]; exact Deep.blk_alloc_new _ _)) (by simp [Value.oneCell']) (by unfold maxLen; omega) (by omega) (by simp; omega) ?_; intro v3 w3 hown3 hgr3 _; obtain ⟨g3, cp3, rfl, _, _⟩ := World.ownsRow.form hown3 (by omega); obtain ⟨⟨x3, f3⟩, HN3⟩ := unhide HAPP _ g3 cp3 w3 hown3 hgr3; clear hown3 hgr3)
    exact HN3
  case done =>
    rintro D ys W hD hlv ⟨v, f, hp, hown, hec, hfi, hkp, hbw⟩ hK
    have hlv' : ys.map (·.1) = livL d d.n := hlv
    have hyl : ys.length = (livL d d.n).length := by rw [← hlv', List.length_map]
    rw [hyl, hlv'] at hown
    rw [hlv'] at hfi
    obtain ⟨va, vc, rfl⟩ := hown.slice
    have x0 := hp.cell (i := 0) (by omega)
    have zW := hkp.size
    have hEb : ∀ i, i < d.n → E i ≠ bk := fun i hi e => by have := (unhide HM).eb i hi; omega
    have hbk : W.heap[bk]? = w.heap[bk]? := (hkp.block bk (by omega) (by omega) hEb).trans (bu.block bk hbkw)
    have c0 : W.cell? ⟨bk, 0, none⟩ = some r0 := (World.cell?_of_block (a := ⟨bk, 0, none⟩) hbk).trans (unhide HM).c0
    have f0 : W.frozen? ⟨bk, 0, none⟩ = false := (World.frozen?_of_block (a := ⟨bk, 0, none⟩) hbk).trans ((unhide HM).fz 0)
    have lW : w.heap.size < W.heap.size := by omega
    have lb : bk < W.heap.size := by omega
    have hDW : D < W.heap.size := (Array.getElem?_eq_some_iff.1 hK).1
    have hMp := packed (unhide HM) (by omega) (fun b hb he => (hkp.block b (by omega) (by omega) he).trans (bu.block b hb)) (n0 := u.heap.size) (p := 0) (by omega) (unhide HI) (unhide HX) hec (fun j hj => hfi (livL_nodup _ _) j _ (List.getElem?_eq_getElem hj)) hown (by omega)
    have hBp : Below bk w (W.setCell ⟨bk, 0, none⟩ (.slice va (livL d d.n).length vc)) := hbw.setCell (by exact Nat.le_refl _) _
    have hPn : ∀ i, i < lvN d → ∃ i', i' < d.n ∧ (d.L i').turn ≠ 0 ∧ lvF d i = d.L i' := fun j hj => by
      obtain ⟨i, h1, h2, h3⟩ := rank_surj d.n hj
      exact ⟨i, h1, h2, by rw [← h3]; exact lvF_at h1 h2⟩
    have HREM : Hid (Calls Tryd.prog 58 #[.pointer (some ⟨bk, 0, none⟩), .int .i64 0] (W.setCell ⟨bk, 0, none⟩ (.slice va (livL d d.n).length vc)) fun e w' => ((∃ u, e = .returned u) ∧ ∃ R2' S', BMut w' bk (.slice va (livL d d.n).length vc) r1 R2' (E' E d) S' (fillL hf (packX d) (sizeX (hldL (packX d) (packX d).n).length) (hldL (packX d) (packX d).n)) ∧ (W.setCell ⟨bk, 0, none⟩ (.slice va (livL d d.n).length vc)).heap.size ≤ R2') ∧ KX (fun b => b = bk) bk (W.setCell ⟨bk, 0, none⟩ (.slice va (livL d d.n).length vc)) w') := hide (by
      have hSm := unhide HS
      have h1 := livL_le d d.n
      have h2 := unhide HL
      have h3 : lvN d = (livL d d.n).length := rfl
      exact remakeIndex_any T hTl hf bk hTb _ r1 R2 (E' E d) S (packX d) 0 _ (hTb _ _ (unhide HT) hBp) hMp ⟨by show lvN d ≤ _; omega, hSm.m, hSm.x⟩ (fun i hi ht => by
        obtain ⟨i', g1, g2, g3⟩ := hPn i hi
        have e : (packX d).L i = d.L i' := g3
        rw [e]
        exact unhide HH i' g1 g2) (by
        have g1 := hldL_le (packX d) (packX d).n
        have g2 := livL_le (packX d) (packX d).n
        have g3 : (packX d).n = lvN d := rfl
        omega))
    have HBP : Hid (KX (fun b => b = bk ∨ ∃ i, i < d.n ∧ E i = b) bk w (W.setCell ⟨bk, 0, none⟩ (.slice va (livL d d.n).length vc))) := hide ⟨hBp, fun b hb hm => (Deep.blk_setCell_other _ _ _ _ (by intro e; exact hm (.inl e))).trans ((hkp.block b (by omega) (by omega) (fun i hi e => hm (.inr ⟨i, hi, e⟩))).trans (bu.block b hb))⟩
    clear hlv hlv' hyl hp hown hec hfi hkp hbw hMp hPn hBp hEb hbk mb0 hpu hBu hMu hEp hRp bu
    generalize (livL d d.n).length = nl at *
    gi_wp2_with fail
    refine ⟨trivial, ?_⟩
    refine (callsIn_wide.2 (unhide HREM)).mono ?_
    rintro e w5 ⟨⟨⟨uu, rfl⟩, R2', S', hM5, _⟩, hkx⟩
    have hK5 : w5.heap[D]? = some (.deferred (some [])) := (hkx.blk D (by simpa using hDW) (by omega)).trans ((Deep.blk_setCell_other _ _ _ _ (by show D ≠ bk; omega)).trans hK)
    have HM5 := hide hM5
    have HB5 := hide ((unhide HBP).trans (hkx.mono (fun b _ e => .inl e)))
    clear hM5 hkx HREM
    gi_wp2
    refine ⟨by simp, .inl ⟨_, _, rfl, run_takeDeferred hK5, ?_⟩⟩
    have hg := grownBy_putObj' w5 D (.deferred none)
    have z5 := (unhide HB5).bel.size
    exact ⟨_, results_none rfl _ _ _, ⟨⟨_, rfl⟩, _, R2', _, S', (unhide HM5).grown hg (fun r e => by cases e; exact ⟨_, hK5, rfl⟩)⟩, (unhide HB5).grown hg (by omega) (fun k e => by cases e; exact .inl (by omega))⟩
end Go.Proofs.YtglcaejddckleaaDoor
namespace Go.Proofs.YtglcaejddckleaaDoor
open Go.RowKit
set_option linter.unusedVariables false

section
variable {w w3 : World} {bk : Nat} {r0 r1 : Value} {R2 : Nat} {E S : Nat → Nat} {d : Dc}
/-- The log is grown by one. -/
theorem BMut.pushL (h : BMut w bk r0 r1 R2 E S d) {W : World} (hW : Below w.heap.size w W) {g3 cp3 : Nat} (he : ECell w (E d.n) (d.L d.n) d.n) (heb : bk < E d.n) (hin : ∀ i, i < d.n → E i ≠ E d.n) (h1 : w3.ownsRow (bk + 1) tEnt 1 (.slice (some ⟨g3, 0, none⟩) (d.n + 1) cp3) (d.n + 1) (ptL (fun i => some ⟨E i, 0, none⟩) d.n ++ [.pointer (some ⟨E d.n, 0, none⟩)])) (hg : W.grownBy w3 r0.ownBlock) (hl : r0.ownBlock = some g3 ∨ w.heap.size ≤ g3) :
    BMut (w3.setCell ⟨bk, 0, none⟩ (.slice (some ⟨g3, 0, none⟩) (d.n + 1) cp3)) bk (.slice (some ⟨g3, 0, none⟩) (d.n + 1) cp3) r1 R2 E S { d with n := d.n + 1 } ∧ Below bk w (w3.setCell ⟨bk, 0, none⟩ (.slice (some ⟨g3, 0, none⟩) (d.n + 1) cp3)) := by
  have hlt := h.lt
  have hwz := hW.size
  have hz : w.heap.size ≤ w3.heap.size := Nat.le_trans hwz hg.size
  have hB : ∀ b, b < w.heap.size → r0.ownBlock ≠ some b → w3.heap[b]? = w.heap[b]? := fun b hb he => (hg.block b (by omega) (fun e => he e.symm)).trans (hW.block b hb)
  have hbk : r0.ownBlock ≠ some bk := fun e => by have := (h.log.lt bk e).1; omega
  have os : ∀ b, b ≠ bk → (w3.setCell ⟨bk, 0, none⟩ (.slice (some ⟨g3, 0, none⟩) (d.n + 1) cp3)).heap[b]? = w3.heap[b]? := fun b hb => Deep.blk_setCell_other _ _ _ _ (by exact hb)
  have hc : ∀ q, w3.cell? ⟨bk, q, none⟩ = w.cell? ⟨bk, q, none⟩ := fun q => World.cell?_of_block (a := ⟨bk, q, none⟩) (hB bk hlt hbk)
  have ho : ∀ q, q ≠ 0 → (w3.setCell ⟨bk, 0, none⟩ (.slice (some ⟨g3, 0, none⟩) (d.n + 1) cp3)).cell? ⟨bk, q, none⟩ = w.cell? ⟨bk, q, none⟩ := fun q hq => (cell_set_other (fun e => hq e.symm)).trans (hc q)
  have ty : ∀ {t : TypeId} {c : Array Value} {b : Nat}, w.heap[b]? = some (.cells c t (0, 0)) → t ≠ tEnt → r0.ownBlock ≠ some b := fun {t c b} hb ht e => by
    obtain ⟨c', hb'⟩ := h.log.block e
    exact type_apart hb hb' ht
  have hg3 := (World.ownsRow.lt h1 g3 rfl).1
  have kE : ∀ {b : Nat} {p : Pr} {i : Nat}, ECell w b p i → bk < b → ECell (w3.setCell ⟨bk, 0, none⟩ (.slice (some ⟨g3, 0, none⟩) (d.n + 1) cp3)) b p i := fun {b p i} hh hb => hh.keep (by simpa using hz) ((os _ (by omega)).trans (hB _ hh.lt (ty hh.ob (by decide))))
  refine ⟨⟨by simpa using Nat.lt_of_lt_of_le hlt hz, World.cell?_setCell_same' _ _ _ (by rw [hc, h.c0]; rfl), (ho 1 (by decide)).trans h.c1, (ho 2 (by decide)).trans h.c2, (ho 3 (by decide)).trans h.c3, (ho 4 (by decide)).trans h.c4, (ho 5 (by decide)).trans h.c5, (ho 6 (by decide)).trans h.c6, fun q => by rw [World.frozen?_setCell]; exact (World.frozen?_of_block (a := ⟨bk, q, none⟩) (hB bk hlt hbk)).trans (h.fz q), ?_, ?_, h.rf, ?_, ?_, fun i hi => ?_, fun i hi => ?_, fun i j hi hj e => ?_, fun j hj => ?_, h.sg⟩, ?_⟩
  · have h2 : (w3.setCell ⟨bk, 0, none⟩ (.slice (some ⟨g3, 0, none⟩) (d.n + 1) cp3)).ownsRow (bk + 1) tEnt 1 (.slice (some ⟨g3, 0, none⟩) (d.n + 1) cp3) (d.n + 1) (ptL (fun i => some ⟨E i, 0, none⟩) d.n ++ [.pointer (some ⟨E d.n, 0, none⟩)]) := own_at h1 (fun q e => os q (by
      have e' : g3 = q := by simpa [Value.ownBlock] using e
      omega))
    exact h2
  · exact own_at h.ints (fun q e => (os q (by have := (h.ints.lt q e).1; omega)).trans (hB q (h.ints.lt q e).2 (fun e' => h.ap q e' e)))
  · exact own_at h.slots (fun q e => by
      obtain ⟨c, hb⟩ := h.slots.block e
      exact (os q (by have := (h.slots.lt q e).1; omega)).trans (hB q (h.slots.lt q e).2 (ty hb (by decide))))
  · intro q e e'
    have e2 : g3 = q := by simpa [Value.ownBlock] using e
    subst e2
    rcases hl with hl | hl
    · exact h.ap g3 hl e'
    · have := (h.ints.lt g3 e').2; omega
  · have hi' : i < d.n + 1 := hi
    by_cases e : i = d.n
    · subst e; exact kE he heb
    · exact kE (h.ent i (by omega)) (h.eb i (by omega))
  · have hi' : i < d.n + 1 := hi
    by_cases e : i = d.n
    · subst e; exact heb
    · exact h.eb i (by omega)
  · have hi' : i < d.n + 1 := hi
    have hj' : j < d.n + 1 := hj
    by_cases ei : i = d.n
    · by_cases ej : j = d.n
      · omega
      · subst ei; exact absurd e.symm (hin j (by omega))
    · by_cases ej : j = d.n
      · subst ej; exact absurd e (hin i (by omega))
      · exact h.inj i j (by omega) (by omega) e
  · by_cases h0 : d.X j = 0
    · exact ⟨fun hp => absurd hp (by show ¬ 0 < d.X j; omega), fun hp => absurd hp (by show ¬ d.X j < 0; omega)⟩
    · exact SlotIs.keep (d := { d with n := d.n + 1 }) (w := w) (h.sl j hj) (by simpa using hz) (fun c hc => (os _ (by have := h.sg j hj h0; omega)).trans (hB _ (Array.getElem?_eq_some_iff.1 hc).1 (ty hc (by decide))))
  · exact ((hW.mono (by omega)).grown hg (by omega) (fun k e => by have := (h.log.lt k e).1; omega)).setCell (by exact Nat.le_refl _) _
end

/-- The dict as it is dropped by the program is the model's. -/
theorem BMut.compact {K : Vl → Prop} {hf : Vl → Nat} {w : World} {bk : Nat} {r0 r1 : Value} {R2 : Nat} {E S : Nat → Nat} {d : Dc} (hc : Core K d) (hl : ¬ ((d.n : Int) < 8 ∨ (d.n : Int) ≤ 2 * d.live)) (h : BMut w bk r0 r1 R2 E S (fillL hf (packX d) (sizeX (hldL (packX d) (packX d).n).length) (hldL (packX d) (packX d).n))) : BMut w bk r0 r1 R2 E S (compactD hf d) := by
  have hp := packD_core hc
  have h : BMut w bk r0 r1 R2 E S (fillL hf (packD d) (sizeX (hldL (packD d) (packD d).n).length) (hldL (packD d) (packD d).n)) := h
  have e1 : compactD hf d = reindexD hf (packD d) 0 := if_neg hl
  have rf := fun x => refill_fill (hf := hf) (d := packD d) (x := x) (fun i hi ht => hp.pos hi ht) (packD d).n (Nat.le_refl _)
  rw [e1]
  by_cases h0 : (hldL (packD d) (packD d).n).length = 0
  · rw [reindexD_none (by rw [(rf 0).2]; omega)]
    have hn : hldL (packD d) (packD d).n = [] := List.eq_nil_of_length_eq_zero h0
    rw [h0, hn] at h
    have h : BMut w bk r0 r1 R2 E S { packD d with x := 0, X := fun _ => 0, used := 0 } := h
    exact h.of_same rfl rfl rfl rfl rfl rfl (fun _ _ => rfl) (fun j hj => absurd hj (Nat.not_lt_zero _)) (fun _ _ => rfl) (fun _ _ => rfl) (fun i hi => by
      rcases hp.ints i hi with e | e
      · show (packD d).I i ≤ ((packD d).n : Int); omega
      · exact e.2.1) (fun j hj => absurd hj (Nat.not_lt_zero _))
  · rw [reindexD_some (by rw [(rf 0).2]; omega), (rf _).1, (rf 0).2]
    have e2 : sizeX (hldL (packD d) (packD d).n).length = sizeFor ((hldL (packD d) (packD d).n).length + 0) := if_neg h0
    rw [e2] at h
    exact h

/-! A pair on its way: told, but not yet in the log. -/
def onW (c : Dc) (k v : Vl) : Dc := { addL c k v with n := c.n }
theorem onW_L (c : Dc) (k v : Vl) : (onW c k v).L c.n = ⟨k, v, c.turns + 1⟩ := upd_same _ _ _
theorem onW_old (c : Dc) (k v : Vl) {i : Nat} (hi : i < c.n) : (onW c k v).L i = c.L i := upd_other _ _ (by omega)
theorem enter_onW (hf : Vl → Nat) (c : Dc) (k v k' : Vl) (p : Nat) : enterD hf (onW c k v) k' p = onW (enterD hf c k' p) k v := by
  unfold enterD
  show (match freeSlot c.x c.X (hf k' % c.x) with | none => _ | some s => _) = _
  cases freeSlot c.x c.X (hf k' % c.x) <;> rfl
theorem enter_n (hf : Vl → Nat) (c : Dc) (k' : Vl) (p : Nat) : (enterD hf c k' p).n = c.n := by
  unfold enterD
  cases freeSlot c.x c.X (hf k' % c.x) <;> rfl
theorem enter_cut (hf : Vl → Nat) (c : Dc) (k' : Vl) (p n : Nat) : enterD hf { c with n := n } k' p = { enterD hf c k' p with n := n } := by
  unfold enterD
  show (match freeSlot c.x c.X (hf k' % c.x) with | none => _ | some s => _) = _
  cases freeSlot c.x c.X (hf k' % c.x) <;> rfl
theorem fill_n (hf : Vl → Nat) (c : Dc) (x : Nat) (l : List Nat) : (fillL hf c x l).n = c.n := by
  suffices h : ∀ (l : List Nat) (b : Dc), b.n = c.n → (l.foldl (fun e p => enterD hf e (c.L p).key p) b).n = c.n from h l _ rfl
  intro l
  induction l with
  | nil => intro b hb; exact hb
  | cons p l ih => intro b hb; exact ih _ ((enter_n hf b _ _).trans hb)
theorem fill_onW (hf : Vl → Nat) (c : Dc) (k v : Vl) (x : Nat) (l : List Nat) (hl : ∀ p ∈ l, p < c.n) : fillL hf (onW c k v) x l = onW (fillL hf c x l) k v := by
  suffices h : ∀ (l : List Nat), (∀ p ∈ l, p < c.n) → ∀ b : Dc, l.foldl (fun e p => enterD hf e ((onW c k v).L p).key p) (onW b k v) = onW (l.foldl (fun e p => enterD hf e (c.L p).key p) b) k v from h l hl { c with x := x, X := fun _ => 0, used := 0 }
  intro l
  induction l with
  | nil => intro _ b; rfl
  | cons p l ih =>
    intro hl b
    show l.foldl _ (enterD hf (onW b k v) ((onW c k v).L p).key p) = _
    rw [onW_old c k v (hl p (by simp)), enter_onW]
    exact ih (fun q hq => hl q (by simp [hq])) _
theorem hld_onW (c : Dc) (k v : Vl) : hldL (onW c k v) (onW c k v).n = hldL c c.n := by
  unfold hldL
  have e : livL (onW c k v) (onW c k v).n = livL c c.n := livL_congr c.n (fun i hi => by rw [onW_old c k v hi])
  rw [e]
  refine List.filter_congr (fun i hi => ?_)
  rw [onW_old c k v (mem_livL.1 hi).1]
  rfl
theorem room_onW {K : Vl → Prop} {hf : Vl → Nat} {c : Dc} {k v : Vl} (hc : Core K c) : roomB hf (onW c k v) = onW (roomD hf c) k v := by
  have rf := fun x => refill_fill (hf := hf) (d := c) (x := x) (fun i hi ht => hc.pos hi ht) c.n (Nat.le_refl _)
  unfold roomB roomD
  rw [hld_onW]
  by_cases h : (c.x : Int) < 2 * (c.used + 1)
  · rw [if_pos h, if_pos (show ((onW c k v).x : Int) < 2 * ((onW c k v).used + 1) from h), reindexD_some (by omega), (rf _).1, (rf 0).2, fill_onW hf c k v _ _ (fun p hp => (mem_hldL hp).1)]
    have e : sizeX ((hldL c c.n).length + 1) = sizeFor ((hldL c c.n).length + 1) := if_neg (by omega)
    rw [e]
  · rw [if_neg h, if_neg (show ¬ ((onW c k v).x : Int) < 2 * ((onW c k v).used + 1) from h)]
theorem onW_addL {c : Dc} {k v : Vl} {n : Nat} (h : c.n = n) : onW c k v = { addL c k v with n := n } := by subst h; rfl
end Go.Proofs.YtglcaejddckleaaDoor
namespace Go.Proofs.YtglcaejddckleaaDoor
open Go.RowKit
set_option linter.unusedVariables false
attribute [local go_sem] run_store_float run_equalIn_float

/-- The cells of a value in a box. -/
structure VBox (W : World) (b : Nat) (k : Vl) : Prop where
  lt : b < W.heap.size
  k0 : W.cell? ⟨b, 0, none⟩ = some (.int .i64 k.kind)
  k1 : W.cell? ⟨b, 1, none⟩ = some (.int .i64 k.num)
  k2 : W.cell? ⟨b, 2, none⟩ = some (.float .f64 k.flt)
  k3 : W.cell? ⟨b, 3, none⟩ = some (.string k.str)
  k4 : W.cell? ⟨b, 4, none⟩ = some (.int .i64 k.ref)
theorem VBox.keep {W W' : World} {b : Nat} {k : Vl} (h : VBox W b k) (hz : W.heap.size ≤ W'.heap.size) (e : W'.heap[b]? = W.heap[b]?) : VBox W' b k :=
  ⟨Nat.lt_of_lt_of_le h.lt hz, (World.cell?_of_block e).trans h.k0, (World.cell?_of_block e).trans h.k1, (World.cell?_of_block e).trans h.k2, (World.cell?_of_block e).trans h.k3, (World.cell?_of_block e).trans h.k4⟩
def HeldN (n0 bk : Nat) (k v : Vl) (t : Int) (a : Option Addr) (n c : Nat) (W : World) : Prop := W.cell? ⟨n0, 0, none⟩ = some (.int .i64 k.kind) ∧ W.cell? ⟨n0, 1, none⟩ = some (.int .i64 k.num) ∧ W.cell? ⟨n0, 2, none⟩ = some (.float .f64 k.flt) ∧ W.cell? ⟨n0, 3, none⟩ = some (.string k.str) ∧ W.cell? ⟨n0, 4, none⟩ = some (.int .i64 k.ref) ∧ W.cell? ⟨n0 + 1, 0, none⟩ = some (.int .i64 v.kind) ∧ W.cell? ⟨n0 + 1, 1, none⟩ = some (.int .i64 v.num) ∧ W.cell? ⟨n0 + 1, 2, none⟩ = some (.float .f64 v.flt) ∧ W.cell? ⟨n0 + 1, 3, none⟩ = some (.string v.str) ∧ W.cell? ⟨n0 + 1, 4, none⟩ = some (.int .i64 v.ref) ∧ W.cell? ⟨bk, 6, none⟩ = some (.int .i64 t) ∧ W.cell? ⟨bk, 0, none⟩ = some (.slice a n c)
def HeldT (bk n0 R1 m k1 q : Nat) (W : World) : Prop := W.cell? ⟨bk, 1, none⟩ = some (.slice (some ⟨R1, 0, none⟩) m k1) ∧ W.cell? ⟨n0, 1, none⟩ = some (.int .i64 ((q : Int) + 1))
theorem livN_hld {K : Vl → Prop} {c : Dc} (h : Core K c) (hl : c.live < 500) : (hldL c c.n).length + 1 ≤ 500 := by
  have h1 := hldL_le c c.n
  have h2 := h.live_n
  have h3 : lvN c = (livL c c.n).length := rfl
  omega
/-- What the end of an adding wants: a book that has all but the pair in the log. -/
structure AEnd (W : World) (bk : Nat) (r0 r1 : Value) (R2 : Nat) (E S : Nat → Nat) (D : Dc) : Prop where
  bm : BMut W bk r0 r1 R2 E S D
  e : ECell W (E D.n) (D.L D.n) D.n
  eb : bk < E D.n
  ne : ∀ i, i < D.n → E i ≠ E D.n

theorem AEnd.fin {Wx w3 : World} {bk : Nat} {r0 r1 : Value} {R2 : Nat} {E S : Nat → Nat} {D : Dc} (h : AEnd Wx bk r0 r1 R2 E S D) {o : Obj} {g3 cp3 : Nat} (h1 : w3.ownsRow (bk + 1) tEnt 1 (.slice (some ⟨g3, 0, none⟩) (D.n + 1) cp3) (D.n + 1) (ptL (fun i => some ⟨E i, 0, none⟩) D.n ++ [.pointer (some ⟨E D.n, 0, none⟩)])) (hg : (Wx.alloc o).grownBy w3 r0.ownBlock) (hl : r0.ownBlock = some g3 ∨ g3 = Wx.heap.size + 1) :
    w3.cell? ⟨bk, 0, none⟩ = some r0 ∧ w3.frozen? ⟨bk, 0, none⟩ = false ∧ bk < w3.heap.size ∧ BMut (w3.setCell ⟨bk, 0, none⟩ (.slice (some ⟨g3, 0, none⟩) (D.n + 1) cp3)) bk (.slice (some ⟨g3, 0, none⟩) (D.n + 1) cp3) r1 R2 E S { D with n := D.n + 1 } ∧ Below bk Wx (w3.setCell ⟨bk, 0, none⟩ (.slice (some ⟨g3, 0, none⟩) (D.n + 1) cp3)) := by
  have hlt := h.bm.lt
  have hn : r0.ownBlock ≠ some bk := fun e => by have := (h.bm.log.lt bk e).1; omega
  have hb : w3.heap[bk]? = Wx.heap[bk]? := (hg.block bk (by simp; omega) (fun e => hn e.symm)).trans (Deep.blk_alloc_lt _ _ _ hlt)
  have hz : Wx.heap.size + 1 ≤ w3.heap.size := by have := hg.size; simpa using this
  obtain ⟨p1, p2⟩ := h.bm.pushL ((Below.refl _ _).alloc (Nat.le_refl _) o) h.e h.eb h.ne h1 hg (by rcases hl with hl | hl; exact .inl hl; exact .inr (by omega))
  exact ⟨(World.cell?_of_block (a := ⟨bk, 0, none⟩) hb).trans h.bm.c0, (World.frozen?_of_block (a := ⟨bk, 0, none⟩) hb).trans (h.bm.fz 0), by omega, p1, p2⟩
theorem HeldN.below {n0 bk : Nat} {k v : Vl} {t : Int} {a : Option Addr} {n c : Nat} {W W' : World} (h : HeldN n0 bk k v t a n c W) (hb : Below W.heap.size W W') (h0 : n0 + 1 < W.heap.size) (h1 : bk < W.heap.size) : HeldN n0 bk k v t a n c W' := by
  obtain ⟨s0, s1, s2, s3, s4, s5, s6, s7, s8, s9, s10, s11⟩ := h
  have e : ∀ {b q : Nat}, b < W.heap.size → W'.cell? ⟨b, q, none⟩ = W.cell? ⟨b, q, none⟩ := fun {b q} hh => hb.cell (p := ⟨b, q, none⟩) hh
  exact ⟨(e (by omega)).trans s0, (e (by omega)).trans s1, (e (by omega)).trans s2, (e (by omega)).trans s3, (e (by omega)).trans s4, (e h0).trans s5, (e h0).trans s6, (e h0).trans s7, (e h0).trans s8, (e h0).trans s9, (e h1).trans s10, (e h1).trans s11⟩

set_option maxRecDepth 100000 in
set_option maxHeartbeats 8000000 in
theorem add_any (T : World → Prop) (hTl : Lasts T) (hf : Vl → Nat) (K : Vl → Prop) (KL : KeyLaw K hf) (hHs : ∀ v, K v → HsI T v (hf v)) (bk : Nat) (hTb : ∀ w w', T w → Below bk w w' → T w') (r0 r1 : Value) (R2 : Nat) (E S : Nat → Nat) (d : Dc) (k v : Vl) (w : World) (hT : T w) (hM : BMut w bk r0 r1 R2 E S d) (hS : Small d) (hm4 : d.m ≤ 4000000)
    (hI : Inv K hf d) (hk : K k) (hkb : keyB k = true) (hv : v.ok = true) (hv0 : v.kind ≠ 0) (hno : ∀ i, i < d.n → (d.L i).turn ≠ 0 → likeB (d.L i).key k = false) (hl : d.live < 500) (ht : d.turns < 1000000000000) :
    Calls Tryd.prog 29 #[.pointer (some ⟨bk, 0, none⟩), V k.kind k.num k.flt k.str k.ref, V v.kind v.num v.flt v.str v.ref] w fun e w' => ((∃ u, e = .returned u) ∧ ∃ r0' r1' R2' E2 S', BMut w' bk r0' r1' R2' E2 S' (comeD hf d k v)) ∧ Below bk w w' := by
  obtain ⟨i0, hi0, hz0, hz1, hz2⟩ := info_parts infoEnt
  have hlt := hM.lt
  have hcnt : 0 ≤ d.live := by have := hI.i0.log.cnt; omega
  have hb0 : Below w.heap.size w ((w.alloc (.cells #[.int .i64 k.kind, .int .i64 k.num, .float .f64 k.flt, .string k.str, .int .i64 k.ref] 32)).alloc (.cells #[.int .i64 v.kind, .int .i64 v.num, .float .f64 v.flt, .string v.str, .int .i64 v.ref] 32)) := ((Below.refl _ _).alloc (Nat.le_refl _) _).alloc (by simp) _
  -- what is known behind the tightening
  obtain ⟨cl1, cl2, cl3, cl4⟩ := compactD_live (hf := hf) hI.i0.core
  have hci := compactD_inv hI.i0
  have hcn := compactD_next (hf := hf) hI.i0.core hI.next
  have hcno : ∀ i, i < (compactD hf d).n → ((compactD hf d).L i).turn ≠ 0 → likeB ((compactD hf d).L i).key k = false := fun i hi hti => by
    cases e : likeB ((compactD hf d).L i).key k
    · rfl
    · obtain ⟨j, h1, h2, h3⟩ := (compactD_pairs (hf := hf) hI.i0.core (fun p => likeB p.key k = true)).1 ⟨i, hi, hti, e⟩
      have h4 := hno j h1 h2
      rw [h3] at h4
      cases h4
  have hcx : (compactD hf d).x ≤ 4000 := by
    rcases hci.sz with h | h
    · omega
    · exact h.2.1
  have hcn' : (compactD hf d).n ≤ 4194304 := by
    rcases cl4 with h | h <;> omega
  have hcI : ∀ i, i < (compactD hf d).m → (compactD hf d).I i ≤ (compactD hf d).n := fun i hi => by
    rcases hci.ints i hi with e | e
    · omega
    · exact e.2.1
  have hcX : ∀ j, j < (compactD hf d).x → (compactD hf d).X j ≤ (compactD hf d).n := fun j hj => by
    rcases hci.idx.range j hj with e | e | ⟨e1, e2, _⟩ <;> omega
  have HRES : Hid (comeD hf d k v = comeC hf (compactD hf d) k v) := hide rfl
  have TIGHT : ∀ W, Below w.heap.size w W → looseK d → Calls Tryd.prog 45 #[.pointer (some ⟨bk, 0, none⟩)] W fun e w' => ((∃ u, e = .returned u) ∧ ∃ r0' R2' E2 S', BMut w' bk r0' r1 R2' E2 S' (compactD hf d)) ∧ KX (fun b => b = bk ∨ ∃ i, i < d.n ∧ E i = b) bk W w' := fun W hW hlo => by
    refine (tighten_any T hTl hf bk hTb r0 r1 R2 E S d W (hTl _ _ hT hW) (hM.below hW) hS (fun i hi ht => hHs _ (hI.i0.keys i hi ht)) (by have := hI.i0.core.live_n; omega) (fun j hj => by
      rcases hI.i0.ints j hj with e | e
      · exact .inl e
      · exact .inr ⟨e.1, e.2.1, e.2.2.1⟩) (fun j hj h0 => by
      rcases hI.i0.idx.range j hj with e | e | ⟨e1, e2, e3, _⟩
      · omega
      · omega
      · exact ⟨by omega, e3⟩)).mono ?_
    rintro e w' ⟨⟨hu, r0', R2', E2, S', hN⟩, hkx⟩
    exact ⟨⟨hu, r0', R2', E2, S', hN.compact hI.i0.core (by have := hlo.1; have := hlo.2; omega)⟩, hkx⟩
  have HTIGHT := hide TIGHT
  have HE : Hid (∀ i, i < d.n → E i < w.heap.size) := hide (fun i hi => (hM.ent i hi).lt)
  have HC : Hid (¬ looseK d → compactD hf d = d) := hide (fun h => if_pos (by
    by_cases h8 : (d.n : Int) < 8
    · exact .inl h8
    · exact .inr (by
        refine Classical.byContradiction fun h2 => h ⟨by omega, by omega⟩)))
  have HM := hide hM
  have HLO : Hid (∀ W, Below w.heap.size w W → Calls Tryd.prog 44 #[.pointer (some ⟨bk, 0, none⟩)] W fun e w' => e = .returned (.bool (tells (looseK d))) ∧ Below W.heap.size W w') := hide (fun W hW => isLoose_any bk r0 r1 R2 E S d W (hM.below hW) hS hcnt (by omega))
  have HB0 := hide hb0
  have HT := hide hT
  rw [unhide HRES]
  have hclive : (compactD hf d).live < 500 := by omega
  have hcturn : (compactD hf d).turns < 1000000000000 := by omega
  have hcm : (compactD hf d).m ≤ 4000000 := by omega
  clear cl1 cl2 cl3 cl4 HRES TIGHT hM hS hT hb0 hI hno hl ht hcnt
  generalize compactD hf d = c at *
  have HV0 : Hid (VBox ((w.alloc (.cells #[.int .i64 k.kind, .int .i64 k.num, .float .f64 k.flt, .string k.str, .int .i64 k.ref] 32)).alloc (.cells #[.int .i64 v.kind, .int .i64 v.num, .float .f64 v.flt, .string v.str, .int .i64 v.ref] 32)) w.heap.size k ∧ VBox ((w.alloc (.cells #[.int .i64 k.kind, .int .i64 k.num, .float .f64 k.flt, .string k.str, .int .i64 k.ref] 32)).alloc (.cells #[.int .i64 v.kind, .int .i64 v.num, .float .f64 v.flt, .string v.str, .int .i64 v.ref] 32)) (w.heap.size + 1) v) := hide ⟨⟨by simp; omega, by simp [go_sem], by simp [go_sem], by simp [go_sem], by simp [go_sem], by simp [go_sem]⟩, ⟨by simp, by simp [go_sem], by simp [go_sem], by simp [go_sem], by simp [go_sem], by simp [go_sem]⟩⟩
  by_cases hlo : looseK d
  · have HLT := hide (tells_yes hlo)
    have HT2 := hide (fun W hW => unhide HTIGHT W hW hlo)
    clear hlo HC
    go_enter Tryd.func29, Tryd.ntmps29
    go_wp2_with fail
    refine (unhide HLO _ (unhide HB0)).mono ?_
    rintro e w1 ⟨rfl, hb1⟩
    rw [unhide HLT]
    have HB1 := hide ((unhide HB0).trans (hb1.mono (unhide HB0).size))
    have HK1 := hide ((unhide HV0).1.keep hb1.size (hb1.block _ (unhide HV0).1.lt))
    have HV1 := hide ((unhide HV0).2.keep hb1.size (hb1.block _ (unhide HV0).2.lt))
    clear hb1
    go_wp2_with fail
    refine (unhide HT2 _ (unhide HB1)).mono ?_
    rintro e W ⟨⟨⟨uu, rfl⟩, r0c, R2c, Ec, Sc, hMc⟩, hkx⟩
    have vk : VBox W w.heap.size k := (unhide HK1).keep hkx.bel.size (hkx.blk _ (unhide HK1).lt (by
      rintro (e | ⟨i, hi, e⟩)
      · omega
      · have := unhide HE i hi; omega))
    have vv : VBox W (w.heap.size + 1) v := (unhide HV1).keep hkx.bel.size (hkx.blk _ (unhide HV1).lt (by
      rintro (e | ⟨i, hi, e⟩)
      · omega
      · have := unhide HE i hi; omega))
    have hBW : Below bk w W := ((unhide HB1).mono (by omega)).trans hkx.bel
    clear hkx HT2 HK1 HV1 HB1 HV0 HB0 HLO HTIGHT
    obtain ⟨la, lc, e0⟩ := hMc.log.slice
    subst e0
    have c6 := hMc.c6
    have c5 := hMc.c5
    have f5 := hMc.fz 5
    have f6 := hMc.fz 6
    have hlW := hMc.lt
    have tp := hci.turns.1
    have cp0 : 0 ≤ c.live := by have := hci.log.cnt; omega
    have hw6 : IntKind.i64.wrap (c.turns + 1) = c.turns + 1 := by rw [IntKind.wrap_i64]; omega
    have hw5 : IntKind.i64.wrap (c.live + 1) = c.live + 1 := by rw [IntKind.wrap_i64]; omega
    have HM2 := hide ((hMc.setTurns (c.turns + 1)).setLive (c.live + 1))
    have HVK := hide vk
    have HVV := hide vv
    have HBW := hide hBW
    clear hMc vk vv hBW
    go_wp2_with fail
    generalize hW2 : (W.setCell ⟨bk, 6, none⟩ (.int .i64 (c.turns + 1))).setCell ⟨bk, 5, none⟩ (.int .i64 (c.live + 1)) = W2 at *
    have vk2 : VBox W2 w.heap.size k := (unhide HVK).keep (by rw [← hW2]; simp) (by rw [← hW2]; exact (Deep.blk_setCell_other _ _ _ _ (by show w.heap.size ≠ bk; omega)).trans (Deep.blk_setCell_other _ _ _ _ (by show w.heap.size ≠ bk; omega)))
    have vv2 : VBox W2 (w.heap.size + 1) v := (unhide HVV).keep (by rw [← hW2]; simp) (by rw [← hW2]; exact (Deep.blk_setCell_other _ _ _ _ (by show w.heap.size + 1 ≠ bk; omega)).trans (Deep.blk_setCell_other _ _ _ _ (by show w.heap.size + 1 ≠ bk; omega)))
    have HB2 : Hid (Below bk w W2) := hide (by rw [← hW2]; exact ((unhide HBW).setCell (by exact Nat.le_refl _) _).setCell (by exact Nat.le_refl _) _)
    have hM2 := unhide HM2
    have hl2 : bk < W2.heap.size := hM2.lt
    have c6' : W2.cell? ⟨bk, 6, none⟩ = some (.int .i64 (c.turns + 1)) := hM2.c6
    have c0' : W2.cell? ⟨bk, 0, none⟩ = some (.slice la c.n lc) := hM2.c0
    have lk2 := vk2.lt
    have lv2 := vv2.lt
    have hS0 : HeldN w.heap.size bk k v (c.turns + 1) la c.n lc W2.drew := ⟨vk2.k0, vk2.k1, vk2.k2, vk2.k3, vk2.k4, vv2.k0, vv2.k1, vv2.k2, vv2.k3, vv2.k4, c6', c0'⟩
    have HVK2 := hide vk2
    clear HVK HVV HBW hM2 vk2 vv2 c6 c5 f5 f6 c6' c0' hW2 hw5 hw6
    refine wpN_held (HeldN w.heap.size bk k v (c.turns + 1) la c.n lc) (by kernel_rfl) ?_
    change wpAnyH _ _ _ _ _ _ _ _ (World.drew _)
    refine tk 0 (v := ?_) rfl (by kernel_rfl) (by rfl) ?_ (by assumption) ?_
    rotate_left
    · intro w' ⟨s0, s1, s2, s3, s4, s5, s6, s7, s8, s9, s10, s11⟩; go_simp; first | done | with_reducible rfl
    simp only [Act.put, List.setIfInBounds_toArray, List.set_cons_succ, List.set_cons_zero]
    refine tk 1 (v := ?_) rfl (by kernel_rfl) (by rfl) ?_ (by assumption) ?_
    rotate_left
    · intro w' ⟨s0, s1, s2, s3, s4, s5, s6, s7, s8, s9, s10, s11⟩; go_simp; first | done | with_reducible rfl
    simp only [Act.put, List.setIfInBounds_toArray, List.set_cons_succ, List.set_cons_zero]
    refine tk 2 (v := ?_) rfl (by kernel_rfl) (by rfl) ?_ (by assumption) ?_
    rotate_left
    · intro w' ⟨s0, s1, s2, s3, s4, s5, s6, s7, s8, s9, s10, s11⟩; go_simp; first | done | with_reducible rfl
    simp only [Act.put, List.setIfInBounds_toArray, List.set_cons_succ, List.set_cons_zero]
    refine tk 3 (v := ?_) rfl (by kernel_rfl) (by rfl) ?_ (by assumption) ?_
    rotate_left
    · intro w' ⟨s0, s1, s2, s3, s4, s5, s6, s7, s8, s9, s10, s11⟩; go_simp; first | done | with_reducible rfl
    simp only [Act.put, List.setIfInBounds_toArray, List.set_cons_succ, List.set_cons_zero]
    refine tk 4 (v := ?_) rfl (by kernel_rfl) (by rfl) ?_ (by assumption) ?_
    rotate_left
    · intro w' ⟨s0, s1, s2, s3, s4, s5, s6, s7, s8, s9, s10, s11⟩; go_simp; first | done | with_reducible rfl
    simp only [Act.put, List.setIfInBounds_toArray, List.set_cons_succ, List.set_cons_zero]
    refine tk 5 (v := ?_) rfl (by kernel_rfl) (by rfl) ?_ (by assumption) ?_
    rotate_left
    · intro w' ⟨s0, s1, s2, s3, s4, s5, s6, s7, s8, s9, s10, s11⟩; go_simp; first | done | with_reducible rfl
    simp only [Act.put, List.setIfInBounds_toArray, List.set_cons_succ, List.set_cons_zero]
    refine tk 6 (v := ?_) rfl (by kernel_rfl) (by rfl) ?_ (by assumption) ?_
    rotate_left
    · intro w' ⟨s0, s1, s2, s3, s4, s5, s6, s7, s8, s9, s10, s11⟩; go_simp; first | done | with_reducible rfl
    simp only [Act.put, List.setIfInBounds_toArray, List.set_cons_succ, List.set_cons_zero]
    refine tk 7 (v := ?_) rfl (by kernel_rfl) (by rfl) ?_ (by assumption) ?_
    rotate_left
    · intro w' ⟨s0, s1, s2, s3, s4, s5, s6, s7, s8, s9, s10, s11⟩; go_simp; first | done | with_reducible rfl
    simp only [Act.put, List.setIfInBounds_toArray, List.set_cons_succ, List.set_cons_zero]
    refine tk 8 (v := ?_) rfl (by kernel_rfl) (by rfl) ?_ (by assumption) ?_
    rotate_left
    · intro w' ⟨s0, s1, s2, s3, s4, s5, s6, s7, s8, s9, s10, s11⟩; go_simp; first | done | with_reducible rfl
    simp only [Act.put, List.setIfInBounds_toArray, List.set_cons_succ, List.set_cons_zero]
    refine tk 9 (v := ?_) rfl (by kernel_rfl) (by rfl) ?_ (by assumption) ?_
    rotate_left
    · intro w' ⟨s0, s1, s2, s3, s4, s5, s6, s7, s8, s9, s10, s11⟩; go_simp; first | done | with_reducible rfl
    simp only [Act.put, List.setIfInBounds_toArray, List.set_cons_succ, List.set_cons_zero]
    refine tk 10 (v := ?_) rfl (by kernel_rfl) (by rfl) ?_ (by assumption) ?_
    rotate_left
    · intro w' ⟨s0, s1, s2, s3, s4, s5, s6, s7, s8, s9, s10, s11⟩; go_simp; first | done | with_reducible rfl
    simp only [Act.put, List.setIfInBounds_toArray, List.set_cons_succ, List.set_cons_zero]
    refine tk 11 (v := ?_) rfl (by kernel_rfl) (by rfl) ?_ (by assumption) ?_
    rotate_left
    · intro w' ⟨s0, s1, s2, s3, s4, s5, s6, s7, s8, s9, s10, s11⟩; go_simp; first | done | with_reducible rfl
    simp only [Act.put, List.setIfInBounds_toArray, List.set_cons_succ, List.set_cons_zero]
    refine tk 12 (v := ?_) rfl (by kernel_rfl) (by rfl) ?_ (by assumption) ?_
    rotate_left
    · intro w' ⟨s0, s1, s2, s3, s4, s5, s6, s7, s8, s9, s10, s11⟩; go_simp; first | done | with_reducible rfl
    simp only [Act.put, List.setIfInBounds_toArray, List.set_cons_succ, List.set_cons_zero]
    refine wpAnyH_ready (rs := [13]) (by kernel_rfl) (by simp) ?_
    refine AllReadyH.cons rfl (fun K hK => ?_) AllReadyH.nil
    go_simp
    refine hK.out _ _ (hS0.below ((Below.refl _ _).alloc (Nat.le_refl _) _) lv2 hl2) (fun hS1 => ?_)
    clear hK K
    refine tk 14 (v := ?_) rfl (by kernel_rfl) (by rfl) ?_ (by assumption) ?_
    rotate_left
    · intro w' ⟨s0, s1, s2, s3, s4, s5, s6, s7, s8, s9, s10, s11⟩; go_simp; first | done | with_reducible rfl
    simp only [Act.put, List.setIfInBounds_toArray, List.set_cons_succ, List.set_cons_zero]
    try simp only [List.getElem_toArray]
    try simp only [List.getElem_cons_succ]
    try simp only [List.getElem_cons_zero]
    try simp only [List.setIfInBounds_toArray]
    try simp only [List.set_cons_succ]
    try simp only [List.set_cons_zero]
    refine wpAnyH_done (by kernel_rfl) ?_ _
    refine QN.normal ?_
    clear hS0 hS1
    obtain ⟨W3, hW3⟩ : ∃ W3, W3 = (W2.alloc (.cells (entA ⟨k, v, c.turns + 1⟩ c.n) 57)).drew := ⟨_, rfl⟩
    try simp only [World.alloc_drew]
    rw [← hW3]
    have z3 : W3.heap.size = W2.heap.size + 1 := by rw [hW3]; simp
    have hb3 : Below W2.heap.size W2 W3 := by rw [hW3]; exact ((Below.refl _ _).alloc (Nat.le_refl _) _).drew
    have ob3 : W3.heap[W2.heap.size]? = some (.cells (entA ⟨k, v, c.turns + 1⟩ c.n) 57 (0, 0)) := by rw [hW3]; exact Deep.blk_alloc_new _ _
    have vk3 : VBox W3 w.heap.size k := (unhide HVK2).keep hb3.size (hb3.block _ lk2)
    have HB3 := hide ((unhide HB2).trans (hb3.mono (by omega)))
    obtain ⟨E1, hE1⟩ : ∃ E1, E1 = upd Ec c.n W2.heap.size := ⟨_, rfl⟩
    have hE1n : E1 c.n = W2.heap.size := by rw [hE1]; exact upd_same _ _ _
    have hA : AEnd W3 bk (.slice la c.n lc) r1 R2c E1 Sc (onW c k v) := by
      have hM3 := (unhide HM2).below hb3
      refine ⟨hM3.of_same rfl rfl rfl rfl rfl rfl (fun _ _ => rfl) (fun _ _ => rfl) (fun i hi => upd_other _ _ (by have hi' : i < c.n := hi; omega)) (fun i hi => by rw [hE1]; exact upd_other _ _ (by have hi' : i < c.n := hi; omega)) hcI hcX, ?_, ?_, fun i hi => ?_⟩
      · show ECell W3 (E1 c.n) ((onW c k v).L c.n) c.n
        rw [hE1n, onW_L]
        exact ECell.of_ob ob3
      · show bk < E1 c.n
        omega
      · have hi' : i < c.n := hi
        show E1 i ≠ E1 c.n
        rw [hE1n, hE1, upd_other _ _ (by omega)]
        have := ((unhide HM2).ent i hi').lt
        omega
    have l3 := vk3.lt
    have lb3 := hA.bm.lt
    obtain ⟨R1, k1, e1⟩ := hA.bm.rf
    have e1 : r1 = .slice (some ⟨R1, 0, none⟩) c.m k1 := e1
    have c1 : W3.cell? ⟨bk, 1, none⟩ = some (.slice (some ⟨R1, 0, none⟩) c.m k1) := by rw [← e1]; exact hA.bm.c1
    have hR1 := (hA.bm.ints.lt R1 (by rw [e1]; rfl)).1
    have hR1l := (hA.bm.ints.lt R1 (by rw [e1]; rfl)).2
    have q0 := vk3.k0
    have q1 := vk3.k1
    have q2 := vk3.k2
    have q3 := vk3.k3
    have q4 := vk3.k4
    have HA := hide hA
    have HVK3 := hide vk3
    have HE1 := hide hE1n
    have HE1r := hide e1
    rw [← hE1n]
    clear hA vk3 hE1 hE1n e1 ob3 hb3 hW3 HM2 HB2 HVK2 z3
    by_cases hs : smallK c.m k
    · have HSM := hide (tells_yes hs)
      obtain ⟨a1, a2, a3⟩ := hs
      obtain ⟨q, hq⟩ : ∃ q : Nat, k.num = (q : Int) + 1 := ⟨(k.num - 1).toNat, by omega⟩
      have hqm : q < c.m := by omega
      have HRES : Hid ({ onW c k v with I := upd (onW c k v).I q ((c.n : Int) + 1), n := c.n + 1 } = comeC hf c k v) := hide (by
        have e : comeC hf c k v = addSmall c k v := if_pos ⟨a1, a2, a3⟩
        rw [e]
        unfold addSmall
        rw [show (k.num - 1).toNat = q by omega]
        rfl)
      have hwq : IntKind.i64.wrap (q : Int) = q := by rw [IntKind.wrap_i64]; omega
      have HQ := hide hq
      clear a1 a2 a3 hq
      go_wp2_with fail
      refine wp_region_quiet (C := fun w' => Below W3.heap.size W3 w') (by kernel_rfl) (by kernel_rfl) ((Below.refl _ _).drew) ?_
      show wpQuiet _ _ _ _ [_, _, _, _, _, _, _] _
      refine wpQuiet_step (fun K hK => ?_)
      go_simp
      apply Exists.intro
      refine And.intro (fun w' hw' => ?_) (hK _ ?_)
      · obtain ⟨hc', hf'⟩ := bcell hw'
        go_simp
        first | rfl | exact ⟨rfl, rfl⟩ | exact ⟨rfl⟩
      clear hK K
      refine wpQuiet_step (fun K hK => ?_)
      go_simp
      refine ⟨_, fun w' hw' => rfl, hK _ ?_⟩
      clear hK K
      refine wpQuiet_step (fun K hK => ?_)
      go_simp
      refine ⟨_, fun w' hw' => rfl, hK _ ?_⟩
      clear hK K
      refine wpQuiet_step (fun K hK => ?_)
      go_simp
      refine ⟨_, fun w' hw' => rfl, hK _ ?_⟩
      clear hK K
      refine wpQuiet_step (fun K hK => ?_)
      go_simp
      apply Exists.intro
      refine And.intro (fun w' hw' => ?_) (hK _ ?_)
      · obtain ⟨hc', hf'⟩ := bcell hw'
        go_simp
        first | rfl | exact ⟨rfl, rfl⟩ | exact ⟨rfl⟩
      clear hK K
      refine wpQuiet_step (fun K hK => ?_)
      go_simp
      refine ⟨_, fun w' hw' => rfl, hK _ ?_⟩
      clear hK K
      refine wpQuiet_step (fun K hK => ?_)
      go_simp
      apply Exists.intro
      refine And.intro (fun w' hw' => ?_) (hK _ ?_)
      · refine (((unhide HSM) ▸ hasPlace_any k c.m _ (by omega))).mono ?_
        rintro e w'' ⟨rfl, hb⟩
        exact ⟨rfl, hw'.trans (hb.mono hw'.size)⟩
      clear hK K
      refine wpQuiet_nil ?_
      intro w4 hw4
      have l4 := Nat.lt_of_lt_of_le l3 hw4.size
      have lb4 := Nat.lt_of_lt_of_le lb3 hw4.size
      have c14 := (hw4.cell (p := ⟨bk, 1, none⟩) lb3).trans c1
      have q14 := (hw4.cell (p := ⟨w.heap.size, 1, none⟩) l3).trans q1
      rw [unhide HQ] at q14
      have hR1l4 := Nat.lt_of_lt_of_le hR1l hw4.size
      have hA4 : AEnd w4 bk (.slice la c.n lc) r1 R2c E1 Sc (onW c k v) := ⟨(unhide HA).bm.below hw4, (unhide HA).e.keep hw4.size (hw4.block _ (unhide HA).e.lt), (unhide HA).eb, (unhide HA).ne⟩
      have hbm4 : BMut w4 bk (.slice la c.n lc) (.slice (some ⟨R1, 0, none⟩) c.m k1) R2c E1 Sc (onW c k v) := by rw [← unhide HE1r]; exact hA4.bm
      obtain ⟨_, _, e5, _, _, _, hc5, hf5⟩ := hbm4.ints.form (by show 0 < c.m; omega)
      cases e5
      have d5 := hc5 q (by show q < c.m; exact hqm)
      have f5 := hf5 q
      obtain ⟨cR1, hbR1⟩ := hbm4.ints.block (b := R1) rfl
      have hp := BMut.putI (d := onW c k v) hbm4 (i := q) (by show q < c.m; exact hqm) ((c.n : Int) + 1)
      rw [show entP E1 ((c.n : Int) + 1) = some ⟨E1 c.n, 0, none⟩ by unfold entP; rw [if_pos (by omega), show ((c.n : Int) + 1 - 1).toNat = c.n by omega]] at hp
      have HA5 : Hid (AEnd (w4.setCell ⟨R1, q, none⟩ (.pointer (some ⟨E1 c.n, 0, none⟩))).drew bk (.slice la c.n lc) (.slice (some ⟨R1, 0, none⟩) c.m k1) R2c E1 Sc { onW c k v with I := upd (onW c k v).I q ((c.n : Int) + 1) })   := hide ⟨hp.below (Below.refl _ _).drew, hA4.e.keep (by simp) (Deep.blk_setCell_other _ _ _ _ (by show E1 c.n ≠ R1; exact fun e => type_apart (e ▸ hA4.e.ob) hbR1 (by decide))), hA4.eb, hA4.ne⟩
      have HB4 := hide (((unhide HB3).trans (hw4.mono (by omega))).setCell (p := ⟨R1, q, none⟩) (by show bk ≤ R1; omega) (.pointer (some ⟨E1 c.n, 0, none⟩))).drew
      have hS0 : HeldT bk w.heap.size R1 c.m k1 q w4.drew := ⟨c14, q14⟩
      have hne : R1 ≠ w.heap.size := fun e => by
        have h1 := (unhide HVK3).keep hw4.size (hw4.block _ l3)
        have h2 := h1.k0
        rw [← e] at h2
        rw [hc5 0 (by show 0 < c.m; omega)] at h2
        cases h2
      clear hbm4 hA4 hp hbR1 hw4 HA hc5 hf5 q0 q1 q2 q3 q4 c1
      go_wp2_with fail
      refine wpN_held (HeldT bk w.heap.size R1 c.m k1 q) (by kernel_rfl) ?_
      change wpAnyH _ _ _ _ _ _ _ _ (World.drew _)
      refine tk 0 (v := ?_) rfl (by kernel_rfl) (by rfl) ?_ (by assumption) ?_
      rotate_left
      · intro w' ⟨s0, s1⟩; go_simp; first | done | with_reducible rfl
      simp only [Act.put, List.setIfInBounds_toArray, List.set_cons_succ, List.set_cons_zero]
      refine tk 1 (v := ?_) rfl (by kernel_rfl) (by rfl) ?_ (by assumption) ?_
      rotate_left
      · intro w' ⟨s0, s1⟩; go_simp; first | done | with_reducible rfl
      simp only [Act.put, List.setIfInBounds_toArray, List.set_cons_succ, List.set_cons_zero]
      refine tk 2 (v := ?_) rfl (by kernel_rfl) (by rfl) ?_ (by assumption) ?_
      rotate_left
      · intro w' ⟨s0, s1⟩; go_simp; first | done | with_reducible rfl
      simp only [Act.put, List.setIfInBounds_toArray, List.set_cons_succ, List.set_cons_zero]
      refine tk 3 (v := ?_) rfl (by kernel_rfl) (by rfl) ?_ (by assumption) ?_
      rotate_left
      · intro w' ⟨s0, s1⟩; go_simp; first | done | with_reducible rfl
      simp only [Act.put, List.setIfInBounds_toArray, List.set_cons_succ, List.set_cons_zero]
      refine tk 4 (v := ?_) rfl (by kernel_rfl) (by rfl) ?_ (by assumption) ?_
      rotate_left
      · intro w' ⟨s0, s1⟩; go_simp; first | done | with_reducible rfl
      simp only [Act.put, List.setIfInBounds_toArray, List.set_cons_succ, List.set_cons_zero]
      refine tk 5 (v := ?_) rfl (by kernel_rfl) (by rfl) ?_ (by assumption) ?_
      rotate_left
      · intro w' ⟨s0, s1⟩; go_simp; first | done | with_reducible rfl
      simp only [Act.put, List.setIfInBounds_toArray, List.set_cons_succ, List.set_cons_zero]
      refine tk 6 (v := ?_) rfl (by kernel_rfl) (by rfl) ?_ (by assumption) ?_
      rotate_left
      · intro w' ⟨s0, s1⟩; go_simp; first | done | with_reducible rfl
      simp only [Act.put, List.setIfInBounds_toArray, List.set_cons_succ, List.set_cons_zero]
      refine tk 7 (v := ?_) rfl (by kernel_rfl) (by rfl) ?_ (by assumption) ?_
      rotate_left
      · intro w' ⟨s0, s1⟩; go_simp; first | done | with_reducible rfl
      simp only [Act.put, List.setIfInBounds_toArray, List.set_cons_succ, List.set_cons_zero]
      refine tk 8 (v := ?_) rfl (by kernel_rfl) (by rfl) ?_ (by assumption) ?_
      rotate_left
      · intro w' ⟨s0, s1⟩; go_simp; first | done | with_reducible rfl
      simp only [Act.put, List.setIfInBounds_toArray, List.set_cons_succ, List.set_cons_zero]
      refine wpAnyH_ready (rs := [9]) (by kernel_rfl) (by simp) ?_
      refine AllReadyH.cons rfl (fun K hK => ?_) AllReadyH.nil
      go_simp
      refine hK.out _ _ ⟨(cell_set_block (by omega)).trans hS0.1, (cell_set_block hne).trans hS0.2⟩ (fun _ => ?_)
      clear hK K hS0
      refine wpAnyH_done (by kernel_rfl) ?_ _
      refine QN.normal ?_
      generalize hW5 : (w4.setCell ⟨R1, q, none⟩ (.pointer (some ⟨E1 c.n, 0, none⟩))).drew = W5 at *
      have HA6 : Hid (AEnd (W5) bk (.slice la c.n lc) (.slice (some ⟨R1, 0, none⟩) c.m k1) R2c E1 Sc { onW c k v with I := upd (onW c k v).I q ((c.n : Int) + 1) }) := hide (unhide HA5)
      have HB6 : Hid (Below bk w (W5)) := hide (unhide HB4)
      have HLOG : Hid (Rw (W5) (bk + 1) tEnt (.slice la c.n lc) c.n (fun i => some ⟨E1 i, 0, none⟩)) := hide ((unhide HA6).bm.log)
      have c0x : (W5).cell? ⟨bk, 0, none⟩ = some (.slice la c.n lc) := (unhide HA6).bm.c0
      have lbx : bk < (W5).heap.size := (unhide HA6).bm.lt
      have HFIN : Hid (∀ (o : Obj) (g3 cp3 : Nat) (w3 : World), w3.ownsRow (bk + 1) tEnt 1 (.slice (some ⟨g3, 0, none⟩) (c.n + 1) cp3) (c.n + 1) (ptL (fun i => some ⟨E1 i, 0, none⟩) c.n ++ [.pointer (some ⟨E1 c.n, 0, none⟩)]) → ((W5).alloc o).grownBy w3 (Value.slice la c.n lc).ownBlock → ((Value.slice la c.n lc).ownBlock = some g3 ∨ g3 = (W5).heap.size + 1) →
          w3.cell? ⟨bk, 0, none⟩ = some (.slice la c.n lc) ∧ w3.frozen? ⟨bk, 0, none⟩ = false ∧ bk < w3.heap.size ∧ (∃ r1' R2' S', BMut (w3.setCell ⟨bk, 0, none⟩ (.slice (some ⟨g3, 0, none⟩) (c.n + 1) cp3)) bk (.slice (some ⟨g3, 0, none⟩) (c.n + 1) cp3) r1' R2' E1 S' (comeC hf c k v)) ∧ Below bk w (w3.setCell ⟨bk, 0, none⟩ (.slice (some ⟨g3, 0, none⟩) (c.n + 1) cp3))) := hide (fun o g3 cp3 w3 h1 h2 h3 => by
        obtain ⟨p1, p2, p3, p4, p5⟩ := (unhide HA6).fin h1 h2 h3
        exact ⟨p1, p2, p3, ⟨_, _, _, by rw [← unhide HRES]; exact p4⟩, (unhide HB6).trans p5⟩)
      clear HA6 HB6
      go_wp2_with (at_builtin; refine wpList_append_lies _ rfl _ _ 60 rfl (bk + 1) tEnt i0 (.pointer none) 1 8 Tryd.underlying60 hi0 hz0 hz1 hz2 rfl (by decide) (.slice la c.n lc) c.n (ptL (fun i => some ⟨E1 i, 0, none⟩) c.n) rfl (World.ownsRow.alloc (unhide HLOG) _) ⟨(W5).heap.size, 0, none⟩ 1 1 [.pointer (some ⟨E1 c.n, 0, none⟩)] rfl rfl (World.news_of_block (Deep.blk_alloc_new _ _)) (by simp [Value.oneCell']) (by decide) (by unfold maxLen; omega) (by omega) (by simp; omega) ((W5).heap.size + 1) (by simp) ?_; intro g3 cp3 w3 hown3 hgr3 hloc3 hlt3; obtain ⟨x3, f3, lx3, hN3, hB3⟩ := unhide HFIN _ g3 cp3 w3 hown3 hgr3 hloc3; have HN3 := hide hN3; have HBB := hide hB3; clear hown3 hgr3 hloc3 hN3 hB3)
      go_end0
      obtain ⟨r1', R2', S', hN⟩ := unhide HN3
      exact ⟨⟨⟨_, rfl⟩, _, r1', R2', E1, S', hN⟩, unhide HBB⟩
    · have HSM := hide (tells_no hs)
      have HNS := hide hs
      have hci' := comeC_inv KL hci hcn hk hkb hv hv0 hcno hclive hcturn
      have HMn := hide hci'.2.2.1
      have HML := hide hci'.2.2.2.1
      clear hs hci'
      go_wp2_with fail
      refine wp_region_quiet (C := fun w' => Below W3.heap.size W3 w') (by kernel_rfl) (by kernel_rfl) ((Below.refl _ _).drew) ?_
      show wpQuiet _ _ _ _ [_, _, _, _, _, _, _] _
      refine wpQuiet_step (fun K hK => ?_)
      go_simp
      apply Exists.intro
      refine And.intro (fun w' hw' => ?_) (hK _ ?_)
      · obtain ⟨hc', hf'⟩ := bcell hw'
        go_simp
        first | rfl | exact ⟨rfl, rfl⟩ | exact ⟨rfl⟩
      clear hK K
      refine wpQuiet_step (fun K hK => ?_)
      go_simp
      refine ⟨_, fun w' hw' => rfl, hK _ ?_⟩
      clear hK K
      refine wpQuiet_step (fun K hK => ?_)
      go_simp
      refine ⟨_, fun w' hw' => rfl, hK _ ?_⟩
      clear hK K
      refine wpQuiet_step (fun K hK => ?_)
      go_simp
      refine ⟨_, fun w' hw' => rfl, hK _ ?_⟩
      clear hK K
      refine wpQuiet_step (fun K hK => ?_)
      go_simp
      apply Exists.intro
      refine And.intro (fun w' hw' => ?_) (hK _ ?_)
      · obtain ⟨hc', hf'⟩ := bcell hw'
        go_simp
        first | rfl | exact ⟨rfl, rfl⟩ | exact ⟨rfl⟩
      clear hK K
      refine wpQuiet_step (fun K hK => ?_)
      go_simp
      refine ⟨_, fun w' hw' => rfl, hK _ ?_⟩
      clear hK K
      refine wpQuiet_step (fun K hK => ?_)
      go_simp
      apply Exists.intro
      refine And.intro (fun w' hw' => ?_) (hK _ ?_)
      · refine (((unhide HSM) ▸ hasPlace_any k c.m _ (by omega))).mono ?_
        rintro e w'' ⟨rfl, hb⟩
        exact ⟨rfl, hw'.trans (hb.mono hw'.size)⟩
      clear hK K
      refine wpQuiet_nil ?_
      intro w4 hw4
      have l4 := Nat.lt_of_lt_of_le l3 hw4.size
      have lb4 := Nat.lt_of_lt_of_le lb3 hw4.size
      have vk4 := (unhide HVK3).keep hw4.size (hw4.block _ l3)
      have q04 := vk4.k0
      have q14 := vk4.k1
      have q24 := vk4.k2
      have q34 := vk4.k3
      have q44 := vk4.k4
      have hA4 : AEnd w4 bk (.slice la c.n lc) r1 R2c E1 Sc (onW c k v) := ⟨(unhide HA).bm.below hw4, (unhide HA).e.keep hw4.size (hw4.block _ (unhide HA).e.lt), (unhide HA).eb, (unhide HA).ne⟩
      have HB4 := hide ((unhide HB3).trans (hw4.mono (by omega)))
      have HSm : Hid (Small (onW c k v)) := hide ⟨hcn', by show c.m ≤ _; omega, by show c.x ≤ _; omega⟩
      have HNXI : Hid (∀ w', Below w4.heap.size w4 w' → Calls Tryd.prog 35 #[.pointer (some ⟨bk, 0, none⟩)] w' fun e w'' => e = .returned (V 2 ((c.m : Int) + 1) 0 ⟨#[]⟩ 0) ∧ Below w'.heap.size w' w'') := hide (fun w' hw' => by
        obtain ⟨R0', R1', hB'⟩ := (hA4.bm.below hw').book
        exact nextInt_any bk R0' R1' R2c E1 Sc (onW c k v) w' hB' (unhide HSm))
      have HA4 := hide hA4
      clear hw4 HA vk4 hA4 q0 q1 q2 q3 q4 c1
      by_cases hnx : k.kind = 2 ∧ k.num = (c.m : Int) + 1
      · have HNX := hide hnx
        have HF := hide (int_key hkb hnx.1)
        clear hnx
        go_wp2_with fail
        refine wp_region_quiet (C := fun w' => Below w4.heap.size w4 w') (by kernel_rfl) (by kernel_rfl) ((Below.refl _ _).drew) ?_
        show wpQuiet _ _ _ _ [_, _, _, _] _
        refine wpQuiet_step (fun K hK => ?_)
        go_simp
        apply Exists.intro
        refine And.intro (fun w' hw' => ?_) (hK _ ?_)
        · obtain ⟨hc', hf'⟩ := bcell hw'
          go_simp
          first | rfl | exact ⟨rfl, rfl⟩ | exact ⟨rfl⟩
        clear hK K
        refine wpQuiet_step (fun K hK => ?_)
        go_simp
        refine ⟨_, fun w' hw' => rfl, hK _ ?_⟩
        clear hK K
        refine wpQuiet_step (fun K hK => ?_)
        go_simp
        apply Exists.intro
        refine And.intro (fun w' hw' => ?_) (hK _ ?_)
        · refine ((unhide HNXI _ hw')).mono ?_
          rintro e w'' ⟨rfl, hb⟩
          exact ⟨rfl, hw'.trans (hb.mono hw'.size)⟩
        clear hK K
        refine wpQuiet_step (fun K hK => ?_)
        go_simp
        refine ⟨.bool true, fun w' hw' => ?_, hK _ ?_⟩
        · obtain ⟨x1, x2⟩ := unhide HNX
          obtain ⟨x3, x4, x5⟩ := unhide HF
          have x3' : FloatKind.f64.format.order k.flt 0 = some Ordering.eq := by simpa using x3
          have x4' : k.str.toList = [] := List.isEmpty_iff.1 x4
          simp only [x1, x2, x5, x3', x4', if_true]
          exact ⟨trivial, trivial⟩
        clear hK K
        refine wpQuiet_nil ?_
        intro w5 hw5
        have hA5 : AEnd w5 bk (.slice la c.n lc) r1 R2c E1 Sc (onW c k v) := ⟨(unhide HA4).bm.below hw5, (unhide HA4).e.keep hw5.size (hw5.block _ (unhide HA4).e.lt), (unhide HA4).eb, (unhide HA4).ne⟩
        have HB5 := hide ((unhide HB4).trans (hw5.mono (by omega)))
        have HCALL : Hid (Calls Tryd.prog 46 #[.pointer (some ⟨bk, 0, none⟩), .pointer (some ⟨E1 c.n, 0, none⟩)] w5 fun e w' => (∃ u, e = .returned u) ∧ (∃ r1' S', AEnd w' bk (.slice la c.n lc) r1' R2c E1 S' { comeC hf c k v with n := c.n }) ∧ Below bk w w') := hide (by
          obtain ⟨x1, x2⟩ := unhide HNX
          have hT5 : T w5 := hTb _ _ (unhide HT) (unhide HB5)
          have hLn : ((onW c k v).L (onW c k v).n) = ⟨k, v, c.turns + 1⟩ := onW_L c k v
          have hcome : comeC hf c k v = moveD hf (c.x + 1) (addNext c k v) := by unfold comeC; rw [if_neg (unhide HNS), if_pos ⟨x1, x2⟩]
          obtain ⟨cR1, hbR1⟩ := hA5.bm.ints.block (b := R1) (by rw [unhide HE1r]; rfl)
          obtain ⟨cR2, hbR2⟩ := hA5.bm.slots.block (b := R2c) rfl
          have hae := hA5.e
          refine (addNextInt_any T hTl hf K KL hHs bk hTb (.slice la c.n lc) r1 R2c E1 Sc (onW c k v) w5 hT5 hA5.bm (unhide HSm) hcm (by rw [hLn]; exact x1) (by rw [hLn]; exact x2) (addNext_inv KL hci hk hkb hv hv0 hcno x1 x2 hclive hcturn)).mono ?_
          rintro e w' ⟨⟨hu, r1', S', hN⟩, hkx⟩
          have hN : BMut w' bk (.slice la c.n lc) r1' R2c E1 S' { moveD hf (c.x + 1) (addNext c k v) with n := c.n } := hN
          rw [← hcome] at hN
          have hblk := hkx.blk (E1 c.n) hae.lt (by
            rintro (e | e | e)
            · have := hA5.eb
              have h' : bk < E1 c.n := this
              omega
            · rw [unhide HE1r] at e
              have e' : R1 = E1 c.n := by simpa [Value.ownBlock] using e
              exact type_apart (e' ▸ hae.ob) hbR1 (by decide)
            · exact type_apart (e ▸ hae.ob) hbR2 (by decide))
          refine ⟨hu, ⟨r1', S', hN, ?_, hA5.eb, hA5.ne⟩, (unhide HB5).trans hkx.bel⟩
          have h1 : (comeC hf c k v).L c.n = (onW c k v).L c.n := by rw [unhide HML]; rfl
          show ECell w' (E1 c.n) ((comeC hf c k v).L c.n) c.n
          rw [h1]
          exact hae.keep hkx.bel.size hblk)
        clear hA5 HB5 hw5 HA4 HB4 HNXI q04 q14 q24 q34 q44
        go_wp2_with fail
        refine (unhide HCALL).mono ?_
        rintro e w6 ⟨⟨uu6, rfl⟩, ⟨r1x, Sx, hA6x⟩, hB6x⟩
        have HRES : Hid ({ { comeC hf c k v with n := c.n } with n := c.n + 1 } = comeC hf c k v) := hide (by
          have h1 := unhide HMn
          generalize comeC hf c k v = M at h1
          cases M
          simp only at h1
          subst h1
          rfl)
        have HA6x := hide hA6x
        have HB6x := hide hB6x
        clear hA6x hB6x HCALL
        have HA6 : Hid (AEnd (w6) bk (.slice la c.n lc) r1x R2c E1 Sx { comeC hf c k v with n := c.n }) := hide (unhide HA6x)
        have HB6 : Hid (Below bk w (w6)) := hide (unhide HB6x)
        have HLOG : Hid (Rw (w6) (bk + 1) tEnt (.slice la c.n lc) c.n (fun i => some ⟨E1 i, 0, none⟩)) := hide ((unhide HA6).bm.log)
        have c0x : (w6).cell? ⟨bk, 0, none⟩ = some (.slice la c.n lc) := (unhide HA6).bm.c0
        have lbx : bk < (w6).heap.size := (unhide HA6).bm.lt
        have HFIN : Hid (∀ (o : Obj) (g3 cp3 : Nat) (w3 : World), w3.ownsRow (bk + 1) tEnt 1 (.slice (some ⟨g3, 0, none⟩) (c.n + 1) cp3) (c.n + 1) (ptL (fun i => some ⟨E1 i, 0, none⟩) c.n ++ [.pointer (some ⟨E1 c.n, 0, none⟩)]) → ((w6).alloc o).grownBy w3 (Value.slice la c.n lc).ownBlock → ((Value.slice la c.n lc).ownBlock = some g3 ∨ g3 = (w6).heap.size + 1) →
            w3.cell? ⟨bk, 0, none⟩ = some (.slice la c.n lc) ∧ w3.frozen? ⟨bk, 0, none⟩ = false ∧ bk < w3.heap.size ∧ (∃ r1' R2' S', BMut (w3.setCell ⟨bk, 0, none⟩ (.slice (some ⟨g3, 0, none⟩) (c.n + 1) cp3)) bk (.slice (some ⟨g3, 0, none⟩) (c.n + 1) cp3) r1' R2' E1 S' (comeC hf c k v)) ∧ Below bk w (w3.setCell ⟨bk, 0, none⟩ (.slice (some ⟨g3, 0, none⟩) (c.n + 1) cp3))) := hide (fun o g3 cp3 w3 h1 h2 h3 => by
          obtain ⟨p1, p2, p3, p4, p5⟩ := (unhide HA6).fin h1 h2 h3
          exact ⟨p1, p2, p3, ⟨_, _, _, by rw [← unhide HRES]; exact p4⟩, (unhide HB6).trans p5⟩)
        clear HA6 HB6
        go_wp2_with (at_builtin; refine wpList_append_lies _ rfl _ _ 60 rfl (bk + 1) tEnt i0 (.pointer none) 1 8 Tryd.underlying60 hi0 hz0 hz1 hz2 rfl (by decide) (.slice la c.n lc) c.n (ptL (fun i => some ⟨E1 i, 0, none⟩) c.n) rfl (World.ownsRow.alloc (unhide HLOG) _) ⟨(w6).heap.size, 0, none⟩ 1 1 [.pointer (some ⟨E1 c.n, 0, none⟩)] rfl rfl (World.news_of_block (Deep.blk_alloc_new _ _)) (by simp [Value.oneCell']) (by decide) (by unfold maxLen; omega) (by omega) (by simp; omega) ((w6).heap.size + 1) (by simp) ?_; intro g3 cp3 w3 hown3 hgr3 hloc3 hlt3; obtain ⟨x3, f3, lx3, hN3, hB3⟩ := unhide HFIN _ g3 cp3 w3 hown3 hgr3 hloc3; have HN3 := hide hN3; have HBB := hide hB3; clear hown3 hgr3 hloc3 hN3 hB3)
        go_end0
        obtain ⟨r1', R2', S', hN⟩ := unhide HN3
        exact ⟨⟨⟨_, rfl⟩, _, r1', R2', E1, S', hN⟩, unhide HBB⟩
      · have HNX := hide hnx
        clear hnx
        go_wp2_with fail
        refine wp_region_quiet (C := fun w' => Below w4.heap.size w4 w') (by kernel_rfl) (by kernel_rfl) ((Below.refl _ _).drew) ?_
        show wpQuiet _ _ _ _ [_, _, _, _] _
        refine wpQuiet_step (fun K hK => ?_)
        go_simp
        apply Exists.intro
        refine And.intro (fun w' hw' => ?_) (hK _ ?_)
        · obtain ⟨hc', hf'⟩ := bcell hw'
          go_simp
          first | rfl | exact ⟨rfl, rfl⟩ | exact ⟨rfl⟩
        clear hK K
        refine wpQuiet_step (fun K hK => ?_)
        go_simp
        refine ⟨_, fun w' hw' => rfl, hK _ ?_⟩
        clear hK K
        refine wpQuiet_step (fun K hK => ?_)
        go_simp
        apply Exists.intro
        refine And.intro (fun w' hw' => ?_) (hK _ ?_)
        · refine ((unhide HNXI _ hw')).mono ?_
          rintro e w'' ⟨rfl, hb⟩
          exact ⟨rfl, hw'.trans (hb.mono hw'.size)⟩
        clear hK K
        refine wpQuiet_step (fun K hK => ?_)
        go_simp
        refine ⟨.bool false, fun w' hw' => ?_, hK _ ?_⟩
        · have hno' := unhide HNX
          by_cases x1 : k.kind = 2
          · have x2 : ¬ k.num = (c.m : Int) + 1 := fun h => hno' ⟨x1, h⟩
            simp only [x1, x2, if_true, if_false]
            exact ⟨trivial, trivial⟩
          · simp only [x1, if_false]
            exact ⟨trivial, trivial⟩
        clear hK K
        refine wpQuiet_nil ?_
        intro w5 hw5
        have hA5 : AEnd w5 bk (.slice la c.n lc) r1 R2c E1 Sc (onW c k v) := ⟨(unhide HA4).bm.below hw5, (unhide HA4).e.keep hw5.size (hw5.block _ (unhide HA4).e.lt), (unhide HA4).eb, (unhide HA4).ne⟩
        have HB5 := hide ((unhide HB4).trans (hw5.mono (by omega)))
        have HCALL : Hid (Calls Tryd.prog 47 #[.pointer (some ⟨bk, 0, none⟩), .pointer (some ⟨E1 c.n, 0, none⟩)] w5 fun e w' => (∃ u, e = .returned u) ∧ (∃ R2' S', AEnd w' bk (.slice la c.n lc) r1 R2' E1 S' { comeC hf c k v with n := c.n }) ∧ Below bk w w') := hide (by
          have hT5 : T w5 := hTb _ _ (unhide HT) (unhide HB5)
          have hLn : ((onW c k v).L (onW c k v).n) = ⟨k, v, c.turns + 1⟩ := onW_L c k v
          have hrn : (roomD hf c).n = c.n := (roomD_inv hci hclive).2.2.n
          have hcome : enterD hf (roomB hf (onW c k v)) ((onW c k v).L (onW c k v).n).key (onW c k v).n = { comeC hf c k v with n := c.n } := by
            have e1 : comeC hf c k v = enterD hf (addL (roomD hf c) k v) k c.n := by unfold comeC; rw [if_neg (unhide HNS), if_neg (unhide HNX)]
            rw [e1, hLn, room_onW hci.core, onW_addL hrn]
            exact enter_cut hf (addL (roomD hf c) k v) k c.n c.n
          obtain ⟨cR2, hbR2⟩ := hA5.bm.slots.block (b := R2c) rfl
          have hae := hA5.e
          refine (addToIndex_any T hTl hf bk hTb (.slice la c.n lc) r1 R2c E1 Sc (onW c k v) w5 hT5 hA5.bm (unhide HSm) (fun i hi ht => by
            have hi' : i < c.n := hi
            rw [onW_old c k v hi'] at ht ⊢
            exact hHs _ (hci.keys i hi' ht)) (by rw [hld_onW]; exact livN_hld hci.core hclive) hae hA5.eb (by rw [hLn]; exact hHs k hk) (fun j hj => by
            rcases hci.idx.range j hj with e | e | e
            · exact .inl e
            · exact .inr (.inl e)
            · exact .inr (.inr e.1)) hci.used).mono ?_
          rintro e w' ⟨⟨hu, R2', S', hN⟩, hkx⟩
          rw [hcome] at hN
          have hblk := hkx.blk (E1 c.n) hae.lt (by
            rintro (e | e)
            · have h' : bk < E1 c.n := hA5.eb
              omega
            · exact type_apart (e ▸ hae.ob) hbR2 (by decide))
          refine ⟨hu, ⟨R2', S', hN, ?_, hA5.eb, hA5.ne⟩, (unhide HB5).trans hkx.bel⟩
          have h1 : (comeC hf c k v).L c.n = (onW c k v).L c.n := by rw [unhide HML]; rfl
          show ECell w' (E1 c.n) ((comeC hf c k v).L c.n) c.n
          rw [h1]
          exact hae.keep hkx.bel.size hblk)
        clear hA5 HB5 hw5 HA4 HB4 HNXI q04 q14 q24 q34 q44
        go_wp2_with fail
        refine (unhide HCALL).mono ?_
        rintro e w6 ⟨⟨uu6, rfl⟩, ⟨R2x, Sx, hA6x⟩, hB6x⟩
        have HRES : Hid ({ { comeC hf c k v with n := c.n } with n := c.n + 1 } = comeC hf c k v) := hide (by
          have h1 := unhide HMn
          generalize comeC hf c k v = M at h1
          cases M
          simp only at h1
          subst h1
          rfl)
        have HA6x := hide hA6x
        have HB6x := hide hB6x
        clear hA6x hB6x HCALL
        have HA6 : Hid (AEnd (w6) bk (.slice la c.n lc) r1 R2x E1 Sx { comeC hf c k v with n := c.n }) := hide (unhide HA6x)
        have HB6 : Hid (Below bk w (w6)) := hide (unhide HB6x)
        have HLOG : Hid (Rw (w6) (bk + 1) tEnt (.slice la c.n lc) c.n (fun i => some ⟨E1 i, 0, none⟩)) := hide ((unhide HA6).bm.log)
        have c0x : (w6).cell? ⟨bk, 0, none⟩ = some (.slice la c.n lc) := (unhide HA6).bm.c0
        have lbx : bk < (w6).heap.size := (unhide HA6).bm.lt
        have HFIN : Hid (∀ (o : Obj) (g3 cp3 : Nat) (w3 : World), w3.ownsRow (bk + 1) tEnt 1 (.slice (some ⟨g3, 0, none⟩) (c.n + 1) cp3) (c.n + 1) (ptL (fun i => some ⟨E1 i, 0, none⟩) c.n ++ [.pointer (some ⟨E1 c.n, 0, none⟩)]) → ((w6).alloc o).grownBy w3 (Value.slice la c.n lc).ownBlock → ((Value.slice la c.n lc).ownBlock = some g3 ∨ g3 = (w6).heap.size + 1) →
            w3.cell? ⟨bk, 0, none⟩ = some (.slice la c.n lc) ∧ w3.frozen? ⟨bk, 0, none⟩ = false ∧ bk < w3.heap.size ∧ (∃ r1' R2' S', BMut (w3.setCell ⟨bk, 0, none⟩ (.slice (some ⟨g3, 0, none⟩) (c.n + 1) cp3)) bk (.slice (some ⟨g3, 0, none⟩) (c.n + 1) cp3) r1' R2' E1 S' (comeC hf c k v)) ∧ Below bk w (w3.setCell ⟨bk, 0, none⟩ (.slice (some ⟨g3, 0, none⟩) (c.n + 1) cp3))) := hide (fun o g3 cp3 w3 h1 h2 h3 => by
          obtain ⟨p1, p2, p3, p4, p5⟩ := (unhide HA6).fin h1 h2 h3
          exact ⟨p1, p2, p3, ⟨_, _, _, by rw [← unhide HRES]; exact p4⟩, (unhide HB6).trans p5⟩)
        clear HA6 HB6
        go_wp2_with (at_builtin; refine wpList_append_lies _ rfl _ _ 60 rfl (bk + 1) tEnt i0 (.pointer none) 1 8 Tryd.underlying60 hi0 hz0 hz1 hz2 rfl (by decide) (.slice la c.n lc) c.n (ptL (fun i => some ⟨E1 i, 0, none⟩) c.n) rfl (World.ownsRow.alloc (unhide HLOG) _) ⟨(w6).heap.size, 0, none⟩ 1 1 [.pointer (some ⟨E1 c.n, 0, none⟩)] rfl rfl (World.news_of_block (Deep.blk_alloc_new _ _)) (by simp [Value.oneCell']) (by decide) (by unfold maxLen; omega) (by omega) (by simp; omega) ((w6).heap.size + 1) (by simp) ?_; intro g3 cp3 w3 hown3 hgr3 hloc3 hlt3; obtain ⟨x3, f3, lx3, hN3, hB3⟩ := unhide HFIN _ g3 cp3 w3 hown3 hgr3 hloc3; have HN3 := hide hN3; have HBB := hide hB3; clear hown3 hgr3 hloc3 hN3 hB3)
        go_end0
        obtain ⟨r1', R2', S', hN⟩ := unhide HN3
        exact ⟨⟨⟨_, rfl⟩, _, r1', R2', E1, S', hN⟩, unhide HBB⟩
  · have HLT := hide (tells_no hlo)
    have hcd := unhide HC hlo
    subst hcd
    clear hlo HC HTIGHT
    go_enter Tryd.func29, Tryd.ntmps29
    go_wp2_with fail
    refine (unhide HLO _ (unhide HB0)).mono ?_
    rintro e W ⟨rfl, hb1⟩
    rw [unhide HLT]
    have hMc := (unhide HM).below ((unhide HB0).trans (hb1.mono (unhide HB0).size))
    have vk : VBox W w.heap.size k := (unhide HV0).1.keep hb1.size (hb1.block _ (unhide HV0).1.lt)
    have vv : VBox W (w.heap.size + 1) v := (unhide HV0).2.keep hb1.size (hb1.block _ (unhide HV0).2.lt)
    have hBW : Below bk w W := ((unhide HB0).trans (hb1.mono (unhide HB0).size)).mono (by omega)
    clear hb1 HV0 HB0 HLO
    obtain ⟨la, lc, e0⟩ := hMc.log.slice
    subst e0
    have c6 := hMc.c6
    have c5 := hMc.c5
    have f5 := hMc.fz 5
    have f6 := hMc.fz 6
    have hlW := hMc.lt
    have tp := hci.turns.1
    have cp0 : 0 ≤ c.live := by have := hci.log.cnt; omega
    have hw6 : IntKind.i64.wrap (c.turns + 1) = c.turns + 1 := by rw [IntKind.wrap_i64]; omega
    have hw5 : IntKind.i64.wrap (c.live + 1) = c.live + 1 := by rw [IntKind.wrap_i64]; omega
    have HM2 := hide ((hMc.setTurns (c.turns + 1)).setLive (c.live + 1))
    have HVK := hide vk
    have HVV := hide vv
    have HBW := hide hBW
    clear hMc vk vv hBW
    go_wp2_with fail
    generalize hW2 : (W.setCell ⟨bk, 6, none⟩ (.int .i64 (c.turns + 1))).setCell ⟨bk, 5, none⟩ (.int .i64 (c.live + 1)) = W2 at *
    have vk2 : VBox W2 w.heap.size k := (unhide HVK).keep (by rw [← hW2]; simp) (by rw [← hW2]; exact (Deep.blk_setCell_other _ _ _ _ (by show w.heap.size ≠ bk; omega)).trans (Deep.blk_setCell_other _ _ _ _ (by show w.heap.size ≠ bk; omega)))
    have vv2 : VBox W2 (w.heap.size + 1) v := (unhide HVV).keep (by rw [← hW2]; simp) (by rw [← hW2]; exact (Deep.blk_setCell_other _ _ _ _ (by show w.heap.size + 1 ≠ bk; omega)).trans (Deep.blk_setCell_other _ _ _ _ (by show w.heap.size + 1 ≠ bk; omega)))
    have HB2 : Hid (Below bk w W2) := hide (by rw [← hW2]; exact ((unhide HBW).setCell (by exact Nat.le_refl _) _).setCell (by exact Nat.le_refl _) _)
    have hM2 := unhide HM2
    have hl2 : bk < W2.heap.size := hM2.lt
    have c6' : W2.cell? ⟨bk, 6, none⟩ = some (.int .i64 (c.turns + 1)) := hM2.c6
    have c0' : W2.cell? ⟨bk, 0, none⟩ = some (.slice la c.n lc) := hM2.c0
    have lk2 := vk2.lt
    have lv2 := vv2.lt
    have hS0 : HeldN w.heap.size bk k v (c.turns + 1) la c.n lc W2.drew := ⟨vk2.k0, vk2.k1, vk2.k2, vk2.k3, vk2.k4, vv2.k0, vv2.k1, vv2.k2, vv2.k3, vv2.k4, c6', c0'⟩
    have HVK2 := hide vk2
    clear HVK HVV HBW hM2 vk2 vv2 c6 c5 f5 f6 c6' c0' hW2 hw5 hw6
    refine wpN_held (HeldN w.heap.size bk k v (c.turns + 1) la c.n lc) (by kernel_rfl) ?_
    change wpAnyH _ _ _ _ _ _ _ _ (World.drew _)
    refine tk 0 (v := ?_) rfl (by kernel_rfl) (by rfl) ?_ (by assumption) ?_
    rotate_left
    · intro w' ⟨s0, s1, s2, s3, s4, s5, s6, s7, s8, s9, s10, s11⟩; go_simp; first | done | with_reducible rfl
    simp only [Act.put, List.setIfInBounds_toArray, List.set_cons_succ, List.set_cons_zero]
    refine tk 1 (v := ?_) rfl (by kernel_rfl) (by rfl) ?_ (by assumption) ?_
    rotate_left
    · intro w' ⟨s0, s1, s2, s3, s4, s5, s6, s7, s8, s9, s10, s11⟩; go_simp; first | done | with_reducible rfl
    simp only [Act.put, List.setIfInBounds_toArray, List.set_cons_succ, List.set_cons_zero]
    refine tk 2 (v := ?_) rfl (by kernel_rfl) (by rfl) ?_ (by assumption) ?_
    rotate_left
    · intro w' ⟨s0, s1, s2, s3, s4, s5, s6, s7, s8, s9, s10, s11⟩; go_simp; first | done | with_reducible rfl
    simp only [Act.put, List.setIfInBounds_toArray, List.set_cons_succ, List.set_cons_zero]
    refine tk 3 (v := ?_) rfl (by kernel_rfl) (by rfl) ?_ (by assumption) ?_
    rotate_left
    · intro w' ⟨s0, s1, s2, s3, s4, s5, s6, s7, s8, s9, s10, s11⟩; go_simp; first | done | with_reducible rfl
    simp only [Act.put, List.setIfInBounds_toArray, List.set_cons_succ, List.set_cons_zero]
    refine tk 4 (v := ?_) rfl (by kernel_rfl) (by rfl) ?_ (by assumption) ?_
    rotate_left
    · intro w' ⟨s0, s1, s2, s3, s4, s5, s6, s7, s8, s9, s10, s11⟩; go_simp; first | done | with_reducible rfl
    simp only [Act.put, List.setIfInBounds_toArray, List.set_cons_succ, List.set_cons_zero]
    refine tk 5 (v := ?_) rfl (by kernel_rfl) (by rfl) ?_ (by assumption) ?_
    rotate_left
    · intro w' ⟨s0, s1, s2, s3, s4, s5, s6, s7, s8, s9, s10, s11⟩; go_simp; first | done | with_reducible rfl
    simp only [Act.put, List.setIfInBounds_toArray, List.set_cons_succ, List.set_cons_zero]
    refine tk 6 (v := ?_) rfl (by kernel_rfl) (by rfl) ?_ (by assumption) ?_
    rotate_left
    · intro w' ⟨s0, s1, s2, s3, s4, s5, s6, s7, s8, s9, s10, s11⟩; go_simp; first | done | with_reducible rfl
    simp only [Act.put, List.setIfInBounds_toArray, List.set_cons_succ, List.set_cons_zero]
    refine tk 7 (v := ?_) rfl (by kernel_rfl) (by rfl) ?_ (by assumption) ?_
    rotate_left
    · intro w' ⟨s0, s1, s2, s3, s4, s5, s6, s7, s8, s9, s10, s11⟩; go_simp; first | done | with_reducible rfl
    simp only [Act.put, List.setIfInBounds_toArray, List.set_cons_succ, List.set_cons_zero]
    refine tk 8 (v := ?_) rfl (by kernel_rfl) (by rfl) ?_ (by assumption) ?_
    rotate_left
    · intro w' ⟨s0, s1, s2, s3, s4, s5, s6, s7, s8, s9, s10, s11⟩; go_simp; first | done | with_reducible rfl
    simp only [Act.put, List.setIfInBounds_toArray, List.set_cons_succ, List.set_cons_zero]
    refine tk 9 (v := ?_) rfl (by kernel_rfl) (by rfl) ?_ (by assumption) ?_
    rotate_left
    · intro w' ⟨s0, s1, s2, s3, s4, s5, s6, s7, s8, s9, s10, s11⟩; go_simp; first | done | with_reducible rfl
    simp only [Act.put, List.setIfInBounds_toArray, List.set_cons_succ, List.set_cons_zero]
    refine tk 10 (v := ?_) rfl (by kernel_rfl) (by rfl) ?_ (by assumption) ?_
    rotate_left
    · intro w' ⟨s0, s1, s2, s3, s4, s5, s6, s7, s8, s9, s10, s11⟩; go_simp; first | done | with_reducible rfl
    simp only [Act.put, List.setIfInBounds_toArray, List.set_cons_succ, List.set_cons_zero]
    refine tk 11 (v := ?_) rfl (by kernel_rfl) (by rfl) ?_ (by assumption) ?_
    rotate_left
    · intro w' ⟨s0, s1, s2, s3, s4, s5, s6, s7, s8, s9, s10, s11⟩; go_simp; first | done | with_reducible rfl
    simp only [Act.put, List.setIfInBounds_toArray, List.set_cons_succ, List.set_cons_zero]
    refine tk 12 (v := ?_) rfl (by kernel_rfl) (by rfl) ?_ (by assumption) ?_
    rotate_left
    · intro w' ⟨s0, s1, s2, s3, s4, s5, s6, s7, s8, s9, s10, s11⟩; go_simp; first | done | with_reducible rfl
    simp only [Act.put, List.setIfInBounds_toArray, List.set_cons_succ, List.set_cons_zero]
    refine wpAnyH_ready (rs := [13]) (by kernel_rfl) (by simp) ?_
    refine AllReadyH.cons rfl (fun K hK => ?_) AllReadyH.nil
    go_simp
    refine hK.out _ _ (hS0.below ((Below.refl _ _).alloc (Nat.le_refl _) _) lv2 hl2) (fun hS1 => ?_)
    clear hK K
    refine tk 14 (v := ?_) rfl (by kernel_rfl) (by rfl) ?_ (by assumption) ?_
    rotate_left
    · intro w' ⟨s0, s1, s2, s3, s4, s5, s6, s7, s8, s9, s10, s11⟩; go_simp; first | done | with_reducible rfl
    simp only [Act.put, List.setIfInBounds_toArray, List.set_cons_succ, List.set_cons_zero]
    try simp only [List.getElem_toArray]
    try simp only [List.getElem_cons_succ]
    try simp only [List.getElem_cons_zero]
    try simp only [List.setIfInBounds_toArray]
    try simp only [List.set_cons_succ]
    try simp only [List.set_cons_zero]
    refine wpAnyH_done (by kernel_rfl) ?_ _
    refine QN.normal ?_
    clear hS0 hS1
    obtain ⟨W3, hW3⟩ : ∃ W3, W3 = (W2.alloc (.cells (entA ⟨k, v, c.turns + 1⟩ c.n) 57)).drew := ⟨_, rfl⟩
    try simp only [World.alloc_drew]
    rw [← hW3]
    have z3 : W3.heap.size = W2.heap.size + 1 := by rw [hW3]; simp
    have hb3 : Below W2.heap.size W2 W3 := by rw [hW3]; exact ((Below.refl _ _).alloc (Nat.le_refl _) _).drew
    have ob3 : W3.heap[W2.heap.size]? = some (.cells (entA ⟨k, v, c.turns + 1⟩ c.n) 57 (0, 0)) := by rw [hW3]; exact Deep.blk_alloc_new _ _
    have vk3 : VBox W3 w.heap.size k := (unhide HVK2).keep hb3.size (hb3.block _ lk2)
    have HB3 := hide ((unhide HB2).trans (hb3.mono (by omega)))
    obtain ⟨E1, hE1⟩ : ∃ E1, E1 = upd E c.n W2.heap.size := ⟨_, rfl⟩
    have hE1n : E1 c.n = W2.heap.size := by rw [hE1]; exact upd_same _ _ _
    have hA : AEnd W3 bk (.slice la c.n lc) r1 R2 E1 S (onW c k v) := by
      have hM3 := (unhide HM2).below hb3
      refine ⟨hM3.of_same rfl rfl rfl rfl rfl rfl (fun _ _ => rfl) (fun _ _ => rfl) (fun i hi => upd_other _ _ (by have hi' : i < c.n := hi; omega)) (fun i hi => by rw [hE1]; exact upd_other _ _ (by have hi' : i < c.n := hi; omega)) hcI hcX, ?_, ?_, fun i hi => ?_⟩
      · show ECell W3 (E1 c.n) ((onW c k v).L c.n) c.n
        rw [hE1n, onW_L]
        exact ECell.of_ob ob3
      · show bk < E1 c.n
        omega
      · have hi' : i < c.n := hi
        show E1 i ≠ E1 c.n
        rw [hE1n, hE1, upd_other _ _ (by omega)]
        have := ((unhide HM2).ent i hi').lt
        omega
    have l3 := vk3.lt
    have lb3 := hA.bm.lt
    obtain ⟨R1, k1, e1⟩ := hA.bm.rf
    have e1 : r1 = .slice (some ⟨R1, 0, none⟩) c.m k1 := e1
    have c1 : W3.cell? ⟨bk, 1, none⟩ = some (.slice (some ⟨R1, 0, none⟩) c.m k1) := by rw [← e1]; exact hA.bm.c1
    have hR1 := (hA.bm.ints.lt R1 (by rw [e1]; rfl)).1
    have hR1l := (hA.bm.ints.lt R1 (by rw [e1]; rfl)).2
    have q0 := vk3.k0
    have q1 := vk3.k1
    have q2 := vk3.k2
    have q3 := vk3.k3
    have q4 := vk3.k4
    have HA := hide hA
    have HVK3 := hide vk3
    have HE1 := hide hE1n
    have HE1r := hide e1
    rw [← hE1n]
    clear hA vk3 hE1 hE1n e1 ob3 hb3 hW3 HM2 HB2 HVK2 z3
    by_cases hs : smallK c.m k
    · have HSM := hide (tells_yes hs)
      obtain ⟨a1, a2, a3⟩ := hs
      obtain ⟨q, hq⟩ : ∃ q : Nat, k.num = (q : Int) + 1 := ⟨(k.num - 1).toNat, by omega⟩
      have hqm : q < c.m := by omega
      have HRES : Hid ({ onW c k v with I := upd (onW c k v).I q ((c.n : Int) + 1), n := c.n + 1 } = comeC hf c k v) := hide (by
        have e : comeC hf c k v = addSmall c k v := if_pos ⟨a1, a2, a3⟩
        rw [e]
        unfold addSmall
        rw [show (k.num - 1).toNat = q by omega]
        rfl)
      have hwq : IntKind.i64.wrap (q : Int) = q := by rw [IntKind.wrap_i64]; omega
      have HQ := hide hq
      clear a1 a2 a3 hq
      go_wp2_with fail
      refine wp_region_quiet (C := fun w' => Below W3.heap.size W3 w') (by kernel_rfl) (by kernel_rfl) ((Below.refl _ _).drew) ?_
      show wpQuiet _ _ _ _ [_, _, _, _, _, _, _] _
      refine wpQuiet_step (fun K hK => ?_)
      go_simp
      apply Exists.intro
      refine And.intro (fun w' hw' => ?_) (hK _ ?_)
      · obtain ⟨hc', hf'⟩ := bcell hw'
        go_simp
        first | rfl | exact ⟨rfl, rfl⟩ | exact ⟨rfl⟩
      clear hK K
      refine wpQuiet_step (fun K hK => ?_)
      go_simp
      refine ⟨_, fun w' hw' => rfl, hK _ ?_⟩
      clear hK K
      refine wpQuiet_step (fun K hK => ?_)
      go_simp
      refine ⟨_, fun w' hw' => rfl, hK _ ?_⟩
      clear hK K
      refine wpQuiet_step (fun K hK => ?_)
      go_simp
      refine ⟨_, fun w' hw' => rfl, hK _ ?_⟩
      clear hK K
      refine wpQuiet_step (fun K hK => ?_)
      go_simp
      apply Exists.intro
      refine And.intro (fun w' hw' => ?_) (hK _ ?_)
      · obtain ⟨hc', hf'⟩ := bcell hw'
        go_simp
        first | rfl | exact ⟨rfl, rfl⟩ | exact ⟨rfl⟩
      clear hK K
      refine wpQuiet_step (fun K hK => ?_)
      go_simp
      refine ⟨_, fun w' hw' => rfl, hK _ ?_⟩
      clear hK K
      refine wpQuiet_step (fun K hK => ?_)
      go_simp
      apply Exists.intro
      refine And.intro (fun w' hw' => ?_) (hK _ ?_)
      · refine (((unhide HSM) ▸ hasPlace_any k c.m _ (by omega))).mono ?_
        rintro e w'' ⟨rfl, hb⟩
        exact ⟨rfl, hw'.trans (hb.mono hw'.size)⟩
      clear hK K
      refine wpQuiet_nil ?_
      intro w4 hw4
      have l4 := Nat.lt_of_lt_of_le l3 hw4.size
      have lb4 := Nat.lt_of_lt_of_le lb3 hw4.size
      have c14 := (hw4.cell (p := ⟨bk, 1, none⟩) lb3).trans c1
      have q14 := (hw4.cell (p := ⟨w.heap.size, 1, none⟩) l3).trans q1
      rw [unhide HQ] at q14
      have hR1l4 := Nat.lt_of_lt_of_le hR1l hw4.size
      have hA4 : AEnd w4 bk (.slice la c.n lc) r1 R2 E1 S (onW c k v) := ⟨(unhide HA).bm.below hw4, (unhide HA).e.keep hw4.size (hw4.block _ (unhide HA).e.lt), (unhide HA).eb, (unhide HA).ne⟩
      have hbm4 : BMut w4 bk (.slice la c.n lc) (.slice (some ⟨R1, 0, none⟩) c.m k1) R2 E1 S (onW c k v) := by rw [← unhide HE1r]; exact hA4.bm
      obtain ⟨_, _, e5, _, _, _, hc5, hf5⟩ := hbm4.ints.form (by show 0 < c.m; omega)
      cases e5
      have d5 := hc5 q (by show q < c.m; exact hqm)
      have f5 := hf5 q
      obtain ⟨cR1, hbR1⟩ := hbm4.ints.block (b := R1) rfl
      have hp := BMut.putI (d := onW c k v) hbm4 (i := q) (by show q < c.m; exact hqm) ((c.n : Int) + 1)
      rw [show entP E1 ((c.n : Int) + 1) = some ⟨E1 c.n, 0, none⟩ by unfold entP; rw [if_pos (by omega), show ((c.n : Int) + 1 - 1).toNat = c.n by omega]] at hp
      have HA5 : Hid (AEnd (w4.setCell ⟨R1, q, none⟩ (.pointer (some ⟨E1 c.n, 0, none⟩))).drew bk (.slice la c.n lc) (.slice (some ⟨R1, 0, none⟩) c.m k1) R2 E1 S { onW c k v with I := upd (onW c k v).I q ((c.n : Int) + 1) })   := hide ⟨hp.below (Below.refl _ _).drew, hA4.e.keep (by simp) (Deep.blk_setCell_other _ _ _ _ (by show E1 c.n ≠ R1; exact fun e => type_apart (e ▸ hA4.e.ob) hbR1 (by decide))), hA4.eb, hA4.ne⟩
      have HB4 := hide (((unhide HB3).trans (hw4.mono (by omega))).setCell (p := ⟨R1, q, none⟩) (by show bk ≤ R1; omega) (.pointer (some ⟨E1 c.n, 0, none⟩))).drew
      have hS0 : HeldT bk w.heap.size R1 c.m k1 q w4.drew := ⟨c14, q14⟩
      have hne : R1 ≠ w.heap.size := fun e => by
        have h1 := (unhide HVK3).keep hw4.size (hw4.block _ l3)
        have h2 := h1.k0
        rw [← e] at h2
        rw [hc5 0 (by show 0 < c.m; omega)] at h2
        cases h2
      clear hbm4 hA4 hp hbR1 hw4 HA hc5 hf5 q0 q1 q2 q3 q4 c1
      go_wp2_with fail
      refine wpN_held (HeldT bk w.heap.size R1 c.m k1 q) (by kernel_rfl) ?_
      change wpAnyH _ _ _ _ _ _ _ _ (World.drew _)
      refine tk 0 (v := ?_) rfl (by kernel_rfl) (by rfl) ?_ (by assumption) ?_
      rotate_left
      · intro w' ⟨s0, s1⟩; go_simp; first | done | with_reducible rfl
      simp only [Act.put, List.setIfInBounds_toArray, List.set_cons_succ, List.set_cons_zero]
      refine tk 1 (v := ?_) rfl (by kernel_rfl) (by rfl) ?_ (by assumption) ?_
      rotate_left
      · intro w' ⟨s0, s1⟩; go_simp; first | done | with_reducible rfl
      simp only [Act.put, List.setIfInBounds_toArray, List.set_cons_succ, List.set_cons_zero]
      refine tk 2 (v := ?_) rfl (by kernel_rfl) (by rfl) ?_ (by assumption) ?_
      rotate_left
      · intro w' ⟨s0, s1⟩; go_simp; first | done | with_reducible rfl
      simp only [Act.put, List.setIfInBounds_toArray, List.set_cons_succ, List.set_cons_zero]
      refine tk 3 (v := ?_) rfl (by kernel_rfl) (by rfl) ?_ (by assumption) ?_
      rotate_left
      · intro w' ⟨s0, s1⟩; go_simp; first | done | with_reducible rfl
      simp only [Act.put, List.setIfInBounds_toArray, List.set_cons_succ, List.set_cons_zero]
      refine tk 4 (v := ?_) rfl (by kernel_rfl) (by rfl) ?_ (by assumption) ?_
      rotate_left
      · intro w' ⟨s0, s1⟩; go_simp; first | done | with_reducible rfl
      simp only [Act.put, List.setIfInBounds_toArray, List.set_cons_succ, List.set_cons_zero]
      refine tk 5 (v := ?_) rfl (by kernel_rfl) (by rfl) ?_ (by assumption) ?_
      rotate_left
      · intro w' ⟨s0, s1⟩; go_simp; first | done | with_reducible rfl
      simp only [Act.put, List.setIfInBounds_toArray, List.set_cons_succ, List.set_cons_zero]
      refine tk 6 (v := ?_) rfl (by kernel_rfl) (by rfl) ?_ (by assumption) ?_
      rotate_left
      · intro w' ⟨s0, s1⟩; go_simp; first | done | with_reducible rfl
      simp only [Act.put, List.setIfInBounds_toArray, List.set_cons_succ, List.set_cons_zero]
      refine tk 7 (v := ?_) rfl (by kernel_rfl) (by rfl) ?_ (by assumption) ?_
      rotate_left
      · intro w' ⟨s0, s1⟩; go_simp; first | done | with_reducible rfl
      simp only [Act.put, List.setIfInBounds_toArray, List.set_cons_succ, List.set_cons_zero]
      refine tk 8 (v := ?_) rfl (by kernel_rfl) (by rfl) ?_ (by assumption) ?_
      rotate_left
      · intro w' ⟨s0, s1⟩; go_simp; first | done | with_reducible rfl
      simp only [Act.put, List.setIfInBounds_toArray, List.set_cons_succ, List.set_cons_zero]
      refine wpAnyH_ready (rs := [9]) (by kernel_rfl) (by simp) ?_
      refine AllReadyH.cons rfl (fun K hK => ?_) AllReadyH.nil
      go_simp
      refine hK.out _ _ ⟨(cell_set_block (by omega)).trans hS0.1, (cell_set_block hne).trans hS0.2⟩ (fun _ => ?_)
      clear hK K hS0
      refine wpAnyH_done (by kernel_rfl) ?_ _
      refine QN.normal ?_
      generalize hW5 : (w4.setCell ⟨R1, q, none⟩ (.pointer (some ⟨E1 c.n, 0, none⟩))).drew = W5 at *
      have HA6 : Hid (AEnd (W5) bk (.slice la c.n lc) (.slice (some ⟨R1, 0, none⟩) c.m k1) R2 E1 S { onW c k v with I := upd (onW c k v).I q ((c.n : Int) + 1) }) := hide (unhide HA5)
      have HB6 : Hid (Below bk w (W5)) := hide (unhide HB4)
      have HLOG : Hid (Rw (W5) (bk + 1) tEnt (.slice la c.n lc) c.n (fun i => some ⟨E1 i, 0, none⟩)) := hide ((unhide HA6).bm.log)
      have c0x : (W5).cell? ⟨bk, 0, none⟩ = some (.slice la c.n lc) := (unhide HA6).bm.c0
      have lbx : bk < (W5).heap.size := (unhide HA6).bm.lt
      have HFIN : Hid (∀ (o : Obj) (g3 cp3 : Nat) (w3 : World), w3.ownsRow (bk + 1) tEnt 1 (.slice (some ⟨g3, 0, none⟩) (c.n + 1) cp3) (c.n + 1) (ptL (fun i => some ⟨E1 i, 0, none⟩) c.n ++ [.pointer (some ⟨E1 c.n, 0, none⟩)]) → ((W5).alloc o).grownBy w3 (Value.slice la c.n lc).ownBlock → ((Value.slice la c.n lc).ownBlock = some g3 ∨ g3 = (W5).heap.size + 1) →
          w3.cell? ⟨bk, 0, none⟩ = some (.slice la c.n lc) ∧ w3.frozen? ⟨bk, 0, none⟩ = false ∧ bk < w3.heap.size ∧ (∃ r1' R2' S', BMut (w3.setCell ⟨bk, 0, none⟩ (.slice (some ⟨g3, 0, none⟩) (c.n + 1) cp3)) bk (.slice (some ⟨g3, 0, none⟩) (c.n + 1) cp3) r1' R2' E1 S' (comeC hf c k v)) ∧ Below bk w (w3.setCell ⟨bk, 0, none⟩ (.slice (some ⟨g3, 0, none⟩) (c.n + 1) cp3))) := hide (fun o g3 cp3 w3 h1 h2 h3 => by
        obtain ⟨p1, p2, p3, p4, p5⟩ := (unhide HA6).fin h1 h2 h3
        exact ⟨p1, p2, p3, ⟨_, _, _, by rw [← unhide HRES]; exact p4⟩, (unhide HB6).trans p5⟩)
      clear HA6 HB6
      go_wp2_with (at_builtin; refine wpList_append_lies _ rfl _ _ 60 rfl (bk + 1) tEnt i0 (.pointer none) 1 8 Tryd.underlying60 hi0 hz0 hz1 hz2 rfl (by decide) (.slice la c.n lc) c.n (ptL (fun i => some ⟨E1 i, 0, none⟩) c.n) rfl (World.ownsRow.alloc (unhide HLOG) _) ⟨(W5).heap.size, 0, none⟩ 1 1 [.pointer (some ⟨E1 c.n, 0, none⟩)] rfl rfl (World.news_of_block (Deep.blk_alloc_new _ _)) (by simp [Value.oneCell']) (by decide) (by unfold maxLen; omega) (by omega) (by simp; omega) ((W5).heap.size + 1) (by simp) ?_; intro g3 cp3 w3 hown3 hgr3 hloc3 hlt3; obtain ⟨x3, f3, lx3, hN3, hB3⟩ := unhide HFIN _ g3 cp3 w3 hown3 hgr3 hloc3; have HN3 := hide hN3; have HBB := hide hB3; clear hown3 hgr3 hloc3 hN3 hB3)
      go_end0
      obtain ⟨r1', R2', S', hN⟩ := unhide HN3
      exact ⟨⟨⟨_, rfl⟩, _, r1', R2', E1, S', hN⟩, unhide HBB⟩
    · have HSM := hide (tells_no hs)
      have HNS := hide hs
      have hci' := comeC_inv KL hci hcn hk hkb hv hv0 hcno hclive hcturn
      have HMn := hide hci'.2.2.1
      have HML := hide hci'.2.2.2.1
      clear hs hci'
      go_wp2_with fail
      refine wp_region_quiet (C := fun w' => Below W3.heap.size W3 w') (by kernel_rfl) (by kernel_rfl) ((Below.refl _ _).drew) ?_
      show wpQuiet _ _ _ _ [_, _, _, _, _, _, _] _
      refine wpQuiet_step (fun K hK => ?_)
      go_simp
      apply Exists.intro
      refine And.intro (fun w' hw' => ?_) (hK _ ?_)
      · obtain ⟨hc', hf'⟩ := bcell hw'
        go_simp
        first | rfl | exact ⟨rfl, rfl⟩ | exact ⟨rfl⟩
      clear hK K
      refine wpQuiet_step (fun K hK => ?_)
      go_simp
      refine ⟨_, fun w' hw' => rfl, hK _ ?_⟩
      clear hK K
      refine wpQuiet_step (fun K hK => ?_)
      go_simp
      refine ⟨_, fun w' hw' => rfl, hK _ ?_⟩
      clear hK K
      refine wpQuiet_step (fun K hK => ?_)
      go_simp
      refine ⟨_, fun w' hw' => rfl, hK _ ?_⟩
      clear hK K
      refine wpQuiet_step (fun K hK => ?_)
      go_simp
      apply Exists.intro
      refine And.intro (fun w' hw' => ?_) (hK _ ?_)
      · obtain ⟨hc', hf'⟩ := bcell hw'
        go_simp
        first | rfl | exact ⟨rfl, rfl⟩ | exact ⟨rfl⟩
      clear hK K
      refine wpQuiet_step (fun K hK => ?_)
      go_simp
      refine ⟨_, fun w' hw' => rfl, hK _ ?_⟩
      clear hK K
      refine wpQuiet_step (fun K hK => ?_)
      go_simp
      apply Exists.intro
      refine And.intro (fun w' hw' => ?_) (hK _ ?_)
      · refine (((unhide HSM) ▸ hasPlace_any k c.m _ (by omega))).mono ?_
        rintro e w'' ⟨rfl, hb⟩
        exact ⟨rfl, hw'.trans (hb.mono hw'.size)⟩
      clear hK K
      refine wpQuiet_nil ?_
      intro w4 hw4
      have l4 := Nat.lt_of_lt_of_le l3 hw4.size
      have lb4 := Nat.lt_of_lt_of_le lb3 hw4.size
      have vk4 := (unhide HVK3).keep hw4.size (hw4.block _ l3)
      have q04 := vk4.k0
      have q14 := vk4.k1
      have q24 := vk4.k2
      have q34 := vk4.k3
      have q44 := vk4.k4
      have hA4 : AEnd w4 bk (.slice la c.n lc) r1 R2 E1 S (onW c k v) := ⟨(unhide HA).bm.below hw4, (unhide HA).e.keep hw4.size (hw4.block _ (unhide HA).e.lt), (unhide HA).eb, (unhide HA).ne⟩
      have HB4 := hide ((unhide HB3).trans (hw4.mono (by omega)))
      have HSm : Hid (Small (onW c k v)) := hide ⟨hcn', by show c.m ≤ _; omega, by show c.x ≤ _; omega⟩
      have HNXI : Hid (∀ w', Below w4.heap.size w4 w' → Calls Tryd.prog 35 #[.pointer (some ⟨bk, 0, none⟩)] w' fun e w'' => e = .returned (V 2 ((c.m : Int) + 1) 0 ⟨#[]⟩ 0) ∧ Below w'.heap.size w' w'') := hide (fun w' hw' => by
        obtain ⟨R0', R1', hB'⟩ := (hA4.bm.below hw').book
        exact nextInt_any bk R0' R1' R2 E1 S (onW c k v) w' hB' (unhide HSm))
      have HA4 := hide hA4
      clear hw4 HA vk4 hA4 q0 q1 q2 q3 q4 c1
      by_cases hnx : k.kind = 2 ∧ k.num = (c.m : Int) + 1
      · have HNX := hide hnx
        have HF := hide (int_key hkb hnx.1)
        clear hnx
        go_wp2_with fail
        refine wp_region_quiet (C := fun w' => Below w4.heap.size w4 w') (by kernel_rfl) (by kernel_rfl) ((Below.refl _ _).drew) ?_
        show wpQuiet _ _ _ _ [_, _, _, _] _
        refine wpQuiet_step (fun K hK => ?_)
        go_simp
        apply Exists.intro
        refine And.intro (fun w' hw' => ?_) (hK _ ?_)
        · obtain ⟨hc', hf'⟩ := bcell hw'
          go_simp
          first | rfl | exact ⟨rfl, rfl⟩ | exact ⟨rfl⟩
        clear hK K
        refine wpQuiet_step (fun K hK => ?_)
        go_simp
        refine ⟨_, fun w' hw' => rfl, hK _ ?_⟩
        clear hK K
        refine wpQuiet_step (fun K hK => ?_)
        go_simp
        apply Exists.intro
        refine And.intro (fun w' hw' => ?_) (hK _ ?_)
        · refine ((unhide HNXI _ hw')).mono ?_
          rintro e w'' ⟨rfl, hb⟩
          exact ⟨rfl, hw'.trans (hb.mono hw'.size)⟩
        clear hK K
        refine wpQuiet_step (fun K hK => ?_)
        go_simp
        refine ⟨.bool true, fun w' hw' => ?_, hK _ ?_⟩
        · obtain ⟨x1, x2⟩ := unhide HNX
          obtain ⟨x3, x4, x5⟩ := unhide HF
          have x3' : FloatKind.f64.format.order k.flt 0 = some Ordering.eq := by simpa using x3
          have x4' : k.str.toList = [] := List.isEmpty_iff.1 x4
          simp only [x1, x2, x5, x3', x4', if_true]
          exact ⟨trivial, trivial⟩
        clear hK K
        refine wpQuiet_nil ?_
        intro w5 hw5
        have hA5 : AEnd w5 bk (.slice la c.n lc) r1 R2 E1 S (onW c k v) := ⟨(unhide HA4).bm.below hw5, (unhide HA4).e.keep hw5.size (hw5.block _ (unhide HA4).e.lt), (unhide HA4).eb, (unhide HA4).ne⟩
        have HB5 := hide ((unhide HB4).trans (hw5.mono (by omega)))
        have HCALL : Hid (Calls Tryd.prog 46 #[.pointer (some ⟨bk, 0, none⟩), .pointer (some ⟨E1 c.n, 0, none⟩)] w5 fun e w' => (∃ u, e = .returned u) ∧ (∃ r1' S', AEnd w' bk (.slice la c.n lc) r1' R2 E1 S' { comeC hf c k v with n := c.n }) ∧ Below bk w w') := hide (by
          obtain ⟨x1, x2⟩ := unhide HNX
          have hT5 : T w5 := hTb _ _ (unhide HT) (unhide HB5)
          have hLn : ((onW c k v).L (onW c k v).n) = ⟨k, v, c.turns + 1⟩ := onW_L c k v
          have hcome : comeC hf c k v = moveD hf (c.x + 1) (addNext c k v) := by unfold comeC; rw [if_neg (unhide HNS), if_pos ⟨x1, x2⟩]
          obtain ⟨cR1, hbR1⟩ := hA5.bm.ints.block (b := R1) (by rw [unhide HE1r]; rfl)
          obtain ⟨cR2, hbR2⟩ := hA5.bm.slots.block (b := R2) rfl
          have hae := hA5.e
          refine (addNextInt_any T hTl hf K KL hHs bk hTb (.slice la c.n lc) r1 R2 E1 S (onW c k v) w5 hT5 hA5.bm (unhide HSm) hcm (by rw [hLn]; exact x1) (by rw [hLn]; exact x2) (addNext_inv KL hci hk hkb hv hv0 hcno x1 x2 hclive hcturn)).mono ?_
          rintro e w' ⟨⟨hu, r1', S', hN⟩, hkx⟩
          have hN : BMut w' bk (.slice la c.n lc) r1' R2 E1 S' { moveD hf (c.x + 1) (addNext c k v) with n := c.n } := hN
          rw [← hcome] at hN
          have hblk := hkx.blk (E1 c.n) hae.lt (by
            rintro (e | e | e)
            · have := hA5.eb
              have h' : bk < E1 c.n := this
              omega
            · rw [unhide HE1r] at e
              have e' : R1 = E1 c.n := by simpa [Value.ownBlock] using e
              exact type_apart (e' ▸ hae.ob) hbR1 (by decide)
            · exact type_apart (e ▸ hae.ob) hbR2 (by decide))
          refine ⟨hu, ⟨r1', S', hN, ?_, hA5.eb, hA5.ne⟩, (unhide HB5).trans hkx.bel⟩
          have h1 : (comeC hf c k v).L c.n = (onW c k v).L c.n := by rw [unhide HML]; rfl
          show ECell w' (E1 c.n) ((comeC hf c k v).L c.n) c.n
          rw [h1]
          exact hae.keep hkx.bel.size hblk)
        clear hA5 HB5 hw5 HA4 HB4 HNXI q04 q14 q24 q34 q44
        go_wp2_with fail
        refine (unhide HCALL).mono ?_
        rintro e w6 ⟨⟨uu6, rfl⟩, ⟨r1x, Sx, hA6x⟩, hB6x⟩
        have HRES : Hid ({ { comeC hf c k v with n := c.n } with n := c.n + 1 } = comeC hf c k v) := hide (by
          have h1 := unhide HMn
          generalize comeC hf c k v = M at h1
          cases M
          simp only at h1
          subst h1
          rfl)
        have HA6x := hide hA6x
        have HB6x := hide hB6x
        clear hA6x hB6x HCALL
        have HA6 : Hid (AEnd (w6) bk (.slice la c.n lc) r1x R2 E1 Sx { comeC hf c k v with n := c.n }) := hide (unhide HA6x)
        have HB6 : Hid (Below bk w (w6)) := hide (unhide HB6x)
        have HLOG : Hid (Rw (w6) (bk + 1) tEnt (.slice la c.n lc) c.n (fun i => some ⟨E1 i, 0, none⟩)) := hide ((unhide HA6).bm.log)
        have c0x : (w6).cell? ⟨bk, 0, none⟩ = some (.slice la c.n lc) := (unhide HA6).bm.c0
        have lbx : bk < (w6).heap.size := (unhide HA6).bm.lt
        have HFIN : Hid (∀ (o : Obj) (g3 cp3 : Nat) (w3 : World), w3.ownsRow (bk + 1) tEnt 1 (.slice (some ⟨g3, 0, none⟩) (c.n + 1) cp3) (c.n + 1) (ptL (fun i => some ⟨E1 i, 0, none⟩) c.n ++ [.pointer (some ⟨E1 c.n, 0, none⟩)]) → ((w6).alloc o).grownBy w3 (Value.slice la c.n lc).ownBlock → ((Value.slice la c.n lc).ownBlock = some g3 ∨ g3 = (w6).heap.size + 1) →
            w3.cell? ⟨bk, 0, none⟩ = some (.slice la c.n lc) ∧ w3.frozen? ⟨bk, 0, none⟩ = false ∧ bk < w3.heap.size ∧ (∃ r1' R2' S', BMut (w3.setCell ⟨bk, 0, none⟩ (.slice (some ⟨g3, 0, none⟩) (c.n + 1) cp3)) bk (.slice (some ⟨g3, 0, none⟩) (c.n + 1) cp3) r1' R2' E1 S' (comeC hf c k v)) ∧ Below bk w (w3.setCell ⟨bk, 0, none⟩ (.slice (some ⟨g3, 0, none⟩) (c.n + 1) cp3))) := hide (fun o g3 cp3 w3 h1 h2 h3 => by
          obtain ⟨p1, p2, p3, p4, p5⟩ := (unhide HA6).fin h1 h2 h3
          exact ⟨p1, p2, p3, ⟨_, _, _, by rw [← unhide HRES]; exact p4⟩, (unhide HB6).trans p5⟩)
        clear HA6 HB6
        go_wp2_with (at_builtin; refine wpList_append_lies _ rfl _ _ 60 rfl (bk + 1) tEnt i0 (.pointer none) 1 8 Tryd.underlying60 hi0 hz0 hz1 hz2 rfl (by decide) (.slice la c.n lc) c.n (ptL (fun i => some ⟨E1 i, 0, none⟩) c.n) rfl (World.ownsRow.alloc (unhide HLOG) _) ⟨(w6).heap.size, 0, none⟩ 1 1 [.pointer (some ⟨E1 c.n, 0, none⟩)] rfl rfl (World.news_of_block (Deep.blk_alloc_new _ _)) (by simp [Value.oneCell']) (by decide) (by unfold maxLen; omega) (by omega) (by simp; omega) ((w6).heap.size + 1) (by simp) ?_; intro g3 cp3 w3 hown3 hgr3 hloc3 hlt3; obtain ⟨x3, f3, lx3, hN3, hB3⟩ := unhide HFIN _ g3 cp3 w3 hown3 hgr3 hloc3; have HN3 := hide hN3; have HBB := hide hB3; clear hown3 hgr3 hloc3 hN3 hB3)
        go_end0
        obtain ⟨r1', R2', S', hN⟩ := unhide HN3
        exact ⟨⟨⟨_, rfl⟩, _, r1', R2', E1, S', hN⟩, unhide HBB⟩
      · have HNX := hide hnx
        clear hnx
        go_wp2_with fail
        refine wp_region_quiet (C := fun w' => Below w4.heap.size w4 w') (by kernel_rfl) (by kernel_rfl) ((Below.refl _ _).drew) ?_
        show wpQuiet _ _ _ _ [_, _, _, _] _
        refine wpQuiet_step (fun K hK => ?_)
        go_simp
        apply Exists.intro
        refine And.intro (fun w' hw' => ?_) (hK _ ?_)
        · obtain ⟨hc', hf'⟩ := bcell hw'
          go_simp
          first | rfl | exact ⟨rfl, rfl⟩ | exact ⟨rfl⟩
        clear hK K
        refine wpQuiet_step (fun K hK => ?_)
        go_simp
        refine ⟨_, fun w' hw' => rfl, hK _ ?_⟩
        clear hK K
        refine wpQuiet_step (fun K hK => ?_)
        go_simp
        apply Exists.intro
        refine And.intro (fun w' hw' => ?_) (hK _ ?_)
        · refine ((unhide HNXI _ hw')).mono ?_
          rintro e w'' ⟨rfl, hb⟩
          exact ⟨rfl, hw'.trans (hb.mono hw'.size)⟩
        clear hK K
        refine wpQuiet_step (fun K hK => ?_)
        go_simp
        refine ⟨.bool false, fun w' hw' => ?_, hK _ ?_⟩
        · have hno' := unhide HNX
          by_cases x1 : k.kind = 2
          · have x2 : ¬ k.num = (c.m : Int) + 1 := fun h => hno' ⟨x1, h⟩
            simp only [x1, x2, if_true, if_false]
            exact ⟨trivial, trivial⟩
          · simp only [x1, if_false]
            exact ⟨trivial, trivial⟩
        clear hK K
        refine wpQuiet_nil ?_
        intro w5 hw5
        have hA5 : AEnd w5 bk (.slice la c.n lc) r1 R2 E1 S (onW c k v) := ⟨(unhide HA4).bm.below hw5, (unhide HA4).e.keep hw5.size (hw5.block _ (unhide HA4).e.lt), (unhide HA4).eb, (unhide HA4).ne⟩
        have HB5 := hide ((unhide HB4).trans (hw5.mono (by omega)))
        have HCALL : Hid (Calls Tryd.prog 47 #[.pointer (some ⟨bk, 0, none⟩), .pointer (some ⟨E1 c.n, 0, none⟩)] w5 fun e w' => (∃ u, e = .returned u) ∧ (∃ R2' S', AEnd w' bk (.slice la c.n lc) r1 R2' E1 S' { comeC hf c k v with n := c.n }) ∧ Below bk w w') := hide (by
          have hT5 : T w5 := hTb _ _ (unhide HT) (unhide HB5)
          have hLn : ((onW c k v).L (onW c k v).n) = ⟨k, v, c.turns + 1⟩ := onW_L c k v
          have hrn : (roomD hf c).n = c.n := (roomD_inv hci hclive).2.2.n
          have hcome : enterD hf (roomB hf (onW c k v)) ((onW c k v).L (onW c k v).n).key (onW c k v).n = { comeC hf c k v with n := c.n } := by
            have e1 : comeC hf c k v = enterD hf (addL (roomD hf c) k v) k c.n := by unfold comeC; rw [if_neg (unhide HNS), if_neg (unhide HNX)]
            rw [e1, hLn, room_onW hci.core, onW_addL hrn]
            exact enter_cut hf (addL (roomD hf c) k v) k c.n c.n
          obtain ⟨cR2, hbR2⟩ := hA5.bm.slots.block (b := R2) rfl
          have hae := hA5.e
          refine (addToIndex_any T hTl hf bk hTb (.slice la c.n lc) r1 R2 E1 S (onW c k v) w5 hT5 hA5.bm (unhide HSm) (fun i hi ht => by
            have hi' : i < c.n := hi
            rw [onW_old c k v hi'] at ht ⊢
            exact hHs _ (hci.keys i hi' ht)) (by rw [hld_onW]; exact livN_hld hci.core hclive) hae hA5.eb (by rw [hLn]; exact hHs k hk) (fun j hj => by
            rcases hci.idx.range j hj with e | e | e
            · exact .inl e
            · exact .inr (.inl e)
            · exact .inr (.inr e.1)) hci.used).mono ?_
          rintro e w' ⟨⟨hu, R2', S', hN⟩, hkx⟩
          rw [hcome] at hN
          have hblk := hkx.blk (E1 c.n) hae.lt (by
            rintro (e | e)
            · have h' : bk < E1 c.n := hA5.eb
              omega
            · exact type_apart (e ▸ hae.ob) hbR2 (by decide))
          refine ⟨hu, ⟨R2', S', hN, ?_, hA5.eb, hA5.ne⟩, (unhide HB5).trans hkx.bel⟩
          have h1 : (comeC hf c k v).L c.n = (onW c k v).L c.n := by rw [unhide HML]; rfl
          show ECell w' (E1 c.n) ((comeC hf c k v).L c.n) c.n
          rw [h1]
          exact hae.keep hkx.bel.size hblk)
        clear hA5 HB5 hw5 HA4 HB4 HNXI q04 q14 q24 q34 q44
        go_wp2_with fail
        refine (unhide HCALL).mono ?_
        rintro e w6 ⟨⟨uu6, rfl⟩, ⟨R2x, Sx, hA6x⟩, hB6x⟩
        have HRES : Hid ({ { comeC hf c k v with n := c.n } with n := c.n + 1 } = comeC hf c k v) := hide (by
          have h1 := unhide HMn
          generalize comeC hf c k v = M at h1
          cases M
          simp only at h1
          subst h1
          rfl)
        have HA6x := hide hA6x
        have HB6x := hide hB6x
        clear hA6x hB6x HCALL
        have HA6 : Hid (AEnd (w6) bk (.slice la c.n lc) r1 R2x E1 Sx { comeC hf c k v with n := c.n }) := hide (unhide HA6x)
        have HB6 : Hid (Below bk w (w6)) := hide (unhide HB6x)
        have HLOG : Hid (Rw (w6) (bk + 1) tEnt (.slice la c.n lc) c.n (fun i => some ⟨E1 i, 0, none⟩)) := hide ((unhide HA6).bm.log)
        have c0x : (w6).cell? ⟨bk, 0, none⟩ = some (.slice la c.n lc) := (unhide HA6).bm.c0
        have lbx : bk < (w6).heap.size := (unhide HA6).bm.lt
        have HFIN : Hid (∀ (o : Obj) (g3 cp3 : Nat) (w3 : World), w3.ownsRow (bk + 1) tEnt 1 (.slice (some ⟨g3, 0, none⟩) (c.n + 1) cp3) (c.n + 1) (ptL (fun i => some ⟨E1 i, 0, none⟩) c.n ++ [.pointer (some ⟨E1 c.n, 0, none⟩)]) → ((w6).alloc o).grownBy w3 (Value.slice la c.n lc).ownBlock → ((Value.slice la c.n lc).ownBlock = some g3 ∨ g3 = (w6).heap.size + 1) →
            w3.cell? ⟨bk, 0, none⟩ = some (.slice la c.n lc) ∧ w3.frozen? ⟨bk, 0, none⟩ = false ∧ bk < w3.heap.size ∧ (∃ r1' R2' S', BMut (w3.setCell ⟨bk, 0, none⟩ (.slice (some ⟨g3, 0, none⟩) (c.n + 1) cp3)) bk (.slice (some ⟨g3, 0, none⟩) (c.n + 1) cp3) r1' R2' E1 S' (comeC hf c k v)) ∧ Below bk w (w3.setCell ⟨bk, 0, none⟩ (.slice (some ⟨g3, 0, none⟩) (c.n + 1) cp3))) := hide (fun o g3 cp3 w3 h1 h2 h3 => by
          obtain ⟨p1, p2, p3, p4, p5⟩ := (unhide HA6).fin h1 h2 h3
          exact ⟨p1, p2, p3, ⟨_, _, _, by rw [← unhide HRES]; exact p4⟩, (unhide HB6).trans p5⟩)
        clear HA6 HB6
        go_wp2_with (at_builtin; refine wpList_append_lies _ rfl _ _ 60 rfl (bk + 1) tEnt i0 (.pointer none) 1 8 Tryd.underlying60 hi0 hz0 hz1 hz2 rfl (by decide) (.slice la c.n lc) c.n (ptL (fun i => some ⟨E1 i, 0, none⟩) c.n) rfl (World.ownsRow.alloc (unhide HLOG) _) ⟨(w6).heap.size, 0, none⟩ 1 1 [.pointer (some ⟨E1 c.n, 0, none⟩)] rfl rfl (World.news_of_block (Deep.blk_alloc_new _ _)) (by simp [Value.oneCell']) (by decide) (by unfold maxLen; omega) (by omega) (by simp; omega) ((w6).heap.size + 1) (by simp) ?_; intro g3 cp3 w3 hown3 hgr3 hloc3 hlt3; obtain ⟨x3, f3, lx3, hN3, hB3⟩ := unhide HFIN _ g3 cp3 w3 hown3 hgr3 hloc3; have HN3 := hide hN3; have HBB := hide hB3; clear hown3 hgr3 hloc3 hN3 hB3)
        go_end0
        obtain ⟨r1', R2', S', hN⟩ := unhide HN3
        exact ⟨⟨⟨_, rfl⟩, _, r1', R2', E1, S', hN⟩, unhide HBB⟩
end Go.Proofs.YtglcaejddckleaaDoor
