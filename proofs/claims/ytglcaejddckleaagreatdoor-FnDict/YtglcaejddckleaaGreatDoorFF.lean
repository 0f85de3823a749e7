import Derived.Test.YtglcaejddckleaaGreatDoorFE
import Derived.Deep.AppendLies
set_option linter.unusedVariables false
namespace Go.Proofs.YtglcaejddckleaaGreatDoor
section
open Go.RowKit Go.Shelf
attribute [local go_sem] run_store_float run_equalIn_float Oper.semAt_some
theorem ECell.of_ob {w : World} {b : Nat} {p : Pr} {i : Nat} (h : w.heap[b]? = some (.cells (entA p i) 92 (0, 0))) : ECell w b p i :=
 ⟨(Array.getElem?_eq_some_iff.1 h).1, by simp [World.cell?, h, entA], by simp [World.cell?, h, entA], by simp [World.cell?, h, entA], by simp [World.cell?, h, entA], by simp [World.cell?, h, entA], by simp [World.cell?, h, entA], by simp [World.cell?, h, entA], by simp [World.cell?, h, entA], by simp [World.cell?, h, entA], by simp [World.cell?, h, entA], by simp [World.cell?, h, entA], by simp [World.cell?, h, entA], h⟩
theorem ECell.setPlace {w : World} {b : Nat} {p : Pr} {i : Nat} (h : ECell w b p i) (j : Nat) : ECell (w.setCell ⟨b, 11, none⟩ (.int .i64 (j : Int))) b p j :=
 ECell.of_ob ((heap_setCell_same w b 11 _ _ _ h.ob).trans (by simp [entA]))
structure KpE (p n0 : Nat) (E : Nat → Nat) (n : Nat) (A B : World) : Prop where
 size : A.heap.size ≤ B.heap.size
 block : ∀ b, b < n0 → b ≠ p → (∀ i, i < n → E i ≠ b) → B.heap[b]? = A.heap[b]?
 ent : ∀ i q, i < n → q ≠ 11 → B.cell? ⟨E i, q, none⟩ = A.cell? ⟨E i, q, none⟩
theorem KpE.refl (p n0 : Nat) (E : Nat → Nat) (n : Nat) (A : World) : KpE p n0 E n A A := ⟨Nat.le_refl _, fun _ _ _ _ => rfl, fun _ _ _ _ => rfl⟩
theorem KpE.trans {p n0 : Nat} {E : Nat → Nat} {n : Nat} {A B C : World} (h : KpE p n0 E n A B) (k : KpE p n0 E n B C) : KpE p n0 E n A C := ⟨Nat.le_trans h.size k.size, fun b h1 h2 h3 => (k.block b h1 h2 h3).trans (h.block b h1 h2 h3), fun i q h1 h2 => (k.ent i q h1 h2).trans (h.ent i q h1 h2)⟩
theorem KpE.of_below {p n0 : Nat} {E : Nat → Nat} {n : Nat} {A B : World} (h : Below n0 A B) (hE : ∀ i, i < n → E i < n0) : KpE p n0 E n A B := ⟨h.size, fun b h1 _ _ => h.block b h1, fun i q h1 _ => h.cell (p := ⟨E i, q, none⟩) (hE i h1)⟩
theorem KpE.put {p n0 : Nat} {E : Nat → Nat} {n : Nat} {w : World} (hn : n0 ≤ w.heap.size) (hE : ∀ i, i < n → E i < n0) (W : World) (l : Nat) (o o' : Obj) (hl : w.heap.size ≤ l) (h : W.heap[l]? = some o) (_ : o.isCells = false) (_ : o.isWalk = false) : KpE p n0 E n W (W.putObj l o') :=
 KpE.of_below ((Below.refl n0 W).grown (grownBy_putObj' W l o') (by have := (Array.getElem?_eq_some_iff.1 h).1; omega) (fun k e => by cases e; omega)) hE
set_option maxRecDepth 100000 in
set_option maxHeartbeats 2000000 in
theorem living_stopsE (n : Nat) (hn : 1 ≤ n) (bk R0 R1 R2 mb p n0 : Nat) (E S : Nat → Nat) (d : Dc) (w : World) (hB : Book w bk R0 R1 R2 E S d) (hS : Small d) (hR : 0 < d.n → R0 < n0 ∧ R0 ≠ p ∧ ∀ i, i < d.n → E i ≠ R0)
  (m0 : w.cell? ⟨mb, 0, none⟩ = some (.pointer (some ⟨bk, 0, none⟩))) :
  SeqStopsK Fence.wide n Tryz.prog 107 #[.pointer (some ⟨mb, 0, none⟩)] (fun a : Liv d => #[.pointer (some ⟨E a.1, 0, none⟩)]) (KpE p n0 E d.n)
   (LvAll d) (LvPre d) d.n w := fun l J Jx W hW hJ hJx hY h0 => by
 have lm := World.block_lt_of_cell? _ _ m0
 have m0 := (hW.cell (p := ⟨mb, 0, none⟩) lm).trans m0
 have hBk := hB.below hW
 obtain ⟨a0, k0, c0, ha0⟩ := hBk.c0
 have HA0 := uy ha0
 clear ha0
 have lb := hBk.lt
 have hnn := hS.n
 have HY := uy hY
 have H0 := uy h0
 have HBk := uy hBk
 clear hJx hJ hY hW h0 hBk hB hS
 refine callsIn_of_wp Tryz.func107 rfl trivial ?_ rfl
 simp only [Tryz.ntmps107, List.size_toArray, List.length_cons, List.length_nil, Nat.reduceAdd, Nat.reduceSub, Array.replicate_succ, Array.replicate_zero, List.push_toArray, List.append_toArray, List.nil_append, List.cons_append]
 gi_wp2
 gi_loopw [10] (fun i wr => ∃ (k : Nat) (pre : List (Liv d)), k ≤ d.n ∧ i = .int .i64 (k : Int) ∧ LvTo d k pre ∧ J pre wr ∧ KpE p n0 E d.n W wr) (fun i _ => d.n - (intOf i).toNat)
 case atStart => exact ⟨0, [], by omega, rfl, rfl, uh H0, KpE.refl _ _ _ _ _⟩
 case round =>
  obtain ⟨k, pre, hk, rfl, hlv, hJp, hbw⟩ := hrel
  by_cases hkn : k < d.n
  ·obtain rfl := uh HA0 (by omega)
   have hR' := hR (by omega)
   have p0 := (World.cell?_of_block (a := ⟨R0, k, none⟩) (hbw.block _ hR'.1 hR'.2.1 hR'.2.2)).trans ((uh HBk).r0 k hkn)
   have t0 := (hbw.ent k 10 hkn (by decide)).trans ((uh HBk).ent k hkn).tn
   have HLV := uy hlv
   have HBW := uy hbw
   clear hlv hbw hR'
   by_cases ht : (d.L k).turn = 0
   ·have HN : Hid (LvTo d (k + 1) pre) := uy (by unfold LvTo; rw [livL_dead ht]; exact uh HLV)
    rw [ht] at t0
    clear ht
    gi_wp2
    refine ⟨fun _ h => (by cases h), ?_⟩
    gi_wp2
    go_roundw
    case rel => exact ⟨k + 1, pre, by omega, by go_num, uh HN, hJp, uh HBW⟩
    case measure => simp [intOf]; omega
   ·have ht' : ((d.L k).turn != 0) = true := by simp [ht]
    obtain ⟨fn, tmps, assign, body, hy, hRR⟩ := uh HY pre ⟨k, hkn, ht⟩ wr hJp (by
     have h1 : (pre.map (·.1)).length = (livL d k).length := congrArg List.length (uh HLV)
     rw [List.length_map] at h1
     have := livL_le d k
     omega)
    have HN : Hid (LvTo d (k + 1) (pre ++ [⟨k, hkn, ht⟩])) := uy (by
     unfold LvTo
     rw [livL_live ht, List.map_append, show pre.map (·.1) = livL d k from uh HLV]
     rfl)
    have HR := uy hRR
    clear hRR hJp
    dsimp only at hy
    gi_wp2
    refine (uh HR).mono ?_
    rintro e W3 (⟨rfl, hJ3, hk3⟩ | ⟨rfl, hJx3⟩)
    ·clear HR hy
     gi_wp2
     go_roundw
     case rel => exact ⟨k + 1, _, by omega, by go_num, uh HN, hJ3, (uh HBW).trans hk3⟩
     case measure => simp [intOf]; omega
    ·clear HR hy
     gi_wp2
     refine bodyPost_ret (results_none rfl _ _ _) rfl ?_
     exact ⟨⟨_, rfl⟩, .inr ⟨_, (uh HN).pre (by omega), hJx3⟩⟩
  ·have hkn' : k = d.n := by omega
   subst hkn'
   have HS := uy hlv
   clear hlv
   gi_wp2
   go_end0
   exact ⟨⟨_, rfl⟩, .inl ⟨pre, uh HS, hJp⟩⟩
end
section
open Go.RowKit Go.Shelf
attribute [local go_sem] run_store_float run_equalIn_float Oper.semAt_some
theorem livL_nodup (d : Dc) (k : Nat) : (livL d k).Nodup := List.Nodup.sublist List.filter_sublist List.nodup_range
theorem livL_rank {d : Dc} {i : Nat} (hi : i < d.n) (ht : (d.L i).turn ≠ 0) : (livL d d.n)[rank d i]? = some i := by
 obtain ⟨r, hr⟩ := livL_prefix (d := d) (k := i + 1) (n := d.n) (by omega)
 rw [livL_live ht] at hr
 rw [← hr]
 unfold rank
 rw [List.append_assoc, List.getElem?_append_right (Nat.le_refl _)]
 simp
def pkX (d : Dc) (j : Nat) : Int := if 0 < d.X j then (rank d (d.X j - 1).toNat : Int) + 1 else d.X j
def packX (d : Dc) : Dc := { packD d with X := pkX d }
def E' (E : Nat → Nat) (d : Dc) (j : Nat) : Nat := E ((livL d d.n).getD j 0)
theorem E'_rank {E : Nat → Nat} {d : Dc} {i : Nat} (hi : i < d.n) (ht : (d.L i).turn ≠ 0) : E' E d (rank d i) = E i := by
 unfold E'
 rw [List.getD_eq_getElem?_getD, livL_rank hi ht]
 rfl
theorem packed {w W : World} {bk p n0 : Nat} {r0 r1 v : Value} {R2 : Nat} {E S f : Nat → Nat} {d : Dc} (h : BMut w bk r0 r1 R2 E S d) (hsz : w.heap.size ≤ W.heap.size) (hb : ∀ b, b < w.heap.size → (∀ i, i < d.n → E i ≠ b) → W.heap[b]? = w.heap[b]?) (hn0 : bk < n0)
  (hI : ∀ j, j < d.m → d.I j = 0 ∨ (0 < d.I j ∧ d.I j ≤ d.n ∧ (d.L (d.I j - 1).toNat).turn ≠ 0)) (hX : ∀ j, j < d.x → 0 < d.X j → d.X j ≤ d.n ∧ (d.L (d.X j - 1).toNat).turn ≠ 0)
  (he : ∀ i, i < d.n → ECell W (E i) (d.L i) (f i)) (hf : ∀ j (hj : j < (livL d d.n).length), f (livL d d.n)[j] = j) (hv : Rw W n0 tEnt v (livL d d.n).length (eP E (livL d d.n))) (hl0 : w.heap.size ≤ n0) :
  BMut (W.setCell ⟨bk, 0, none⟩ v) bk v r1 R2 (E' E d) S (packX d) := by
 have hE : ∀ i, i < d.n → E i ≠ bk := fun i hi e => by have := h.eb i hi; omega
 have hbk : W.heap[bk]? = w.heap[bk]? := hb bk h.lt hE
 have hc : ∀ q, W.cell? ⟨bk, q, none⟩ = w.cell? ⟨bk, q, none⟩ := fun q => World.cell?_of_block (a := ⟨bk, q, none⟩) hbk
 have ob : ∀ b, b ≠ bk → (W.setCell ⟨bk, 0, none⟩ v).heap[b]? = W.heap[b]? := fun b hb => Deep.blk_setCell_other _ _ _ _ (by exact hb)
 have ho : ∀ q, q ≠ 0 → (W.setCell ⟨bk, 0, none⟩ v).cell? ⟨bk, q, none⟩ = w.cell? ⟨bk, q, none⟩ := fun q hq => (cell_set_other (fun e => hq e.symm)).trans (hc q)
 have tE : ∀ {t : TypeId} {c : Array Value} {b : Nat}, w.heap[b]? = some (.cells c t (0, 0)) → t ≠ 92 → ∀ i, i < d.n → E i ≠ b := fun {t c b} hb ht i hi e => type_apart (e ▸ (h.ent i hi).ob) hb (fun e => ht e.symm)
 have kr : ∀ {t : TypeId} {u : Value} {n : Nat} {g : Nat → Option Addr}, Rw w (bk + 1) t u n g → t ≠ 92 → Rw (W.setCell ⟨bk, 0, none⟩ v) (bk + 1) t u n g := fun {t u n g} hh ht => own_at hh (fun q e => by
  have := hh.lt q e
  obtain ⟨c, hq⟩ := hh.block e
  exact (ob q (by omega)).trans (hb q this.2 (tE hq ht)))
 have lv : ∀ j, j < lvN d → ∃ i, i < d.n ∧ (d.L i).turn ≠ 0 ∧ rank d i = j ∧ (livL d d.n)[j]? = some i := fun j hj => by
  obtain ⟨i, h1, h2, h3⟩ := rank_surj d.n hj
  exact ⟨i, h1, h2, h3, by rw [← h3]; exact livL_rank h1 h2⟩
 have eI : ∀ x : Int, x = 0 ∨ (0 < x ∧ x ≤ d.n ∧ (d.L (x - 1).toNat).turn ≠ 0) → entP (E' E d) (if 0 < x then (rank d (x - 1).toNat : Int) + 1 else x) = entP E x := fun x hx => by
  rcases hx with rfl | ⟨h1, h2, h3⟩
  ·rfl
  ·rw [if_pos h1]
   unfold entP
   rw [if_pos h1, if_pos (by omega), show ((rank d (x - 1).toNat : Int) + 1 - 1).toNat = rank d (x - 1).toNat by omega, E'_rank (by omega) h3]
 refine ⟨by simpa using Nat.lt_of_lt_of_le h.lt hsz, World.cell?_setCell_same' _ _ _ (by rw [hc, h.c0]; rfl), (ho 1 (by decide)).trans h.c1, (ho 2 (by decide)).trans h.c2, (ho 3 (by decide)).trans h.c3, (ho 4 (by decide)).trans h.c4, (ho 5 (by decide)).trans h.c5, (ho 6 (by decide)).trans h.c6, fun q => by rw [World.frozen?_setCell]; exact (World.frozen?_of_block (a := ⟨bk, q, none⟩) hbk).trans (h.fz q), ?_, ?_, h.rf, ?_, ?_, ?_, ?_, ?_, ?_, ?_⟩
 ·have h1 : Rw (W.setCell ⟨bk, 0, none⟩ v) n0 tEnt v (livL d d.n).length (eP E (livL d d.n)) := own_at hv (fun q e => ob q (by have := (hv.lt q e).1; omega))
  exact own_mono h1 (by omega)
 ·refine (kr h.ints (by decide)).congr (fun j hj => ?_)
  exact eI (d.I j) (hI j hj)
 ·refine (kr h.slots (by decide)).congr (fun j hj => ?_)
  show sltP S j (pkX d j) = sltP S j (d.X j)
  unfold sltP pkX
  by_cases e : 0 < d.X j
  ·rw [if_pos e, if_neg (by omega), if_neg (by omega)]
  ·rw [if_neg e]
 ·intro q e e'
  have h1 := (hv.lt q e).1
  have h2 := (h.ints.lt q e').2
  omega
 ·intro j hj
  obtain ⟨i, h1, h2, h3, h4⟩ := lv j hj
  have hLj : (packX d).L j = d.L i := by
   show lvF d j = _
   unfold lvF
   rw [List.getD_eq_getElem?_getD, h4]
   rfl
  have hEj : E' E d j = E i := by rw [← h3]; exact E'_rank h1 h2
  obtain ⟨hjl, hge⟩ := List.getElem?_eq_some_iff.1 h4
  have hfi : f i = j := by have := hf j hjl; rwa [hge] at this
  rw [hLj, hEj]
  have h5 := he i h1
  rw [hfi] at h5
  exact h5.keep (by simp) (ob _ (by have := h.eb i h1; omega))
 ·intro j hj
  obtain ⟨i, h1, h2, h3, h4⟩ := lv j hj
  rw [show E' E d j = E i by rw [← h3]; exact E'_rank h1 h2]
  exact h.eb i h1
 ·intro j j' hj hj' e
  obtain ⟨i, h1, h2, h3, h4⟩ := lv j hj
  obtain ⟨i', h1', h2', h3', h4'⟩ := lv j' hj'
  rw [show E' E d j = E i by rw [← h3]; exact E'_rank h1 h2, show E' E d j' = E i' by rw [← h3']; exact E'_rank h1' h2'] at e
  have := h.inj i i' h1 h1' e
  subst this
  omega
 ·intro j hj
  have hj' : j < d.x := hj
  have hs := h.sl j hj'
  have hk : ∀ c, w.heap[S j]? = some (.cells c 119 (0, 0)) → d.X j ≠ 0 → (W.setCell ⟨bk, 0, none⟩ v).heap[S j]? = w.heap[S j]? := fun c hc' h0 => (ob _ (by have := h.sg j hj' h0; omega)).trans (hb _ (Array.getElem?_eq_some_iff.1 hc').1 (tE hc' (by decide)))
  unfold SlotIs
  show (0 < pkX d j → SCell _ (S j) ((packX d).L (pkX d j - 1).toNat).key (E' E d (pkX d j - 1).toNat)) ∧ (pkX d j < 0 → GCell _ (S j))
  by_cases e : 0 < d.X j
  ·have hx : pkX d j = (rank d (d.X j - 1).toNat : Int) + 1 := if_pos e
   obtain ⟨g1, g2⟩ := hX j hj' e
   refine ⟨fun _ => ?_, fun h0 => by omega⟩
   rw [hx, show ((rank d (d.X j - 1).toNat : Int) + 1 - 1).toNat = rank d (d.X j - 1).toNat by omega, E'_rank (by omega) g2, show (packX d).L (rank d (d.X j - 1).toNat) = d.L (d.X j - 1).toNat from lvF_at (by omega) g2]
   have h1 := hs.1 e
   exact h1.keep (by simpa using hsz) (hk _ h1.ob (by omega))
  ·have hx : pkX d j = d.X j := if_neg e
   rw [hx]
   refine ⟨fun h0 => absurd h0 e, fun h0 => ?_⟩
   have h1 := hs.2 h0
   exact h1.keep (by simpa using hsz) (hk _ h1.ob (by omega))
 ·intro j hj h0
  refine h.sg j hj (fun e => h0 ?_)
  show pkX d j = 0
  unfold pkX
  rw [if_neg (by omega), e]
end
section
open Go.RowKit
attribute [local go_sem] run_store_float run_equalIn_float
section
variable {w w3 : World} {bk : Nat} {r0 r1 : Value} {R2 : Nat} {E S : Nat → Nat} {d : Dc}
theorem BMut.pushI (h : BMut w bk r0 r1 R2 E S d) {W : World} (hW : Below w.heap.size w W) {o : Obj} {g3 cp3 : Nat} {x : Int} {a : Option Addr} (ha : a = entP E x) (h1 : w3.ownsRow (bk + 1) tEnt 1 (.slice (some ⟨g3, 0, none⟩) (d.m + 1) cp3) (d.m + 1) (ptL (fun i => entP E (d.I i)) d.m ++ [.pointer a])) (hg : W.grownBy w3 r1.ownBlock) (hl : r1.ownBlock = some g3 ∨ w.heap.size ≤ g3) :
  BMut (w3.setCell ⟨bk, 1, none⟩ (.slice (some ⟨g3, 0, none⟩) (d.m + 1) cp3)) bk r0 (.slice (some ⟨g3, 0, none⟩) (d.m + 1) cp3) R2 E S { d with m := d.m + 1, I := upd d.I d.m x } ∧ KX (fun b => b = bk ∨ r1.ownBlock = some b) bk w (w3.setCell ⟨bk, 1, none⟩ (.slice (some ⟨g3, 0, none⟩) (d.m + 1) cp3)) := by
 have hlt := h.lt
 have hwz := hW.size
 have hz : w.heap.size ≤ w3.heap.size := Nat.le_trans hwz hg.size
 have hB : ∀ b, b < w.heap.size → r1.ownBlock ≠ some b → w3.heap[b]? = w.heap[b]? := fun b hb he => (hg.block b (by omega) (fun e => he e.symm)).trans (hW.block b hb)
 have hbk : r1.ownBlock ≠ some bk := fun e => by have := (h.ints.lt bk e).1; omega
 have os : ∀ b, b ≠ bk → (w3.setCell ⟨bk, 1, none⟩ (.slice (some ⟨g3, 0, none⟩) (d.m + 1) cp3)).heap[b]? = w3.heap[b]? := fun b hb => Deep.blk_setCell_other _ _ _ _ (by exact hb)
 have hc : ∀ q, w3.cell? ⟨bk, q, none⟩ = w.cell? ⟨bk, q, none⟩ := fun q => World.cell?_of_block (a := ⟨bk, q, none⟩) (hB bk hlt hbk)
 have ho : ∀ q, q ≠ 1 → (w3.setCell ⟨bk, 1, none⟩ (.slice (some ⟨g3, 0, none⟩) (d.m + 1) cp3)).cell? ⟨bk, q, none⟩ = w.cell? ⟨bk, q, none⟩ := fun q hq => (cell_set_other (fun e => hq e.symm)).trans (hc q)
 have ty : ∀ {t : TypeId} {c : Array Value} {b : Nat}, w.heap[b]? = some (.cells c t (0, 0)) → t ≠ tEnt → r1.ownBlock ≠ some b := fun {t c b} hb ht e => by
  obtain ⟨c', hb'⟩ := h.ints.block e
  exact type_apart hb hb' ht
 have hg3 := (World.ownsRow.lt h1 g3 rfl).1
 refine ⟨⟨by simpa using Nat.lt_of_lt_of_le hlt hz, (ho 0 (by decide)).trans h.c0, World.cell?_setCell_same' _ _ _ (by rw [hc, h.c1]; rfl), (ho 2 (by decide)).trans h.c2, (ho 3 (by decide)).trans h.c3, (ho 4 (by decide)).trans h.c4, (ho 5 (by decide)).trans h.c5, (ho 6 (by decide)).trans h.c6, fun q => by rw [World.frozen?_setCell]; exact (World.frozen?_of_block (a := ⟨bk, q, none⟩) (hB bk hlt hbk)).trans (h.fz q), ?_, ?_, ⟨_, _, rfl⟩, ?_, ?_, fun i hi => ?_, h.eb, h.inj, fun j hj => ?_, h.sg⟩, ?_⟩
 ·exact own_at h.log (fun q e => (os q (by have := (h.log.lt q e).1; omega)).trans (hB q (h.log.lt q e).2 (fun e' => h.ap q e e')))
 ·have h2 : (w3.setCell ⟨bk, 1, none⟩ (.slice (some ⟨g3, 0, none⟩) (d.m + 1) cp3)).ownsRow (bk + 1) tEnt 1 (.slice (some ⟨g3, 0, none⟩) (d.m + 1) cp3) (d.m + 1) (ptL (fun i => entP E (d.I i)) d.m ++ [.pointer a]) := own_at h1 (fun q e => os q (by
   have e' : g3 = q := by simpa [Value.ownBlock] using e
   omega))
  rw [ptL_snoc] at h2
  refine Rw.congr h2 (fun j hj => ?_)
  show entP E (upd d.I d.m x j) = upd (fun i => entP E (d.I i)) d.m a j
  by_cases e : j = d.m
  ·subst e; rw [upd_same, upd_same, ha]
  ·rw [upd_other _ _ e, upd_other _ _ e]
 ·exact own_at h.slots (fun q e => by
   obtain ⟨c, hb⟩ := h.slots.block e
   exact (os q (by have := (h.slots.lt q e).1; omega)).trans (hB q (h.slots.lt q e).2 (ty hb (by decide))))
 ·intro q e e'
  have e2 : g3 = q := by simpa [Value.ownBlock] using e'
  subst e2
  rcases hl with hl | hl
  ·exact h.ap g3 e hl
  ·have := (h.log.lt g3 e).2; omega
 ·exact (h.ent i hi).keep (by simpa using hz) ((os _ (by have := h.eb i hi; omega)).trans (hB _ (h.ent i hi).lt (ty (h.ent i hi).ob (by decide))))
 ·by_cases h0 : d.X j = 0
  ·exact ⟨fun hp => absurd hp (by show ¬ 0 < d.X j; omega), fun hp => absurd hp (by show ¬ d.X j < 0; omega)⟩
  ·exact SlotIs.keep (d := { d with m := d.m + 1, I := upd d.I d.m x }) (w := w) (h.sl j hj) (by simpa using hz) (fun c hc => (os _ (by have := h.sg j hj h0; omega)).trans (hB _ (Array.getElem?_eq_some_iff.1 hc).1 (ty hc (by decide))))
 ·refine ⟨((hW.mono (by omega)).grown hg (by omega) (fun k e => by have := (h.ints.lt k e).1; omega)).setCell (by exact Nat.le_refl _) _, fun b hb hm => (os b (fun e => hm (.inl e))).trans (hB b hb (fun e => hm (.inr e)))⟩
end
end
section
open Go.RowKit Go.Shelf
attribute [local go_sem] run_store_float run_equalIn_float Oper.semAt_some
def TgI (w u : World) (bk p n0 : Nat) (E : Nat → Nat) (d : Dc) (pre : List (Liv d)) (W : World) : Prop :=
 ∃ (v : Value) (f : Nat → Nat), W.rowIs p 110 1 (fun _ => v) ∧ Rw W n0 tEnt v pre.length (eP E (pre.map (·.1))) ∧ (∀ i, i < d.n → ECell W (E i) (d.L i) (f i)) ∧ ((pre.map (·.1)).Nodup → ∀ j i, (pre.map (·.1))[j]? = some i → f i = j) ∧ KpE p n0 E d.n u W ∧ Below bk w W
theorem TgI.own (w u : World) (bk p n0 D : Nat) (E : Nat → Nat) (d : Dc) (hn : n0 ≤ D) (hu : n0 ≤ u.heap.size) (hw : bk ≤ w.heap.size) (hb : bk ≤ D) (hE : ∀ i, i < d.n → E i < D) : OwnFrom D (TgI w u bk p n0 E d) := by
 rintro pre A B row ⟨v, f, h1, h2, h3, h4, h5, h6⟩ hg hr
 have hEs : ∀ i, i < d.n → B.heap[E i]? = A.heap[E i]? := fun i hi => hg.block _ (h3 i hi).lt (fun e => by have := (hr _ e.symm).1; have := hE i hi; omega)
 refine ⟨v, f, ?_, own_keptO h2 hg hr, fun i hi => (h3 i hi).keep hg.size (hEs i hi), h4, ⟨Nat.le_trans h5.size hg.size, fun b hb hp he => ?_, fun i q hi hq => (World.cell?_of_block (a := ⟨E i, q, none⟩) (hEs i hi)).trans (h5.ent i q hi hq)⟩, h6.grown hg (Nat.le_trans hw h6.size) (fun k e => Nat.le_trans hb (hr k e).1)⟩
 ·obtain ⟨c, hb, hc⟩ := h1
  exact World.rowIs.of_block ⟨c, hb, hc⟩ (kept_cells hb hg hr)
 ·have hl : b < A.heap.size := Nat.lt_of_lt_of_le hb (Nat.le_trans hu h5.size)
  exact (hg.block b hl (fun e => by have := (hr b e.symm).1; omega)).trans (h5.block b hb hp he)
set_option maxRecDepth 100000 in
set_option maxHeartbeats 4000000 in
theorem tighten_any (T : World → Prop) (hTl : Lasts T) (hf : Vl → Nat) (bk : Nat) (hTb : ∀ w w', T w → Below bk w w' → T w') (r0 r1 : Value) (R2 : Nat) (E S : Nat → Nat) (d : Dc) (w : World) (hT : T w) (hM : BMut w bk r0 r1 R2 E S d) (hS : Small d)
  (hH : ∀ i, i < d.n → (d.L i).turn ≠ 0 → HsI T (d.L i).key (hf (d.L i).key)) (hlen : lvN d ≤ 500)
  (hI : ∀ j, j < d.m → d.I j = 0 ∨ (0 < d.I j ∧ d.I j ≤ d.n ∧ (d.L (d.I j - 1).toNat).turn ≠ 0)) (hX : ∀ j, j < d.x → 0 < d.X j → d.X j ≤ d.n ∧ (d.L (d.X j - 1).toNat).turn ≠ 0) :
  Calls Tryz.prog 124 #[.pointer (some ⟨bk, 0, none⟩)] w fun e w' => ((∃ u, e = .returned u) ∧ ∃ r0' R2' E2 S', BMut w' bk r0' r1 R2' E2 S' (fillL hf (packX d) (sizeX (hldL (packX d) (packX d).n).length) (hldL (packX d) (packX d).n))) ∧ KX (fun b => b = bk ∨ ∃ i, i < d.n ∧ E i = b) bk w w' := by
 obtain ⟨i0, hi0, hz0, hz1, hz2⟩ := info_parts infoEnt
 have hdn := hS.n
 have hbkw := hM.lt
 refine (callsIn_wide (n := 20)).1 ?_
 refine callsIn_of_wp_marks Tryz.func124 rfl trivial ?_ rfl
 simp only [Tryz.ntmps124, List.size_toArray, List.length_cons, List.length_nil, Nat.reduceAdd, Nat.reduceSub, Array.replicate_succ, Array.replicate_zero, List.push_toArray, List.append_toArray, List.nil_append, List.cons_append]
 have HM := uy hM
 have HS := uy hS
 have HH := uy hH
 have HL := uy hlen
 have HT := uy hT
 have HI := uy hI
 have HX := uy hX
 clear hM hS hH hlen hT hI hX
 gi_wp2_with fail
 refine ⟨trivial, ?_⟩
 refine (callsIn_wide.2 (living_any bk _)).mono ?_
 rintro e w4 ⟨rfl, rfl⟩
 gi_wp2_with fail
 obtain ⟨u, hu⟩ : ∃ u, u = (w.alloc (.cells #[.slice none 0 0] 110)).alloc (.cells #[.pointer (some ⟨bk, 0, none⟩)] 77) := ⟨_, rfl⟩
 try simp only [World.size_alloc]
 rw [← hu]
 have zu : u.heap.size = w.heap.size + 1 + 1 := by rw [hu]; simp
 have bu : Below w.heap.size w u := by rw [hu]; exact ((Below.refl _ _).alloc (Nat.le_refl _) _).alloc (by simp) _
 have mb0 : u.cell? ⟨w.heap.size + 1, 0, none⟩ = some (.pointer (some ⟨bk, 0, none⟩)) := by rw [hu]; simp [go_sem]
 have hpu : u.rowIs w.heap.size 110 1 (fun _ => .slice none 0 0) := by
  have h1 := World.rowIs_alloc w #[.slice none 0 0] 110 (fun _ => .slice none 0 0) (fun i hi => by
   have : i = 0 := by simpa using hi
   subst this
   rfl)
  refine World.rowIs.of_block h1 ?_
  rw [hu]
  exact Deep.blk_alloc_lt _ _ _ (by simp)
 clear hu
 have hMu := (uh HM).below bu
 obtain ⟨R0, R1, hBu⟩ := hMu.book
 have c0u : u.cell? ⟨w.heap.size, 0, none⟩ = some (.slice none 0 0) := hpu.cell (i := 0) (by omega)
 have hEp : ∀ i, i < d.n → E i < u.heap.size ∧ E i ≠ w.heap.size := fun i hi => ⟨(hBu.ent i hi).lt, fun e => by
  have := (hBu.ent i hi).k0
  rw [e, c0u] at this
  cases this⟩
 have hRp : 0 < d.n → R0 < u.heap.size ∧ R0 ≠ w.heap.size ∧ ∀ i, i < d.n → E i ≠ R0 := fun h0 => by
  refine ⟨hBu.l0, fun e => ?_, fun i hi e => ?_⟩
  ·have := hBu.r0 0 h0
   rw [e, c0u] at this
   cases this
  ·have h1 := hBu.r0 0 h0
   have h2 := (hBu.ent i hi).k0
   rw [← e, h2] at h1
   cases h1
 clear c0u
 refine wpIn_rangeFunc_ownF rfl (by decide) (gf := 107) (lb := #[.pointer (some ⟨w.heap.size + 1, 0, none⟩)]) rfl trivial (enters_of Tryz.func107 (by kernel_rfl) rfl)
  (living_stopsE 19 (by decide) bk R0 R1 R2 (w.heap.size + 1) w.heap.size u.heap.size E S d u hBu (uh HS) hRp mb0) KpE.trans (KpE.put (Nat.le_refl _) (fun i hi => (hEp i hi).1)) (Below.refl _ _) (fun _ => rfl)
  (TgI w u bk w.heap.size u.heap.size E d)
  (fun c pre W => False)
  (TgI.own w u bk w.heap.size u.heap.size u.heap.size E d (Nat.le_refl _) (Nat.le_refl _) (by omega) (by omega) (fun i hi => (hEp i hi).1))
  (fun c _ _ _ _ h => h.elim)
  ⟨.slice none 0 0, id, hpu, World.ownsRow_nil _ _ _ _, hBu.ent, fun _ j i h => by simp at h, KpE.refl _ _ _ _ _, bu.mono (by omega)⟩
  ?a1 ?assign ?body ?done ?stop
 case assign =>
  intro l x W K hK
  gi_wp2
  exact hK
 case stop =>
  rintro D c pre W hD hpre h hK
  exact h.elim
 case body =>
  rintro l pre ⟨i, hi, ht⟩ W ⟨v, f, hp, hown, hec, hfi, hkp, hbw⟩ hlen
  obtain ⟨va, vc, rfl⟩ := hown.slice
  have heb := (hec i hi).ob
  have p11 := (hec i hi).pl
  have hEi := (hec i hi).lt
  have fE : W.frozen? ⟨E i, 11, none⟩ = false := by simp [World.frozen?, heb]
  have x0 := hp.cell (i := 0) (by omega)
  have fx := hp.frozen 0
  have hpl := hp.lt
  have hne : E i ≠ w.heap.size := (hEp i hi).2
  have zW := hkp.size
  have hEu := (hEp i hi).1
  have hpre : pre.length ≤ d.n := by omega
  have HOW1 : Hid (∀ o, ((W.setCell ⟨E i, 11, none⟩ (.int .i64 (pre.length : Int))).alloc o).ownsRow u.heap.size tEnt 1 (.slice va pre.length vc) pre.length (ptL (eP E (pre.map (·.1))) pre.length)) := uy (fun o => World.ownsRow.alloc (own_at hown (fun q e => Deep.blk_setCell_other _ _ _ _ (by have := (hown.lt q e).1; show q ≠ E i; omega))) _)
  have HAPP : Hid (∀ (o : Obj) (g3 cp3 : Nat) (w3 : World), w3.ownsRow u.heap.size tEnt 1 (.slice (some ⟨g3, 0, none⟩) (pre.length + 1) cp3) (pre.length + 1) (ptL (eP E (pre.map (·.1))) pre.length ++ [.pointer (some ⟨E i, 0, none⟩)]) → ((W.setCell ⟨E i, 11, none⟩ (.int .i64 (pre.length : Int))).alloc o).grownBy w3 (Value.slice va pre.length vc).ownBlock →
    (w3.cell? ⟨w.heap.size, 0, none⟩ = some (.slice va pre.length vc) ∧ w3.frozen? ⟨w.heap.size, 0, none⟩ = false) ∧ KeepsOthers W (w3.setCell ⟨w.heap.size, 0, none⟩ (.slice (some ⟨g3, 0, none⟩) (pre.length + 1) cp3)) ∧ KpE w.heap.size u.heap.size E d.n W (w3.setCell ⟨w.heap.size, 0, none⟩ (.slice (some ⟨g3, 0, none⟩) (pre.length + 1) cp3)) ∧ TgI w u bk w.heap.size u.heap.size E d (pre ++ [⟨i, hi, ht⟩]) (w3.setCell ⟨w.heap.size, 0, none⟩ (.slice (some ⟨g3, 0, none⟩) (pre.length + 1) cp3))) := uy (fun o g3 cp3 w3 h1 h2 => by
   have hrow : ∀ b, b < u.heap.size → (Value.slice va pre.length vc).ownBlock ≠ some b := fun b hb e => by have := (hown.lt b e).1; omega
   have hB : ∀ b, b < u.heap.size → b ≠ E i → w3.heap[b]? = W.heap[b]? := fun b hb he => (h2.block b (by simp; omega) (fun e => hrow b hb e.symm)).trans ((Deep.blk_alloc_lt _ _ _ (by simp; omega)).trans (Deep.blk_setCell_other _ _ _ _ (by exact he)))
   have hBi : w3.heap[E i]? = (W.setCell ⟨E i, 11, none⟩ (.int .i64 (pre.length : Int))).heap[E i]? := (h2.block (E i) (by simp; omega) (fun e => hrow _ hEu e.symm)).trans (Deep.blk_alloc_lt _ _ _ (by simpa using hEi))
   have hzz : W.heap.size ≤ w3.heap.size := by have := h2.size; simp at this; omega
   have hp1 : w3.rowIs w.heap.size 110 1 (fun _ => .slice va pre.length vc) := hp.of_block (hB _ (by omega) (fun e => hne e.symm))
   have hg3 := (World.ownsRow.lt h1 g3 rfl).1
   have os : ∀ b, b ≠ w.heap.size → (w3.setCell ⟨w.heap.size, 0, none⟩ (.slice (some ⟨g3, 0, none⟩) (pre.length + 1) cp3)).heap[b]? = w3.heap[b]? := fun b hb => Deep.blk_setCell_other _ _ _ _ (by exact hb)
   have hei : ECell (w3.setCell ⟨w.heap.size, 0, none⟩ (.slice (some ⟨g3, 0, none⟩) (pre.length + 1) cp3)) (E i) (d.L i) pre.length := ((hec i hi).setPlace pre.length).keep (by simpa using hzz) ((os _ hne).trans hBi)
   have hecs : ∀ j, j < d.n → j ≠ i → ECell (w3.setCell ⟨w.heap.size, 0, none⟩ (.slice (some ⟨g3, 0, none⟩) (pre.length + 1) cp3)) (E j) (d.L j) (f j) := fun j hj hji => (hec j hj).keep (by simpa using hzz) ((os _ (hEp j hj).2).trans (hB _ (hEp j hj).1 (fun e => hji (hBu.inj j i hj hi e))))
   have hkE : KpE w.heap.size u.heap.size E d.n W (w3.setCell ⟨w.heap.size, 0, none⟩ (.slice (some ⟨g3, 0, none⟩) (pre.length + 1) cp3)) := ⟨by simpa using hzz, fun b h1 h2' h3 => (os b h2').trans (hB b h1 (fun e => h3 i hi e.symm)), fun j q hj hq => by
    by_cases e : j = i
    ·subst e
     refine (World.cell?_of_block (a := ⟨E j, q, none⟩) ((os _ hne).trans hBi)).trans ?_
     exact cell_set_other (fun e => hq e.symm)
    ·exact World.cell?_of_block (a := ⟨E j, q, none⟩) ((os _ (hEp j hj).2).trans (hB _ (hEp j hj).1 (fun e' => e (hBu.inj j i hj hi e'))))⟩
   refine ⟨⟨hp1.cell (i := 0) (by omega), hp1.frozen 0⟩, ?_, hkE, .slice (some ⟨g3, 0, none⟩) (pre.length + 1) cp3, upd f i pre.length, (hp1.set 0 _).congr (fun q hq => by simp [show q = 0 by omega]), ?_, fun j hj => ?_, fun hnd j q hq => ?_, hkp.trans hkE, ?_⟩
   ·have hko : KeepsOthers ((W.setCell ⟨E i, 11, none⟩ (.int .i64 (pre.length : Int))).alloc o) w3 := KeepsOthers.of_grownBy h2 (fun j o' e ho => by
     obtain ⟨c, hb⟩ := Rw.block hown e
     have hj := (hown.lt j e)
     rw [Deep.blk_alloc_lt _ _ _ (by simpa using hj.2), Deep.blk_setCell_other _ _ _ _ (by show j ≠ E i; omega), hb] at ho
     cases ho
     rfl)
    exact (((KeepsOthers.setCell W _ _).trans (KeepsOthers.alloc _ _)).trans hko).trans (KeepsOthers.setCell _ _ _)
   ·have hl : (pre ++ [⟨i, hi, ht⟩] : List (Liv d)).length = pre.length + 1 := by simp
    have e1 : ptL (eP E (pre.map (·.1))) pre.length ++ [.pointer (some ⟨E i, 0, none⟩)] = ptL (eP E ((pre ++ [⟨i, hi, ht⟩] : List (Liv d)).map (·.1))) (pre.length + 1) := by
     have := eP_snoc E (pre.map (·.1)) i
     rw [List.length_map] at this
     rw [this, List.map_append]
     rfl
    rw [hl]
    refine own_at ?_ (fun q e => os q (by
     have e' : g3 = q := by simpa [Value.ownBlock] using e
     omega))
    rw [e1] at h1
    exact h1
   ·by_cases e : j = i
    ·subst e; rw [upd_same]; exact hei
    ·rw [upd_other _ _ e]; exact hecs j hj e
   ·rw [List.map_append] at hnd hq
    have hnd' := List.nodup_append.1 hnd
    by_cases e : j < (pre.map (·.1)).length
    ·rw [List.getElem?_append_left e] at hq
     have hne' : q ≠ i := fun e' => hnd'.2.2 q (List.mem_of_getElem? hq) i (by simp) e'
     rw [upd_other _ _ hne']
     exact hfi hnd'.1 j q hq
    ·rw [List.getElem?_append_right (by omega)] at hq
     have hj0 : j - (pre.map (·.1)).length = 0 := by
      have h3 := (List.getElem?_eq_some_iff.1 hq).1
      simp at h3
      simp
      omega
     rw [hj0] at hq
     have hqi : i = q := by simpa using hq
     subst hqi
     rw [upd_same]
     rw [List.length_map] at e hj0
     omega
   ·exact (((hbw.setCell (by have := hBu.ent i hi; have := (uh HM).eb i hi; show bk ≤ E i; omega) _).alloc (by simp; omega) _).grown h2 (by simp; omega) (fun k e => by have := (hown.lt k e).1; omega)).setCell (by show bk ≤ w.heap.size; omega) _)
  clear hown hkp hbw hp mb0 hec hfi heb
  gi_wp2_with (gi_at_builtin; refine wpListIn_append_own _ rfl _ _ 110 rfl u.heap.size tEnt i0 (.pointer none) 1 8 Tryz.underlying110 hi0 hz0 hz1 hz2 rfl (by decide) (.slice va pre.length vc) pre.length (ptL (eP E (pre.map (·.1))) pre.length) rfl (uh HOW1 _) ⟨W.heap.size, 0, none⟩ 1 1 [.pointer (some ⟨E i, 0, none⟩)] rfl rfl (World.news_of_block (by rw [show W.heap.size = (W.setCell ⟨E i, 11, none⟩ (.int .i64 (pre.length : Int))).heap.size by simp]; exact Deep.blk_alloc_new _ _)) (by simp [Value.oneCell']) (by unfold maxLen; omega) (by omega) (by simp; omega) ?_; intro v3 w3 hown3 hgr3 _; obtain ⟨g3, cp3, rfl, _, _⟩ := World.ownsRow.form hown3 (by omega); obtain ⟨⟨x3, f3⟩, HN3⟩ := uh HAPP _ g3 cp3 w3 hown3 hgr3; clear hown3 hgr3)
  exact HN3
 case done =>
  rintro D ys W hD hlv ⟨v, f, hp, hown, hec, hfi, hkp, hbw⟩ hK
  have hlv' : ys.map (·.1) = livL d d.n := hlv
  have hyl : ys.length = (livL d d.n).length := by rw [← hlv', List.length_map]
  rw [hyl, hlv'] at hown
  rw [hlv'] at hfi
  obtain ⟨va, vc, rfl⟩ := hown.slice
  have x0 := hp.cell (i := 0) (by omega)
  have zW := hkp.size
  have hEb : ∀ i, i < d.n → E i ≠ bk := fun i hi e => by have := (uh HM).eb i hi; omega
  have hbk : W.heap[bk]? = w.heap[bk]? := (hkp.block bk (by omega) (by omega) hEb).trans (bu.block bk hbkw)
  have c0 : W.cell? ⟨bk, 0, none⟩ = some r0 := (World.cell?_of_block (a := ⟨bk, 0, none⟩) hbk).trans (uh HM).c0
  have f0 : W.frozen? ⟨bk, 0, none⟩ = false := (World.frozen?_of_block (a := ⟨bk, 0, none⟩) hbk).trans ((uh HM).fz 0)
  have lW : w.heap.size < W.heap.size := by omega
  have lb : bk < W.heap.size := by omega
  have hDW : D < W.heap.size := (Array.getElem?_eq_some_iff.1 hK).1
  have hMp := packed (uh HM) (by omega) (fun b hb he => (hkp.block b (by omega) (by omega) he).trans (bu.block b hb)) (n0 := u.heap.size) (p := 0) (by omega) (uh HI) (uh HX) hec (fun j hj => hfi (livL_nodup _ _) j _ (List.getElem?_eq_getElem hj)) hown (by omega)
  have hBp : Below bk w (W.setCell ⟨bk, 0, none⟩ (.slice va (livL d d.n).length vc)) := hbw.setCell (by exact Nat.le_refl _) _
  have hPn : ∀ i, i < lvN d → ∃ i', i' < d.n ∧ (d.L i').turn ≠ 0 ∧ lvF d i = d.L i' := fun j hj => by
   obtain ⟨i, h1, h2, h3⟩ := rank_surj d.n hj
   exact ⟨i, h1, h2, by rw [← h3]; exact lvF_at h1 h2⟩
  have HREM : Hid (Calls Tryz.prog 144 #[.pointer (some ⟨bk, 0, none⟩), .int .i64 0] (W.setCell ⟨bk, 0, none⟩ (.slice va (livL d d.n).length vc)) fun e w' => ((∃ u, e = .returned u) ∧ ∃ R2' S', BMut w' bk (.slice va (livL d d.n).length vc) r1 R2' (E' E d) S' (fillL hf (packX d) (sizeX (hldL (packX d) (packX d).n).length) (hldL (packX d) (packX d).n)) ∧ (W.setCell ⟨bk, 0, none⟩ (.slice va (livL d d.n).length vc)).heap.size ≤ R2') ∧ KX (fun b => b = bk) bk (W.setCell ⟨bk, 0, none⟩ (.slice va (livL d d.n).length vc)) w') := uy (by
   have hSm := uh HS
   have h1 := livL_le d d.n
   have h2 := uh HL
   have h3 : lvN d = (livL d d.n).length := rfl
   exact remakeIndex_any T hTl hf bk hTb _ r1 R2 (E' E d) S (packX d) 0 _ (hTb _ _ (uh HT) hBp) hMp ⟨by show lvN d ≤ _; omega, hSm.m, hSm.x⟩ (fun i hi ht => by
    obtain ⟨i', g1, g2, g3⟩ := hPn i hi
    have e : (packX d).L i = d.L i' := g3
    rw [e]
    exact uh HH i' g1 g2) (by
    have g1 := hldL_le (packX d) (packX d).n
    have g2 := livL_le (packX d) (packX d).n
    have g3 : (packX d).n = lvN d := rfl
    omega))
  have HBP : Hid (KX (fun b => b = bk ∨ ∃ i, i < d.n ∧ E i = b) bk w (W.setCell ⟨bk, 0, none⟩ (.slice va (livL d d.n).length vc))) := uy ⟨hBp, fun b hb hm => (Deep.blk_setCell_other _ _ _ _ (by intro e; exact hm (.inl e))).trans ((hkp.block b (by omega) (by omega) (fun i hi e => hm (.inr ⟨i, hi, e⟩))).trans (bu.block b hb))⟩
  clear hlv hlv' hyl hp hown hec hfi hkp hbw hMp hPn hBp hEb hbk mb0 hpu hBu hMu hEp hRp bu
  generalize (livL d d.n).length = nl at *
  gi_wp2_with fail
  refine ⟨trivial, ?_⟩
  refine (callsIn_wide.2 (uh HREM)).mono ?_
  rintro e w5 ⟨⟨⟨uu, rfl⟩, R2', S', hM5, _⟩, hkx⟩
  have hK5 : w5.heap[D]? = some (.deferred (some [])) := (hkx.blk D (by simpa using hDW) (by omega)).trans ((Deep.blk_setCell_other _ _ _ _ (by show D ≠ bk; omega)).trans hK)
  have HM5 := uy hM5
  have HB5 := uy ((uh HBP).trans (hkx.mono (fun b _ e => .inl e)))
  clear hM5 hkx HREM
  gi_wp2
  refine ⟨by simp, .inl ⟨_, _, rfl, run_takeDeferred hK5, ?_⟩⟩
  have hg := grownBy_putObj' w5 D (.deferred none)
  have z5 := (uh HB5).bel.size
  exact ⟨_, results_none rfl _ _ _, ⟨⟨_, rfl⟩, _, R2', _, S', (uh HM5).grown hg (fun r e => by cases e; exact ⟨_, hK5, rfl⟩)⟩, (uh HB5).grown hg (by omega) (fun k e => by cases e; exact .inl (by omega))⟩
end
section
open Go.RowKit
attribute [local go_sem] run_store_float run_equalIn_float
noncomputable def roomB (hf : Vl → Nat) (d : Dc) : Dc := if (d.x : Int) < 2 * (d.used + 1) then fillL hf d (sizeX ((hldL d d.n).length + 1)) (hldL d d.n) else d
def HeldE (e : Nat) (k : Vl) (W : World) : Prop := W.cell? ⟨e, 0, none⟩ = some (.int .i64 k.kind) ∧ W.cell? ⟨e, 1, none⟩ = some (.int .i64 k.num) ∧ W.cell? ⟨e, 2, none⟩ = some (.float .f64 k.flt) ∧ W.cell? ⟨e, 3, none⟩ = some (.string k.str) ∧ W.cell? ⟨e, 4, none⟩ = some (.int .i64 k.ref)
set_option maxRecDepth 100000 in
set_option maxHeartbeats 4000000 in
theorem addToIndex_any (T : World → Prop) (hTl : Lasts T) (hf : Vl → Nat) (bk : Nat) (hTb : ∀ w w', T w → Below bk w w' → T w') (r0 r1 : Value) (R2 : Nat) (E S : Nat → Nat) (d : Dc) (w : World) (hT : T w) (hM : BMut w bk r0 r1 R2 E S d) (hS : Small d)
  (hH : ∀ i, i < d.n → (d.L i).turn ≠ 0 → HsI T (d.L i).key (hf (d.L i).key)) (hlen : (hldL d d.n).length + 1 ≤ 500) (he : ECell w (E d.n) (d.L d.n) d.n) (heb : bk < E d.n) (hk : HsI T (d.L d.n).key (hf (d.L d.n).key))
  (hX : ∀ j, j < d.x → d.X j = 0 ∨ d.X j = -1 ∨ 0 < d.X j) (hu : (useN d.X d.x : Int) = d.used) :
  Calls Tryz.prog 126 #[.pointer (some ⟨bk, 0, none⟩), .pointer (some ⟨E d.n, 0, none⟩)] w fun e w' => ((∃ u, e = .returned u) ∧ ∃ R2' S', BMut w' bk r0 r1 R2' E S' (enterD hf (roomB hf d) (d.L d.n).key d.n)) ∧ KX (fun b => b = bk ∨ b = R2) bk w w' := by
 have hlt := hM.lt
 have c3 := hM.c3
 have c4 := hM.c4
 have hx := hS.x
 have hul : useN d.X d.x ≤ d.x := useN_le _ _
 have hw1 : IntKind.i64.wrap (d.used + 1) = d.used + 1 := by rw [IntKind.wrap_i64]; omega
 have hw2 : IntKind.i64.wrap (2 * (d.used + 1)) = 2 * (d.used + 1) := by rw [IntKind.wrap_i64]; omega
 obtain ⟨c2, hbR⟩ := hM.slots.block (b := R2) rfl
 have heR : E d.n ≠ R2 := fun e => type_apart (e ▸ he.ob) hbR (by decide)
 have hR2 := hM.r2_lt
 -- the adding itself, over a book with room
 have ADD : ∀ (W : World) (Q2 : Nat) (S2 : Nat → Nat) (c : Dc), BMut W bk r0 r1 Q2 E S2 c → Small c → T W → ECell W (E d.n) (d.L d.n) d.n → c.n = d.n → c.L = d.L → (∀ j, j < c.x → c.X j = 0 ∨ c.X j = -1 ∨ 0 < c.X j) → useN c.X c.x < c.x → 0 ≤ c.used → c.used ≤ 4194304 →
   Calls Tryz.prog 145 #[.pointer (some ⟨bk, 2, none⟩), V (d.L d.n).key.kind (d.L d.n).key.num (d.L d.n).key.flt (d.L d.n).key.str (d.L d.n).key.ref, .pointer (some ⟨E d.n, 0, none⟩)] W fun e w' => ((∃ u, e = .returned u) ∧ ∃ S', BMut w' bk r0 r1 Q2 E S' (enterD hf c (d.L d.n).key d.n)) ∧ KX (fun b => b = bk ∨ b = Q2) bk W w' := fun W Q2 S2 c h1 h2 h3 h4 h5 h6 h7 h8 h9 h10 => by
  refine (indexAdd_any T hTl bk r0 r1 Q2 E S2 c (d.L d.n).key d.n (hf (d.L d.n).key) hk W h3 h1 h2 h7 (by rw [h6]) h8 h9 h10).mono ?_
  rintro e w' ⟨⟨hr, a, S', hfs, hN⟩, hkx⟩
  refine ⟨⟨hr, S', ?_⟩, hkx⟩
  rw [enterD_some hfs]
  exact hN
 by_cases hr : (d.x : Int) < 2 * (d.used + 1)
 ·have hd : decide ((d.x : Int) < 2 * (d.used + 1)) = true := by simpa using hr
  have HR : Hid (roomB hf d = fillL hf d (sizeX ((hldL d d.n).length + 1)) (hldL d d.n)) := uy (if_pos hr)
  have hsl := sizeX_le hlen
  have hsr := sizeX_room hlen
  have hfl := fillL_ok (hf := hf) (d := d) (x := sizeX ((hldL d d.n).length + 1)) (l := hldL d d.n) (by omega) (fun p hp => (mem_hldL hp).1)
  have HREM : Hid (∀ W, Below w.heap.size w W → Calls Tryz.prog 144 #[.pointer (some ⟨bk, 0, none⟩), .int .i64 1] W fun e w' => ((∃ u, e = .returned u) ∧ ∃ R2' S', BMut w' bk r0 r1 R2' E S' (fillL hf d (sizeX ((hldL d d.n).length + 1)) (hldL d d.n)) ∧ W.heap.size ≤ R2') ∧ KX (fun b => b = bk) bk W w') := uy (fun W hW => remakeIndex_any T hTl hf bk hTb r0 r1 R2 E S d 1 W (hTl _ _ hT hW) (hM.below hW) hS hH hlen)
  generalize fillL hf d (sizeX ((hldL d d.n).length + 1)) (hldL d d.n) = c at *
  have HADD := uy ADD
  have HE := uy he
  have HT := uy hT
  have HFL := uy hfl
  have HS := uy hS
  have HH := uy hH
  have hel := he.lt
  clear ADD he hM hT hfl hS hH hX hu hul hbR hr
  go_enter Tryz.func126, Tryz.ntmps126
  go_wp2_with fail
  go_region
  go_wp2_with fail
  refine (uh HREM _ (Below.refl _ _).drew).mono ?_
  rintro e w1 ⟨⟨⟨uu, rfl⟩, Q2, S1, hM1, hQ2⟩, hkx1⟩
  have hkx1 : KX (fun b => b = bk) bk w w1 := (KX.refl _ _ _).drew.trans hkx1
  have hQ2 : w.heap.size ≤ Q2 := hQ2
  have z1 := hkx1.bel.size
  have hE1 : ECell w1 (E d.n) (d.L d.n) d.n := (uh HE).keep z1 (hkx1.blk _ hel (by omega))
  have hS0 : HeldE (E d.n) (d.L d.n).key w1.drew := ⟨hE1.k0, hE1.k1, hE1.k2, hE1.k3, hE1.k4⟩
  have HADD1 : Hid (Calls Tryz.prog 145 #[.pointer (some ⟨bk, 2, none⟩), V (d.L d.n).key.kind (d.L d.n).key.num (d.L d.n).key.flt (d.L d.n).key.str (d.L d.n).key.ref, .pointer (some ⟨E d.n, 0, none⟩)] w1.drew fun e w' => ((∃ u, e = .returned u) ∧ ∃ S', BMut w' bk r0 r1 Q2 E S' (enterD hf c (d.L d.n).key d.n)) ∧ HeldE (E d.n) (d.L d.n).key w' ∧ KX (fun b => b = bk ∨ b = R2) bk w w') := uy (by
   have hfo := uh HFL
   have hux := hfo.use
   have huu := hfo.used
   have hSm := uh HS
   refine (uh HADD w1.drew Q2 S1 c (hM1.below (Below.refl _ _).drew) ⟨by rw [hfo.n]; exact hSm.n, by rw [hfo.m]; exact hSm.m, by rw [hfo.x]; omega⟩ (hTb _ _ (uh HT) hkx1.bel.drew) (hE1.keep (Nat.le_refl _) rfl) hfo.n hfo.L (fun j hj => by rw [hfo.x] at hj; have := hfo.pos j hj; omega) (by rw [hfo.x]; omega) (by omega) (by omega)).mono ?_
   rintro e w' ⟨h1, h2⟩
   have h3 := h2.blk (E d.n) hE1.lt (by rintro (e | e) <;> omega)
   have hE2 := hE1.keep h2.bel.size h3
   exact ⟨h1, ⟨hE2.k0, hE2.k1, hE2.k2, hE2.k3, hE2.k4⟩, hkx1.bel.trans (Below.trans (Below.refl _ _).drew h2.bel), fun b hb hm => (h2.blk b (by show b < w1.heap.size; omega) (by rintro (e | e); exact hm (.inl e); omega)).trans (hkx1.blk b hb (fun e => hm (.inl e)))⟩)
  clear hM1 hkx1 hE1 HREM
  go_wp2_with fail
  refine wpN_held (HeldE (E d.n) (d.L d.n).key) (by kernel_rfl) ?_
  change wpAnyH _ _ _ _ _ _ _ _ (World.drew _)
  refine tk 0 (v := ?_) rfl (by kernel_rfl) (by rfl) ?_ (by assumption) ?_
  rotate_left
  ·intro w' ⟨s0, s1, s2, s3, s4⟩; go_simp; try with_reducible rfl
  simp only [Act.put, sA, sB, sC]
  refine tk 1 (v := ?_) rfl (by kernel_rfl) (by rfl) ?_ (by assumption) ?_
  rotate_left
  ·intro w' ⟨s0, s1, s2, s3, s4⟩; go_simp; try with_reducible rfl
  simp only [Act.put, sA, sB, sC]
  refine tk 2 (v := ?_) rfl (by kernel_rfl) (by rfl) ?_ (by assumption) ?_
  rotate_left
  ·intro w' ⟨s0, s1, s2, s3, s4⟩; go_simp; try with_reducible rfl
  simp only [Act.put, sA, sB, sC]
  refine tk 3 (v := ?_) rfl (by kernel_rfl) (by rfl) ?_ (by assumption) ?_
  rotate_left
  ·intro w' ⟨s0, s1, s2, s3, s4⟩; go_simp; try with_reducible rfl
  simp only [Act.put, sA, sB, sC]
  refine tk 4 (v := ?_) rfl (by kernel_rfl) (by rfl) ?_ (by assumption) ?_
  rotate_left
  ·intro w' ⟨s0, s1, s2, s3, s4⟩; go_simp; try with_reducible rfl
  simp only [Act.put, sA, sB, sC]
  refine tk 5 (v := ?_) rfl (by kernel_rfl) (by rfl) ?_ (by assumption) ?_
  rotate_left
  ·intro w' ⟨s0, s1, s2, s3, s4⟩; go_simp; try with_reducible rfl
  simp only [Act.put, sA, sB, sC]
  refine tk 6 (v := ?_) rfl (by kernel_rfl) (by rfl) ?_ (by assumption) ?_
  rotate_left
  ·intro w' ⟨s0, s1, s2, s3, s4⟩; go_simp; try with_reducible rfl
  simp only [Act.put, sA, sB, sC]
  refine tk 7 (v := ?_) rfl (by kernel_rfl) (by rfl) ?_ (by assumption) ?_
  rotate_left
  ·intro w' ⟨s0, s1, s2, s3, s4⟩; go_simp; try with_reducible rfl
  simp only [Act.put, sA, sB, sC]
  refine tk 8 (v := ?_) rfl (by kernel_rfl) (by rfl) ?_ (by assumption) ?_
  rotate_left
  ·intro w' ⟨s0, s1, s2, s3, s4⟩; go_simp; try with_reducible rfl
  simp only [Act.put, sA, sB, sC]
  refine wpAnyH_ready (rs := [9]) (by kernel_rfl) (by simp) ?_
  refine AllReadyH.cons rfl (fun K hK => ?_) AllReadyH.nil
  go_simp
  refine (uh HADD1).mono ?_
  rintro e w2 ⟨⟨⟨uu2, rfl⟩, S2, hM2⟩, hS2, hkx2⟩
  refine hK.out _ _ hS2 (fun _ => ?_)
  clear hK K hS0 HADD1 hS2
  refine wpAnyH_done (by kernel_rfl) ?_ _
  refine QN.normal ?_
  go_wp2
  go_end0
  exact ⟨⟨⟨_, rfl⟩, Q2, S2, by rw [uh HR]; exact hM2⟩, hkx2⟩
 ·have hd : decide ((d.x : Int) < 2 * (d.used + 1)) = false := by simpa using hr
  have HR : Hid (roomB hf d = d) := uy (if_neg hr)
  have hel := he.lt
  have hS0 : HeldE (E d.n) (d.L d.n).key w.drew.drew := ⟨he.k0, he.k1, he.k2, he.k3, he.k4⟩
  have HADD1 : Hid (Calls Tryz.prog 145 #[.pointer (some ⟨bk, 2, none⟩), V (d.L d.n).key.kind (d.L d.n).key.num (d.L d.n).key.flt (d.L d.n).key.str (d.L d.n).key.ref, .pointer (some ⟨E d.n, 0, none⟩)] w.drew.drew fun e w' => ((∃ u, e = .returned u) ∧ ∃ S', BMut w' bk r0 r1 R2 E S' (enterD hf d (d.L d.n).key d.n)) ∧ HeldE (E d.n) (d.L d.n).key w' ∧ KX (fun b => b = bk ∨ b = R2) bk w w') := uy (by
   refine (ADD w.drew.drew R2 S d (hM.below (Below.refl _ _).drew.drew) hS (hTb _ _ hT (Below.refl _ _).drew.drew) (he.keep (Nat.le_refl _) rfl) rfl rfl hX (by omega) (by omega) (by omega)).mono ?_
   rintro e w' ⟨h1, h2⟩
   have h3 := h2.blk (E d.n) hel (by rintro (e | e) <;> omega)
   have hE2 := he.keep h2.bel.size h3
   exact ⟨h1, ⟨hE2.k0, hE2.k1, hE2.k2, hE2.k3, hE2.k4⟩, KX.trans ((KX.refl _ _ _).drew.drew) h2⟩)
  clear hM hS hT hH he ADD hk hX hu hul hbR hr
  go_enter Tryz.func126, Tryz.ntmps126
  go_wp2_with fail
  go_region
  go_wp2_with fail
  refine wpN_held (HeldE (E d.n) (d.L d.n).key) (by kernel_rfl) ?_
  change wpAnyH _ _ _ _ _ _ _ _ (World.drew _)
  refine tk 0 (v := ?_) rfl (by kernel_rfl) (by rfl) ?_ (by assumption) ?_
  rotate_left
  ·intro w' ⟨s0, s1, s2, s3, s4⟩; go_simp; try with_reducible rfl
  simp only [Act.put, sA, sB, sC]
  refine tk 1 (v := ?_) rfl (by kernel_rfl) (by rfl) ?_ (by assumption) ?_
  rotate_left
  ·intro w' ⟨s0, s1, s2, s3, s4⟩; go_simp; try with_reducible rfl
  simp only [Act.put, sA, sB, sC]
  refine tk 2 (v := ?_) rfl (by kernel_rfl) (by rfl) ?_ (by assumption) ?_
  rotate_left
  ·intro w' ⟨s0, s1, s2, s3, s4⟩; go_simp; try with_reducible rfl
  simp only [Act.put, sA, sB, sC]
  refine tk 3 (v := ?_) rfl (by kernel_rfl) (by rfl) ?_ (by assumption) ?_
  rotate_left
  ·intro w' ⟨s0, s1, s2, s3, s4⟩; go_simp; try with_reducible rfl
  simp only [Act.put, sA, sB, sC]
  refine tk 4 (v := ?_) rfl (by kernel_rfl) (by rfl) ?_ (by assumption) ?_
  rotate_left
  ·intro w' ⟨s0, s1, s2, s3, s4⟩; go_simp; try with_reducible rfl
  simp only [Act.put, sA, sB, sC]
  refine tk 5 (v := ?_) rfl (by kernel_rfl) (by rfl) ?_ (by assumption) ?_
  rotate_left
  ·intro w' ⟨s0, s1, s2, s3, s4⟩; go_simp; try with_reducible rfl
  simp only [Act.put, sA, sB, sC]
  refine tk 6 (v := ?_) rfl (by kernel_rfl) (by rfl) ?_ (by assumption) ?_
  rotate_left
  ·intro w' ⟨s0, s1, s2, s3, s4⟩; go_simp; try with_reducible rfl
  simp only [Act.put, sA, sB, sC]
  refine tk 7 (v := ?_) rfl (by kernel_rfl) (by rfl) ?_ (by assumption) ?_
  rotate_left
  ·intro w' ⟨s0, s1, s2, s3, s4⟩; go_simp; try with_reducible rfl
  simp only [Act.put, sA, sB, sC]
  refine tk 8 (v := ?_) rfl (by kernel_rfl) (by rfl) ?_ (by assumption) ?_
  rotate_left
  ·intro w' ⟨s0, s1, s2, s3, s4⟩; go_simp; try with_reducible rfl
  simp only [Act.put, sA, sB, sC]
  refine wpAnyH_ready (rs := [9]) (by kernel_rfl) (by simp) ?_
  refine AllReadyH.cons rfl (fun K hK => ?_) AllReadyH.nil
  go_simp
  refine (uh HADD1).mono ?_
  rintro e w2 ⟨⟨⟨uu2, rfl⟩, S2, hM2⟩, hS2, hkx2⟩
  refine hK.out _ _ hS2 (fun _ => ?_)
  clear hK K hS0 HADD1 hS2
  refine wpAnyH_done (by kernel_rfl) ?_ _
  refine QN.normal ?_
  go_wp2
  go_end0
  exact ⟨⟨⟨_, rfl⟩, R2, S2, by rw [uh HR]; exact hM2⟩, hkx2⟩
end
section
open Go.RowKit
attribute [local go_sem] run_store_float run_equalIn_float
theorem probe_n {c : Dc} {n : Nat} {v : Vl} : ∀ (f a : Nat), probe { c with n := n } v a f = probe c v a f := by
 intro f
 induction f with
 | zero => intro a; rfl
 | succ f ih => intro a; unfold probe; rw [ih]
theorem slotOf_n (c : Dc) (n : Nat) (v : Vl) (a : Nat) : slotOf { c with n := n } v a = slotOf c v a := by
 unfold slotOf
 show _ = _
 simp only [probe_n]
theorem D4.cut {K : Vl → Prop} {hf : Vl → Nat} {c : Dc} {n : Nat} (h : Inv0 K hf c) (hn : c.n = n + 1) (hs : smallK c.m (c.L n).key) : D4 { c with n := n } := by
 obtain ⟨h1, h2, h3, h4⟩ := h.d4
 refine ⟨h1, fun j hj => ?_, ?_, ?_⟩
 ·rcases h.idx.range j hj with e | e | ⟨e1, e2, e3, e4⟩
  ·exact .inl e
  ·exact .inr (.inl e)
  ·have hne : (c.X j - 1).toNat ≠ n := fun e => e4 (by rw [e]; exact hs)
   exact .inr (.inr ⟨e1, by show c.X j ≤ (n : Int); omega, e3, e4⟩)
 ·rw [usedTo_useN]; rw [usedTo_useN] at h3; exact h3
 ·rw [usedTo_useN]; rw [usedTo_useN] at h4; exact h4
def HeldS (bk R2 x s b e : Nat) (W : World) : Prop := W.cell? ⟨bk, 3, none⟩ = some (.slice (some ⟨R2, 0, none⟩) x x) ∧ W.cell? ⟨R2, s, none⟩ = some (.pointer (some ⟨b, 0, none⟩)) ∧ W.cell? ⟨b, 5, none⟩ = some (.pointer (some ⟨e, 0, none⟩))
set_option maxRecDepth 100000 in
set_option maxHeartbeats 2000000 in
theorem indexRemove_kx (bk : Nat) (r0 r1 : Value) (R2 : Nat) (E S : Nat → Nat) (d : Dc) (s : Nat) (w : World) (hM : BMut w bk r0 r1 R2 E S d) (hS : Small d) (hs : s < d.x) :
  Calls Tryz.prog 122 #[.pointer (some ⟨bk, 2, none⟩), .int .i64 (s : Int)] w fun e w' => ((∃ u, e = .returned u) ∧ ∃ S', BMut w' bk r0 r1 R2 E S' { d with X := upd d.X s (-1) }) ∧ KX (fun b => b = R2) bk w w' := by
 have hx := hS.x
 have hlt := hM.lt
 have c3 := hM.c3
 have hR := hM.r2_lt
 have hR2 := hR.2
 obtain ⟨g, cp, e, _, _, _, hc, hf⟩ := hM.slots.form (by omega)
 cases e
 have d0 := hc s hs
 have f0 := hf s
 have HN := uy (hM.putX hs (x := -1) (by decide) (A := goneA) ⟨fun h => by omega, fun _ => rfl⟩)
 have HB : Hid (KX (fun b => b = R2) bk w ((w.setCell ⟨R2, s, none⟩ (.pointer (some ⟨w.heap.size, 0, none⟩))).alloc (.cells goneA 119))) := uy (KX.alloc (n := bk) (A := w) ((KX.refl (fun b => b = R2) _ _).setCell (by omega) (fun _ => rfl) _) (by omega) _)
 clear hM hS hc hf hR
 go_enter Tryz.func122, Tryz.ntmps122
 go_wp2
 go_end0
 exact ⟨⟨⟨_, rfl⟩, _, uh HN⟩, uh HB⟩
structure NxI (K : Vl → Prop) (hf : Vl → Nat) (w : World) (bk : Nat) (r0 r1 : Value) (R2 : Nat) (E : Nat → Nat) (d D1 : Dc) (c : Dc) (f : Nat) (r1c : Value) (S : Nat → Nat) (W : World) : Prop where
 inv : Inv0 K hf c
 n : c.n = d.n + 1
 L : c.L = d.L
 x : c.x = d.x
 m : d.m + 1 ≤ c.m
 pos : posN c.X c.x < f
 mv : moveD hf f c = moveD hf (d.x + 1) D1
 sum : c.m + posN c.X c.x ≤ d.m + 1 + d.x
 bm : BMut W bk r0 r1c R2 E S { c with n := d.n }
 kx : KX (fun b => b = bk ∨ r1.ownBlock = some b ∨ b = R2) bk w W
 row : ∀ b, r1c.ownBlock = some b → r1.ownBlock = some b ∨ w.heap.size ≤ b
theorem NxI.below {K : Vl → Prop} {hf : Vl → Nat} {w : World} {bk : Nat} {r0 r1 : Value} {R2 : Nat} {E : Nat → Nat} {d D1 c : Dc} {f : Nat} {r1c : Value} {S : Nat → Nat} {W W' : World} (h : NxI K hf w bk r0 r1 R2 E d D1 c f r1c S W) (hb : Below W.heap.size W W') (hbk : bk < w.heap.size) : NxI K hf w bk r0 r1 R2 E d D1 c f r1c S W' :=
 ⟨h.inv, h.n, h.L, h.x, h.m, h.pos, h.mv, h.sum, h.bm.below hb, h.kx.trans (KX.of_below hb (by have := h.bm.lt; omega)), h.row⟩
theorem NxI.step {K : Vl → Prop} {hf : Vl → Nat} (KL : KeyLaw K hf) {w : World} {bk : Nat} {r0 r1 : Value} {R2 : Nat} {E : Nat → Nat} {d D1 c : Dc} {f : Nat} {r1c r1' : Value} {S S' : Nat → Nat} {W W1 W2 : World} {s : Nat} (h : NxI K hf w bk r0 r1 R2 E d D1 c f r1c S W) (e : slotOf c (intV ((c.m : Int) + 1)) (hf (intV ((c.m : Int) + 1))) = some s)
  (k1 : KX (fun b => b = bk ∨ r1c.ownBlock = some b) bk W W1) (hr : ∀ b, r1'.ownBlock = some b → r1c.ownBlock = some b ∨ W.heap.size ≤ b) (k2 : KX (fun b => b = R2) bk W1 W2) (hM : BMut W2 bk r0 r1' R2 E S' { c with m := c.m + 1, I := upd c.I c.m (c.X s), X := upd c.X s (-1), n := d.n }) (hbk : bk < w.heap.size) : ∃ f', NxI K hf w bk r0 r1 R2 E d D1 (moveS c s) f' r1' S' W2 := by
 obtain ⟨s1, s2, s3, s4⟩ := h.inv.slot e
 obtain ⟨f', rfl⟩ : ∃ f', f = f' + 1 := ⟨f - 1, by have := h.pos; omega⟩
 have hp := posN_leave s2 c.x
 rw [if_pos s1] at hp
 have hpos := h.pos
 have hsum := h.sum
 have hm := h.m
 have hz := h.kx.bel.size
 have hz1 := k1.bel.size
 refine ⟨f', moveS_inv KL h.inv e, h.n, h.L, h.x, by show d.m + 1 ≤ c.m + 1; omega, by show posN (upd c.X s (-1)) c.x < f'; omega, by rw [← h.mv, moveD_some e], by show c.m + 1 + posN (upd c.X s (-1)) c.x ≤ _; omega, hM, ⟨h.kx.bel.trans (k1.bel.trans k2.bel), fun b hb hmm => ?_⟩, fun b hb => ?_⟩
 ·refine (k2.blk b (by omega) (fun e => hmm (.inr (.inr e)))).trans ((k1.blk b (by omega) (fun e => ?_)).trans (h.kx.blk b hb hmm))
  rcases e with e | e
  ·exact hmm (.inl e)
  ·rcases h.row b e with e' | e'
   ·exact hmm (.inr (.inl e'))
   ·omega
 ·rcases hr b hb with e' | e'
  ·exact h.row b e'
  ·exact .inr (by omega)
set_option maxRecDepth 100000 in
set_option maxHeartbeats 4000000 in
theorem addNextInt_any (T : World → Prop) (hTl : Lasts T) (hf : Vl → Nat) (K : Vl → Prop) (KL : KeyLaw K hf) (hHs : ∀ v, K v → HsI T v (hf v)) (bk : Nat) (hTb : ∀ w w', T w → Below bk w w' → T w') (r0 r1 : Value) (R2 : Nat) (E S : Nat → Nat) (d : Dc) (w : World) (hT : T w) (hM : BMut w bk r0 r1 R2 E S d) (hS : Small d) (hm4 : d.m ≤ 4000000)
  (hk1 : (d.L d.n).key.kind = 2) (hk2 : (d.L d.n).key.num = (d.m : Int) + 1) (hI : Inv0 K hf { d with n := d.n + 1, m := d.m + 1, I := upd d.I d.m ((d.n : Int) + 1) }) :
  Calls Tryz.prog 125 #[.pointer (some ⟨bk, 0, none⟩), .pointer (some ⟨E d.n, 0, none⟩)] w fun e w' => ((∃ u, e = .returned u) ∧ ∃ r1' S', BMut w' bk r0 r1' R2 E S' { moveD hf (d.x + 1) { d with n := d.n + 1, m := d.m + 1, I := upd d.I d.m ((d.n : Int) + 1) } with n := d.n }) ∧ KX (fun b => b = bk ∨ r1.ownBlock = some b ∨ b = R2) bk w w' := by
 obtain ⟨i0, hi0, hz0, hz1, hz2⟩ := info_parts infoEnt
 obtain ⟨D1, hD1⟩ : ∃ D1 : Dc, D1 = { d with n := d.n + 1, m := d.m + 1, I := upd d.I d.m ((d.n : Int) + 1) } := ⟨_, rfl⟩
 rw [← hD1] at hI ⊢
 have hx4 : d.x ≤ 4000 := by
  have := hI.sz
  rw [hD1] at this
  rcases this with h | h
  ·have h : d.x = 0 := h
   omega
  ·exact h.2.1
 obtain ⟨Q1, q1, rfl⟩ := hM.rf
 have hlt := hM.lt
 have c1 := hM.c1
 have f1 := hM.fz 1
 have HOW0 := uy hM.ints
 have hQ1 := (hM.ints.lt Q1 rfl).1
 -- the find of the next int
 have FIND : ∀ (W : World) (c : Dc) (f : Nat) (r1c : Value) (S' : Nat → Nat), NxI K hf w bk r0 (.slice (some ⟨Q1, 0, none⟩) d.m q1) R2 E d D1 c f r1c S' W → (∀ w', Below W.heap.size W w' → Calls Tryz.prog 103 #[.pointer (some ⟨bk, 0, none⟩)] w' fun e w'' => e = .returned (V 2 ((c.m : Int) + 1) 0 ⟨#[]⟩ 0) ∧ Below w'.heap.size w' w'') ∧
   (∀ w', Below W.heap.size W w' → Calls Tryz.prog 106 #[.pointer (some ⟨bk, 2, none⟩), V 2 ((c.m : Int) + 1) 0 ⟨#[]⟩ 0] w' fun e w'' => e = .returned (.int .i64 (slotI (slotOf c (intV ((c.m : Int) + 1)) (hf (intV ((c.m : Int) + 1)))))) ∧ Below w'.heap.size w' w'') := fun W c f r1c S' h => by
  have hsm : Small { c with n := d.n } := ⟨hS.n, by show c.m ≤ _; have := h.sum; omega, by show c.x ≤ _; rw [h.x]; omega⟩
  refine ⟨fun w' hw' => ?_, fun w' hw' => ?_⟩
  ·obtain ⟨R0, R1, hB⟩ := (h.bm.below hw').book
   exact nextInt_any bk R0 R1 R2 E S' { c with n := d.n } w' hB hsm
  ·obtain ⟨R0, R1, hB⟩ := (h.bm.below hw').book
   have h4 : D4 { c with n := d.n } := D4.cut h.inv h.n ⟨by rw [h.L]; exact hk1, by rw [h.L, hk2]; omega, by rw [h.L, hk2]; have := h.m; omega⟩
   have := find_any T hTl bk R0 R1 R2 E S' { c with n := d.n } (intV ((c.m : Int) + 1)) (hf (intV ((c.m : Int) + 1))) (hHs _ (KL.own _)) w' (hTb _ _ hT (h.kx.bel.trans (hw'.mono (by have := h.bm.lt; omega)))) hB hsm h4
   rw [slotOf_n] at this
   exact this
 have HFIND := uy FIND
 have START : ∀ (o : Obj) (g3 cp3 : Nat) (w3 : World), w3.ownsRow (bk + 1) tEnt 1 (.slice (some ⟨g3, 0, none⟩) (d.m + 1) cp3) (d.m + 1) (ptL (fun i => entP E (d.I i)) d.m ++ [.pointer (some ⟨E d.n, 0, none⟩)]) → (w.alloc o).grownBy w3 (Value.slice (some ⟨Q1, 0, none⟩) d.m q1).ownBlock → ((Value.slice (some ⟨Q1, 0, none⟩) d.m q1).ownBlock = some g3 ∨ g3 = w.heap.size + 1) →
   w3.cell? ⟨bk, 1, none⟩ = some (.slice (some ⟨Q1, 0, none⟩) d.m q1) ∧ w3.frozen? ⟨bk, 1, none⟩ = false ∧ bk < w3.heap.size ∧ NxI K hf w bk r0 (.slice (some ⟨Q1, 0, none⟩) d.m q1) R2 E d D1 D1 (d.x + 1) (.slice (some ⟨g3, 0, none⟩) (d.m + 1) cp3) S (w3.setCell ⟨bk, 1, none⟩ (.slice (some ⟨g3, 0, none⟩) (d.m + 1) cp3)) := fun o g3 cp3 w3 h1 h2 h3 => by
  have hn : (Value.slice (some ⟨Q1, 0, none⟩) d.m q1).ownBlock ≠ some bk := fun e => by
   have e' : Q1 = bk := by simpa [Value.ownBlock] using e
   omega
  have hb : w3.heap[bk]? = w.heap[bk]? := (h2.block bk (by simp; omega) (fun e => hn e.symm)).trans (Deep.blk_alloc_lt _ _ _ hlt)
  obtain ⟨p1, p2⟩ := hM.pushI ((Below.refl _ _).alloc (Nat.le_refl _) o) (o := o) (x := (d.n : Int) + 1) (a := some ⟨E d.n, 0, none⟩) (by unfold entP; rw [if_pos (by omega), show ((d.n : Int) + 1 - 1).toNat = d.n by omega]) h1 h2 (by rcases h3 with h3 | h3; exact .inl h3; exact .inr (by omega))
  have hz : w.heap.size + 1 ≤ w3.heap.size := by have := h2.size; simpa using this
  refine ⟨(World.cell?_of_block (a := ⟨bk, 1, none⟩) hb).trans c1, (World.frozen?_of_block (a := ⟨bk, 1, none⟩) hb).trans f1, by omega, hI, by rw [hD1], by rw [hD1], by rw [hD1], by rw [hD1]; exact Nat.le_refl _, ?_, rfl, ?_, ?_, p2.mono (fun b _ e => e.elim .inl (fun e => .inr (.inl e))), fun b e => ?_⟩
  ·rw [hD1]; have := posN_le d.X d.x; show posN d.X d.x < d.x + 1; omega
  ·rw [hD1]; have := posN_le d.X d.x; show d.m + 1 + posN d.X d.x ≤ d.m + 1 + d.x; omega
  ·rw [hD1]; exact p1
  ·rcases h3 with h3 | h3
   ·have e' : g3 = b := by simpa [Value.ownBlock] using e
    rw [← e']; exact .inl h3
   ·have e' : g3 = b := by simpa [Value.ownBlock] using e
    exact .inr (by omega)
 have HSTART := uy START
 have HT := uy hT
 have HS := uy hS
 have HD1 := uy hD1
 clear hM hT hS START FIND hI hD1
 go_enter Tryz.func125, Tryz.ntmps125
 go_wp2_with (at_builtin; refine wpList_append_lies _ rfl _ _ 110 rfl (bk + 1) tEnt i0 (.pointer none) 1 8 Tryz.underlying110 hi0 hz0 hz1 hz2 rfl (by decide) (.slice (some ⟨Q1, 0, none⟩) d.m q1) d.m (ptL (fun i => entP E (d.I i)) d.m) rfl (World.ownsRow.alloc (uh HOW0) _) ⟨w.heap.size, 0, none⟩ 1 1 [.pointer (some ⟨E d.n, 0, none⟩)] rfl rfl (World.news_of_block (Deep.blk_alloc_new _ _)) (by simp [Value.oneCell']) (by decide) (by unfold maxLen; omega) (by omega) (by simp; omega) (w.heap.size + 1) (by simp) ?_; intro g3 cp3 w3 hown3 hgr3 hloc3 hlt3; obtain ⟨x3, f3, l3, hN3⟩ := uh HSTART _ g3 cp3 w3 hown3 hgr3 hloc3; have HN3 := uy hN3; clear hown3 hgr3 hloc3 hN3)
 generalize hW : w3.setCell ⟨bk, 1, none⟩ (.slice (some ⟨g3, 0, none⟩) (d.m + 1) cp3) = W at *
 have hW' : bk < W.heap.size := by rw [← hW]; simpa using l3
 have HNX := uy ((uh HFIND _ _ _ _ _ (uh HN3)).1)
 have HFD := uy ((uh HFIND _ _ _ _ _ (uh HN3)).2)
 clear hW x3 f3 l3 c1 f1 hlt3
 refine wp_region_quiet (C := fun w' => Below W.heap.size W w') (by kernel_rfl) (by kernel_rfl) ((Below.refl _ _).drew) ?_
 show wpQuiet _ _ _ _ [_, _, _, _, _, _, _] _
 iterate 4 (refine wpQuiet_step (fun K hK => ?_); go_simp; refine ⟨_, fun w' hw' => rfl, hK _ ?_⟩; clear hK K)
 refine wpQuiet_step (fun K hK => ?_)
 go_simp
 apply Exists.intro
 refine And.intro (fun w' hw' => ?_) (hK _ ?_)
 ·refine ((uh HNX _ hw')).mono ?_
  rintro e w'' ⟨rfl, hb⟩
  exact ⟨rfl, hw'.trans (hb.mono hw'.size)⟩
 clear hK K
 refine wpQuiet_step (fun K hK => ?_)
 go_simp
 apply Exists.intro
 refine And.intro (fun w' hw' => ?_) (hK _ ?_)
 ·refine ((uh HFD _ hw')).mono ?_
  rintro e w'' ⟨rfl, hb⟩
  exact ⟨rfl, hw'.trans (hb.mono hw'.size)⟩
 clear hK K
 refine wpQuiet_step (fun K hK => ?_)
 go_simp
 refine ⟨_, fun w' hw' => rfl, hK _ ?_⟩
 clear hK K
 refine wpQuiet_nil ?_
 intro w4 hw4
 have HN4 := uy ((uh HN3).below hw4 hlt)
 clear hw4 HNX HFD HN3 hW'
 go_wp2_with fail
 go_loopw [4] (fun i wr => ∃ (c : Dc) (f : Nat) (r1c : Value) (S' : Nat → Nat), i = .int .i64 (slotI (slotOf c (intV ((c.m : Int) + 1)) (hf (intV ((c.m : Int) + 1))))) ∧ NxI K hf w bk r0 (.slice (some ⟨Q1, 0, none⟩) d.m q1) R2 E d D1 c f r1c S' wr) (fun _ wr => d.m + 2 + d.x - lenB wr bk 1)
 case atStart => exact ⟨D1, d.x + 1, _, S, rfl, uh HN4⟩
 case round =>
  clear HN4
  obtain ⟨c, f, r1c, S', rfl, hN⟩ := hrel
  cases hsl : slotOf c (intV ((c.m : Int) + 1)) (hf (intV ((c.m : Int) + 1))) with
  | none =>
   have HR : Hid ({ moveD hf (d.x + 1) D1 with n := d.n } = { c with n := d.n }) := uy (by rw [← hN.mv, moveD_none hsl])
   have HNN := uy hN
   clear hN hsl
   rw [show slotI none = -1 from rfl]
   go_wp2
   go_end0
   exact ⟨⟨⟨_, rfl⟩, r1c, S', by rw [uh HR]; exact (uh HNN).bm⟩, (uh HNN).kx⟩
  | some s =>
   obtain ⟨s1, s2, s3, s4⟩ := hN.inv.slot hsl
   obtain ⟨R1, k1, e1⟩ := hN.bm.rf
   have e1 : r1c = .slice (some ⟨R1, 0, none⟩) c.m k1 := e1
   subst e1
   have hbm := hN.bm
   have c1r : wr.cell? ⟨bk, 1, none⟩ = some (.slice (some ⟨R1, 0, none⟩) c.m k1) := hbm.c1
   have f1r := hbm.fz 1
   have c3r : wr.cell? ⟨bk, 3, none⟩ = some (.slice (some ⟨R2, 0, none⟩) c.x c.x) := hbm.c3
   have hlr := hbm.lt
   have hlenr : lenB wr bk 1 = c.m := lenB_is c1r
   have hR1 := hbm.ints.lt R1 rfl
   have hR2 := hbm.r2_lt
   obtain ⟨_, _, es, _, _, _, hsc, _⟩ := hbm.slots.form (by show 0 < c.x; omega)
   cases es
   have p0 : wr.cell? ⟨R2, s, none⟩ = some (.pointer (some ⟨S' s, 0, none⟩)) := (hsc s s1).trans (by show some (Value.pointer (sltP S' s (c.X s))) = _; rw [show sltP S' s (c.X s) = some ⟨S' s, 0, none⟩ from if_neg (by omega)])
   have hsl1 := (hbm.sl s s1).1 s2
   obtain ⟨q, hq⟩ : ∃ q, q = (c.X s - 1).toNat := ⟨_, rfl⟩
   have hsl2 : SCell wr (S' s) (c.L q).key (E q) := by rw [hq]; exact hsl1
   have p5 := hsl2.pt
   have hSl := hsl2.lt
   have hSb : bk < S' s := hbm.sg s s1 (by show c.X s ≠ 0; omega)
   obtain ⟨cR1, hbR1⟩ := hbm.ints.block (b := R1) rfl
   obtain ⟨cR2, hbR2⟩ := hbm.slots.block (b := R2) rfl
   have n1 : R1 ≠ R2 := fun e => type_apart (e ▸ hbR1) hbR2 (by decide)
   have n2 : R1 ≠ S' s := fun e => type_apart (e ▸ hbR1) hsl2.ob (by decide)
   have hR1b := hR1.1
   have hR2b := hR2.1
   have hR2l := hR2.2
   have hsum := hN.sum
   have hcx := hN.x
   have HOW : Hid (Rw wr.drew (bk + 1) tEnt (.slice (some ⟨R1, 0, none⟩) c.m k1) c.m (fun i => entP E (c.I i))) := uy (own_at hbm.ints (fun _ _ => rfl))
   have hS0 : HeldS bk R2 c.x s (S' s) (E q) wr.drew := ⟨c3r, p0, p5⟩
   have HPUSH : Hid (∀ (o : Obj) (g3 cp3 : Nat) (w3 : World), w3.ownsRow (bk + 1) tEnt 1 (.slice (some ⟨g3, 0, none⟩) (c.m + 1) cp3) (c.m + 1) (ptL (fun i => entP E (c.I i)) c.m ++ [.pointer (some ⟨E q, 0, none⟩)]) → (wr.drew.alloc o).grownBy w3 (Value.slice (some ⟨R1, 0, none⟩) c.m k1).ownBlock → ((Value.slice (some ⟨R1, 0, none⟩) c.m k1).ownBlock = some g3 ∨ g3 = (wr.drew.alloc o).heap.size) →
     HeldS bk R2 c.x s (S' s) (E q) w3 ∧ w3.cell? ⟨bk, 1, none⟩ = some (.slice (some ⟨R1, 0, none⟩) c.m k1) ∧ w3.frozen? ⟨bk, 1, none⟩ = false ∧ bk < w3.heap.size ∧ (BMut (w3.setCell ⟨bk, 1, none⟩ (.slice (some ⟨g3, 0, none⟩) (c.m + 1) cp3)) bk r0 (.slice (some ⟨g3, 0, none⟩) (c.m + 1) cp3) R2 E S' { c with n := d.n, m := c.m + 1, I := upd c.I c.m (c.X s) } ∧ KX (fun b => b = bk ∨ (Value.slice (some ⟨R1, 0, none⟩) c.m k1).ownBlock = some b) bk wr (w3.setCell ⟨bk, 1, none⟩ (.slice (some ⟨g3, 0, none⟩) (c.m + 1) cp3)) ∧ ∀ b, (Value.slice (some ⟨g3, 0, none⟩) (c.m + 1) cp3).ownBlock = some b → (Value.slice (some ⟨R1, 0, none⟩) c.m k1).ownBlock = some b ∨ wr.heap.size ≤ b)) := uy (fun o g3 cp3 w3 h1 h2 h3 => by
    have hB : ∀ b, b < wr.heap.size → R1 ≠ b → w3.heap[b]? = wr.heap[b]? := fun b hb hne => (h2.block b (by simp; omega) (fun e => hne (by
     have e' : b = R1 := by simpa [Value.ownBlock] using e
     exact e'.symm))).trans (Deep.blk_alloc_lt _ _ _ hb)
    have hz : wr.heap.size + 1 ≤ w3.heap.size := by have := h2.size; simpa using this
    obtain ⟨p1, p2⟩ := hbm.pushI (W := wr.drew.alloc o) ((Below.refl _ _).drew.alloc (Nat.le_refl _) o) (o := o) (x := c.X s) (a := some ⟨E q, 0, none⟩) (by unfold entP; rw [if_pos s2, hq]) h1 h2 (by rcases h3 with h3 | h3; exact .inl h3; exact .inr (by rw [h3]; simp))
    refine ⟨⟨(World.cell?_of_block (a := ⟨bk, 3, none⟩) (hB bk hlr (by omega))).trans c3r, (World.cell?_of_block (a := ⟨R2, s, none⟩) (hB R2 hR2l n1)).trans p0, (World.cell?_of_block (a := ⟨S' s, 5, none⟩) (hB _ hSl n2)).trans p5⟩, (World.cell?_of_block (a := ⟨bk, 1, none⟩) (hB bk hlr (by omega))).trans c1r, (World.frozen?_of_block (a := ⟨bk, 1, none⟩) (hB bk hlr (by omega))).trans f1r, by omega, p1, p2, fun b e => ?_⟩
    have e' : g3 = b := by simpa [Value.ownBlock] using e
    rcases h3 with h3 | h3
    ·rw [← e']; exact .inl h3
    ·exact .inr (by rw [← e', h3]; simp))
   have HREMV : Hid (∀ (g3 cp3 : Nat) (w3 : World), (BMut (w3.setCell ⟨bk, 1, none⟩ (.slice (some ⟨g3, 0, none⟩) (c.m + 1) cp3)) bk r0 (.slice (some ⟨g3, 0, none⟩) (c.m + 1) cp3) R2 E S' { c with n := d.n, m := c.m + 1, I := upd c.I c.m (c.X s) } ∧ KX (fun b => b = bk ∨ (Value.slice (some ⟨R1, 0, none⟩) c.m k1).ownBlock = some b) bk wr (w3.setCell ⟨bk, 1, none⟩ (.slice (some ⟨g3, 0, none⟩) (c.m + 1) cp3)) ∧ ∀ b, (Value.slice (some ⟨g3, 0, none⟩) (c.m + 1) cp3).ownBlock = some b → (Value.slice (some ⟨R1, 0, none⟩) c.m k1).ownBlock = some b ∨ wr.heap.size ≤ b) →
     Calls Tryz.prog 122 #[.pointer (some ⟨bk, 2, none⟩), .int .i64 (s : Int)] (w3.setCell ⟨bk, 1, none⟩ (.slice (some ⟨g3, 0, none⟩) (c.m + 1) cp3)) fun e w6 => (∃ u, e = .returned u) ∧ ∃ f6 S6, NxI K hf w bk r0 (.slice (some ⟨Q1, 0, none⟩) d.m q1) R2 E d D1 (moveS c s) f6 (.slice (some ⟨g3, 0, none⟩) (c.m + 1) cp3) S6 w6 ∧ lenB w6 bk 1 = c.m + 1) := uy (fun g3 cp3 w3 h => by
    refine (indexRemove_kx bk r0 _ R2 E S' _ s _ h.1 ⟨(uh HS).n, by show c.m + 1 ≤ _; omega, by show c.x ≤ _; omega⟩ s1).mono ?_
    rintro e w6 ⟨⟨hu, S6, hM6⟩, hk6⟩
    obtain ⟨f6, hN6⟩ := hN.step KL hsl h.2.1 h.2.2 hk6 hM6 hlt
    exact ⟨hu, f6, S6, hN6, lenB_is hM6.c1⟩)
   have hxs : c.x ≤ 4000 := by omega
   clear hN hbm hsl hsc hsl1 hsl2 hq s2 s3 s4 hR1 hR2 hbR1 hbR2 p0 p5 c3r hcx
   rw [show slotI (some s) = (s : Int) from rfl]
   go_wp2_with fail
   refine wpN_held (HeldS bk R2 c.x s (S' s) (E q)) (by kernel_rfl) ?_
   change wpAnyH _ _ _ _ _ _ _ _ (World.drew _)
   refine tk 0 (v := ?_) rfl (by kernel_rfl) (by rfl) ?_ (by assumption) ?_
   rotate_left
   ·intro w' ⟨s0, s1, s2⟩; go_simp; try with_reducible rfl
   simp only [Act.put, sA, sB, sC]
   refine tk 1 (v := ?_) rfl (by kernel_rfl) (by rfl) ?_ (by assumption) ?_
   rotate_left
   ·intro w' ⟨s0, s1, s2⟩; go_simp; try with_reducible rfl
   simp only [Act.put, sA, sB, sC]
   refine tk 2 (v := ?_) rfl (by kernel_rfl) (by rfl) ?_ (by assumption) ?_
   rotate_left
   ·intro w' ⟨s0, s1, s2⟩; go_simp; try with_reducible rfl
   simp only [Act.put, sA, sB, sC]
   refine tk 3 (v := ?_) rfl (by kernel_rfl) (by rfl) ?_ (by assumption) ?_
   rotate_left
   ·intro w' ⟨s0, s1, s2⟩; go_simp; try with_reducible rfl
   simp only [Act.put, sA, sB, sC]
   refine tk 5 (v := ?_) rfl (by kernel_rfl) (by rfl) ?_ (by assumption) ?_
   rotate_left
   ·intro w' ⟨s0, s1, s2⟩; go_simp; try with_reducible rfl
   simp only [Act.put, sA, sB, sC]
   refine tk 6 (v := ?_) rfl (by kernel_rfl) (by rfl) ?_ (by assumption) ?_
   rotate_left
   ·intro w' ⟨s0, s1, s2⟩; go_simp; try with_reducible rfl
   simp only [Act.put, sA, sB, sC]
   refine tk 7 (v := ?_) rfl (by kernel_rfl) (by rfl) ?_ (by assumption) ?_
   rotate_left
   ·intro w' ⟨s0, s1, s2⟩; go_simp; try with_reducible rfl
   simp only [Act.put, sA, sB, sC]
   refine tk 8 (v := ?_) rfl (by kernel_rfl) (by rfl) ?_ (by assumption) ?_
   rotate_left
   ·intro w' ⟨s0, s1, s2⟩; go_simp; try with_reducible rfl
   simp only [Act.put, sA, sB, sC]
   refine tk 9 (v := ?_) rfl (by kernel_rfl) (by rfl) ?_ (by assumption) ?_
   rotate_left
   ·intro w' ⟨s0, s1, s2⟩; go_simp; try with_reducible rfl
   simp only [Act.put, sA, sB, sC]
   refine tk 10 (v := ?_) rfl (by kernel_rfl) (by rfl) ?_ (by assumption) ?_
   rotate_left
   ·intro w' ⟨s0, s1, s2⟩; go_simp; try with_reducible rfl
   simp only [Act.put, sA, sB, sC]
   refine tk 11 (v := ?_) rfl (by kernel_rfl) (by rfl) ?_ (by assumption) ?_
   rotate_left
   ·intro w' ⟨s0, s1, s2⟩; go_simp; try with_reducible rfl
   simp only [Act.put, sA, sB, sC]
   refine tk 12 (v := ?_) rfl (by kernel_rfl) (by rfl) ?_ (by assumption) ?_
   rotate_left
   ·intro w' ⟨s0, s1, s2⟩; go_simp; try with_reducible rfl
   simp only [Act.put, sA, sB, sC]
   refine tk 13 (v := ?_) rfl (by kernel_rfl) (by rfl) ?_ (by assumption) ?_
   rotate_left
   ·intro w' ⟨s0, s1, s2⟩; go_simp; try with_reducible rfl
   simp only [Act.put, sA, sB, sC]
   refine tk 14 (v := ?_) rfl (by kernel_rfl) (by rfl) ?_ (by assumption) ?_
   rotate_left
   ·intro w' ⟨s0, s1, s2⟩; go_simp; try with_reducible rfl
   simp only [Act.put, sA, sB, sC]
   refine tk 15 (v := ?_) rfl (by kernel_rfl) (by rfl) ?_ (by assumption) ?_
   rotate_left
   ·intro w' ⟨s0, s1, s2⟩; go_simp; try with_reducible rfl
   simp only [Act.put, sA, sB, sC]
   refine wpAnyH_ready (rs := [4, 16]) (by kernel_rfl) (by simp) ?_
   refine AllReadyH.cons rfl (fun K hK => ?_) (AllReadyH.cons rfl (fun K hK => ?_) AllReadyH.nil)
   ·go_simp
    refine hK.out _ _ hS0 (fun _ => ?_)
    clear hK K
    refine wpAnyH_ready (rs := [16]) (by kernel_rfl) (by simp) ?_
    refine AllReadyH.cons rfl (fun K hK => ?_) AllReadyH.nil
    go_simp
    refine hK.out _ _ ⟨(Below.refl wr.heap.size wr).drew.alloc (Nat.le_refl _) _ |>.cell (p := ⟨bk, 3, none⟩) hlr |>.trans hS0.1, (Below.refl wr.heap.size wr).drew.alloc (Nat.le_refl _) _ |>.cell (p := ⟨R2, s, none⟩) hR2l |>.trans hS0.2.1, (Below.refl wr.heap.size wr).drew.alloc (Nat.le_refl _) _ |>.cell (p := ⟨S' s, 5, none⟩) hSl |>.trans hS0.2.2⟩ (fun hS1 => ?_)
    clear hK K
    refine wpAnyH_ready (rs := [17]) (by kernel_rfl) (by simp) ?_
    refine AllReadyH.cons rfl (fun K hK => ?_) AllReadyH.nil
    refine step_append_lies _ rfl (.tmp 33) (.tmp 45) 110 rfl (bk + 1) tEnt i0 (.pointer none) 1 8 Tryz.underlying110 hi0 hz0 hz1 hz2 rfl (by decide) (.slice (some ⟨R1, 0, none⟩) c.m k1) c.m (ptL (fun i => entP E (c.I i)) c.m) (by simp [Act.eval]) (World.ownsRow.alloc (uh HOW) _) ⟨wr.heap.size, 0, none⟩ 1 1 [.pointer (some ⟨E q, 0, none⟩)] (by simp [Act.eval]) rfl (World.news_of_block (Deep.blk_alloc_new _ _)) (by simp [Value.oneCell']) (by decide) (by unfold maxLen; omega) (by omega) (by simp; omega) _ rfl ?_
    intro g3 cp3 w3 hown3 hgr3 hloc3 hlt3
    obtain ⟨hS3, x3, f3, hlt3', HN3⟩ := uh HPUSH _ g3 cp3 w3 hown3 hgr3 hloc3
    clear hown3 hgr3 hloc3
    refine hK.out _ _ hS3 (fun hS3' => ?_)
    clear hK K
    refine tk 18 (v := ?_) rfl (by kernel_rfl) (by rfl) ?_ (by assumption) ?_
    rotate_left
    ·intro w' ⟨s0, s1, s2⟩; go_simp; try with_reducible rfl
    (try simp only [Act.put]); (try simp only [List.setIfInBounds_toArray]); (try simp only [List.set_cons_succ]); try simp only [List.set_cons_zero]
    refine tk 19 (v := ?_) rfl (by kernel_rfl) (by rfl) ?_ (by assumption) ?_
    rotate_left
    ·intro w' ⟨s0, s1, s2⟩; go_simp; try with_reducible rfl
    (try simp only [Act.put]); (try simp only [List.setIfInBounds_toArray]); (try simp only [List.set_cons_succ]); try simp only [List.set_cons_zero]
    refine wpAnyH_ready (rs := [20]) (by kernel_rfl) (by simp) ?_
    refine AllReadyH.cons rfl (fun K hK => ?_) AllReadyH.nil
    go_simp
    refine hK.out _ _ ?_ (fun _ => ?_)
    ·obtain ⟨a1, a2, a3⟩ := hS3
     exact ⟨(cell_set_other (by decide)).trans a1, (cell_set_block (by omega)).trans a2, (cell_set_block (by omega)).trans a3⟩
    clear hK K
    refine wpAnyH_done (by kernel_rfl) ?_ _
    refine QN.normal ?_
    go_wp2_with fail
    refine (uh HREMV g3 cp3 w3 HN3).mono ?_
    rintro e w6 ⟨⟨uu6, rfl⟩, f6, S6, HN6, hlen6⟩
    have HNX := uy ((uh HFIND _ _ _ _ _ HN6).1)
    have HFD := uy ((uh HFIND _ _ _ _ _ HN6).2)
    have HN6' := uy HN6
    clear HN6 HN3 x3 f3 hS3 hS3'
    go_wp2_with fail
    refine wp_region_quiet (C := fun w' => Below w6.heap.size w6 w') (by kernel_rfl) (by kernel_rfl) ((Below.refl _ _).drew) ?_
    show wpQuiet _ _ _ _ [_, _, _, _, _, _, _] _
    iterate 4 (refine wpQuiet_step (fun K hK => ?_); go_simp; refine ⟨_, fun w' hw' => rfl, hK _ ?_⟩; clear hK K)
    refine wpQuiet_step (fun K hK => ?_)
    go_simp
    apply Exists.intro
    refine And.intro (fun w' hw' => ?_) (hK _ ?_)
    ·refine ((uh HNX _ hw')).mono ?_
     rintro e w'' ⟨rfl, hb⟩
     exact ⟨rfl, hw'.trans (hb.mono hw'.size)⟩
    clear hK K
    refine wpQuiet_step (fun K hK => ?_)
    go_simp
    apply Exists.intro
    refine And.intro (fun w' hw' => ?_) (hK _ ?_)
    ·refine ((uh HFD _ hw')).mono ?_
     rintro e w'' ⟨rfl, hb⟩
     exact ⟨rfl, hw'.trans (hb.mono hw'.size)⟩
    clear hK K
    refine wpQuiet_step (fun K hK => ?_)
    go_simp
    refine ⟨_, fun w' hw' => rfl, hK _ ?_⟩
    clear hK K
    refine wpQuiet_nil ?_
    intro w7 hw7
    have HN7 := uy ((uh HN6').below hw7 hlt)
    have hlen7 : lenB w7 bk 1 = c.m + 1 := by rw [← hlen6]; unfold lenB; rw [hw7.cell (p := ⟨bk, 1, none⟩) (uh HN6').bm.lt]
    clear hw7 HNX HFD HN6' hlen6
    go_wp2
    go_roundw
    case rel => exact ⟨moveS c s, f6, _, S6, rfl, uh HN7⟩
    case measure => rw [hlen7, hlenr]; omega
   ·go_simp
    refine hK.out _ _ ⟨(Below.refl wr.heap.size wr).drew.alloc (Nat.le_refl _) _ |>.cell (p := ⟨bk, 3, none⟩) hlr |>.trans hS0.1, (Below.refl wr.heap.size wr).drew.alloc (Nat.le_refl _) _ |>.cell (p := ⟨R2, s, none⟩) hR2l |>.trans hS0.2.1, (Below.refl wr.heap.size wr).drew.alloc (Nat.le_refl _) _ |>.cell (p := ⟨S' s, 5, none⟩) hSl |>.trans hS0.2.2⟩ (fun hS1 => ?_)
    clear hK K
    refine wpAnyH_ready (rs := [4]) (by kernel_rfl) (by simp) ?_
    refine AllReadyH.cons rfl (fun K hK => ?_) AllReadyH.nil
    go_simp
    refine hK.out _ _ hS1 (fun _ => ?_)
    clear hK K
    refine wpAnyH_ready (rs := [17]) (by kernel_rfl) (by simp) ?_
    refine AllReadyH.cons rfl (fun K hK => ?_) AllReadyH.nil
    refine step_append_lies _ rfl (.tmp 33) (.tmp 45) 110 rfl (bk + 1) tEnt i0 (.pointer none) 1 8 Tryz.underlying110 hi0 hz0 hz1 hz2 rfl (by decide) (.slice (some ⟨R1, 0, none⟩) c.m k1) c.m (ptL (fun i => entP E (c.I i)) c.m) (by simp [Act.eval]) (World.ownsRow.alloc (uh HOW) _) ⟨wr.heap.size, 0, none⟩ 1 1 [.pointer (some ⟨E q, 0, none⟩)] (by simp [Act.eval]) rfl (World.news_of_block (Deep.blk_alloc_new _ _)) (by simp [Value.oneCell']) (by decide) (by unfold maxLen; omega) (by omega) (by simp; omega) _ rfl ?_
    intro g3 cp3 w3 hown3 hgr3 hloc3 hlt3
    obtain ⟨hS3, x3, f3, hlt3', HN3⟩ := uh HPUSH _ g3 cp3 w3 hown3 hgr3 hloc3
    clear hown3 hgr3 hloc3
    refine hK.out _ _ hS3 (fun hS3' => ?_)
    clear hK K
    refine tk 18 (v := ?_) rfl (by kernel_rfl) (by rfl) ?_ (by assumption) ?_
    rotate_left
    ·intro w' ⟨s0, s1, s2⟩; go_simp; try with_reducible rfl
    (try simp only [Act.put]); (try simp only [List.setIfInBounds_toArray]); (try simp only [List.set_cons_succ]); try simp only [List.set_cons_zero]
    refine tk 19 (v := ?_) rfl (by kernel_rfl) (by rfl) ?_ (by assumption) ?_
    rotate_left
    ·intro w' ⟨s0, s1, s2⟩; go_simp; try with_reducible rfl
    (try simp only [Act.put]); (try simp only [List.setIfInBounds_toArray]); (try simp only [List.set_cons_succ]); try simp only [List.set_cons_zero]
    refine wpAnyH_ready (rs := [20]) (by kernel_rfl) (by simp) ?_
    refine AllReadyH.cons rfl (fun K hK => ?_) AllReadyH.nil
    go_simp
    refine hK.out _ _ ?_ (fun _ => ?_)
    ·obtain ⟨a1, a2, a3⟩ := hS3
     exact ⟨(cell_set_other (by decide)).trans a1, (cell_set_block (by omega)).trans a2, (cell_set_block (by omega)).trans a3⟩
    clear hK K
    refine wpAnyH_done (by kernel_rfl) ?_ _
    refine QN.normal ?_
    go_wp2_with fail
    refine (uh HREMV g3 cp3 w3 HN3).mono ?_
    rintro e w6 ⟨⟨uu6, rfl⟩, f6, S6, HN6, hlen6⟩
    have HNX := uy ((uh HFIND _ _ _ _ _ HN6).1)
    have HFD := uy ((uh HFIND _ _ _ _ _ HN6).2)
    have HN6' := uy HN6
    clear HN6 HN3 x3 f3 hS3 hS3'
    go_wp2_with fail
    refine wp_region_quiet (C := fun w' => Below w6.heap.size w6 w') (by kernel_rfl) (by kernel_rfl) ((Below.refl _ _).drew) ?_
    show wpQuiet _ _ _ _ [_, _, _, _, _, _, _] _
    iterate 4 (refine wpQuiet_step (fun K hK => ?_); go_simp; refine ⟨_, fun w' hw' => rfl, hK _ ?_⟩; clear hK K)
    refine wpQuiet_step (fun K hK => ?_)
    go_simp
    apply Exists.intro
    refine And.intro (fun w' hw' => ?_) (hK _ ?_)
    ·refine ((uh HNX _ hw')).mono ?_
     rintro e w'' ⟨rfl, hb⟩
     exact ⟨rfl, hw'.trans (hb.mono hw'.size)⟩
    clear hK K
    refine wpQuiet_step (fun K hK => ?_)
    go_simp
    apply Exists.intro
    refine And.intro (fun w' hw' => ?_) (hK _ ?_)
    ·refine ((uh HFD _ hw')).mono ?_
     rintro e w'' ⟨rfl, hb⟩
     exact ⟨rfl, hw'.trans (hb.mono hw'.size)⟩
    clear hK K
    refine wpQuiet_step (fun K hK => ?_)
    go_simp
    refine ⟨_, fun w' hw' => rfl, hK _ ?_⟩
    clear hK K
    refine wpQuiet_nil ?_
    intro w7 hw7
    have HN7 := uy ((uh HN6').below hw7 hlt)
    have hlen7 : lenB w7 bk 1 = c.m + 1 := by rw [← hlen6]; unfold lenB; rw [hw7.cell (p := ⟨bk, 1, none⟩) (uh HN6').bm.lt]
    clear hw7 HNX HFD HN6' hlen6
    go_wp2
    go_roundw
    case rel => exact ⟨moveS c s, f6, _, S6, rfl, uh HN7⟩
    case measure => rw [hlen7, hlenr]; omega
end
end Go.Proofs.YtglcaejddckleaaGreatDoor
