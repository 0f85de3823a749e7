import Derived.Test.YtglcaejddckleaaGreatDoorDigits
import Derived.Test.YtglcaejddckleaaGreatDoorFA
set_option linter.unusedVariables false
namespace Go.Proofs.YtglcaejddckleaaGreatDoor
section
open Go.RowKit
def mark (k : Nat) : ByteArray := ⟨(109 :: Lib.decDigits k).toArray⟩
def digs (u : Nat) : List UInt8 := if u = 0 then [] else Lib.decDigits u
end
section
open Go.RowKit
attribute [local go_sem] run_store_float run_equalIn_float
structure Bt (b : Nat) (w w' : World) : Prop where
 os : w'.os = w.os
 tape : w'.tape = w.tape
 output : w'.output = w.output
 size : w.heap.size ≤ w'.heap.size
 block : ∀ k, k < w.heap.size → k ≠ b → w'.heap[k]? = w.heap[k]?
theorem Bt.refl (b : Nat) (w : World) : Bt b w w := ⟨rfl, rfl, rfl, Nat.le_refl _, fun _ _ _ => rfl⟩
theorem Bt.trans {b : Nat} {u v w : World} (h : Bt b u v) (k : Bt b v w) : Bt b u w :=
 ⟨k.os.trans h.os, k.tape.trans h.tape, k.output.trans h.output, Nat.le_trans h.size k.size, fun i hi hn => (k.block i (Nat.lt_of_lt_of_le hi h.size) hn).trans (h.block i hi hn)⟩
theorem Bt.of {b : Nat} {w w' : World} (h : Below w.heap.size w w') : Bt b w w' := ⟨h.os, h.tape, h.output, h.size, fun k hk _ => h.block k hk⟩
theorem Bt.set (b o : Nat) (w : World) (v : Value) : Bt b w (w.setCell ⟨b, o, none⟩ v) := ⟨rfl, rfl, rfl, by simp [World.setCell], fun k _ hn => Deep.blk_setCell_other _ _ _ _ (by exact hn)⟩
theorem Bt.below {b B : Nat} {w w' : World} (h : Bt b w w') (hb : B ≤ b) (hB : B ≤ w.heap.size) : Below B w w' := ⟨h.os, h.tape, h.output, h.size, fun k hk => h.block k (by omega) (by omega)⟩
end
section
open Go.RowKit
attribute [local go_sem] run_store_float run_equalIn_float
def mkP (s i : Nat) : Pr :=
 ⟨⟨(s : Int) + 11 * i, (s : Int) + 11 * i + 1, floatOfInt .f64 ((s : Int) + 11 * i + 1 + 1), mark (s + 11 * i + 3), (s : Int) + 11 * i + 1 + 1 + 1 + 1⟩,
  ⟨(s : Int) + 11 * i + 1 + 1 + 1 + 1 + 1, (s : Int) + 11 * i + 1 + 1 + 1 + 1 + 1 + 1, floatOfInt .f64 ((s : Int) + 11 * i + 1 + 1 + 1 + 1 + 1 + 1 + 1), mark (s + 11 * i + 8), (s : Int) + 11 * i + 1 + 1 + 1 + 1 + 1 + 1 + 1 + 1 + 1⟩, (s : Int) + 11 * i + 1 + 1 + 1 + 1 + 1 + 1 + 1 + 1 + 1 + 1⟩
def pcell (f : Nat → Pr) (j : Nat) : Value := ((prL (f (j / 11)))[j % 11]?).getD undef
theorem pcell_at (f : Nat → Pr) (k i : Nat) (hi : i < 11) : pcell f (k * 11 + i) = ((prL (f k))[i]?).getD undef := by
 unfold pcell
 rw [show (k * 11 + i) / 11 = k by omega, show (k * 11 + i) % 11 = i by omega]
theorem pcells {w : World} {b N n : Nat} {g : Nat → Value} {f : Nat → Pr} (h : w.rowIs b 43 N g) (hN : n * 11 ≤ N) (hg : ∀ j, j < n * 11 → g j = pcell f j) {i : Nat} (hi : i < n) : PCell w b (i * 11) (f i) := by
 have e : ∀ j, j < 11 → w.cell? ⟨b, i * 11 + j, none⟩ = some (((prL (f i))[j]?).getD undef) := fun j hj => by
  rw [h.cell (i := i * 11 + j) (by omega), hg _ (by omega), pcell_at f i j hj]
 exact ⟨e 0 (by omega), e 1 (by omega), e 2 (by omega), e 3 (by omega), e 4 (by omega), e 5 (by omega), e 6 (by omega), e 7 (by omega), e 8 (by omega), e 9 (by omega), e 10 (by omega)⟩
end
section
open Go.RowKit
attribute [local go_sem] run_store_float run_equalIn_float
structure ToR (B : Nat) (w : World) (s0 s1 s2 : Nat) (d : Dc) : Prop where
 b0 : B ≤ s0
 b1 : B ≤ s1
 b2 : B ≤ s2
 n01 : s0 ≠ s1
 n02 : s0 ≠ s2
 n12 : s1 ≠ s2
 r0 : ∃ g, w.rowIs s0 43 (d.n * 11) g
 r1 : ∃ g, w.rowIs s1 3 d.m g
 r2 : ∃ g, w.rowIs s2 3 d.x g
theorem ToR.keep {B : Nat} {w w' : World} {s0 s1 s2 : Nat} {d : Dc} (h : ToR B w s0 s1 s2 d) (hk : ∀ q, q < w.heap.size → w'.heap[q]? = w.heap[q]?) : ToR B w' s0 s1 s2 d :=
 ⟨h.b0, h.b1, h.b2, h.n01, h.n02, h.n12, h.r0.imp fun g r => World.rowIs.of_block r (hk _ (World.rowIs.lt r)), h.r1.imp fun g r => World.rowIs.of_block r (hk _ (World.rowIs.lt r)), h.r2.imp fun g r => World.rowIs.of_block r (hk _ (World.rowIs.lt r))⟩
theorem ToR.lt {B : Nat} {w : World} {s0 s1 s2 : Nat} {d : Dc} (h : ToR B w s0 s1 s2 d) : s0 < w.heap.size ∧ s1 < w.heap.size ∧ s2 < w.heap.size := by
 obtain ⟨_, r0⟩ := h.r0
 obtain ⟨_, r1⟩ := h.r1
 obtain ⟨_, r2⟩ := h.r2
 exact ⟨World.rowIs.lt r0, World.rowIs.lt r1, World.rowIs.lt r2⟩
structure Bt3 (a b c : Nat) (w w' : World) : Prop where
 os : w'.os = w.os
 tape : w'.tape = w.tape
 output : w'.output = w.output
 size : w.heap.size ≤ w'.heap.size
 block : ∀ k, k < w.heap.size → k ≠ a → k ≠ b → k ≠ c → w'.heap[k]? = w.heap[k]?
theorem Bt3.below {a b c B : Nat} {w w' : World} (h : Bt3 a b c w w') (ha : B ≤ a) (hb : B ≤ b) (hc : B ≤ c) (hB : B ≤ w.heap.size) : Below B w w' := ⟨h.os, h.tape, h.output, h.size, fun k hk => h.block k (by omega) (by omega) (by omega) (by omega)⟩
def PrV (f : Nat → Pr) (n : Nat) (w : World) (v : Value) (lo hi : Nat) : Prop :=
 (n = 0 ∧ v = .slice none 0 0) ∨ ∃ b cp N g, v = .slice (some ⟨b, 0, none⟩) n cp ∧ lo ≤ b ∧ b < hi ∧ w.rowIs b 43 N g ∧ n * 11 ≤ N ∧ ∀ j, j < n * 11 → g j = pcell f j
theorem PrV.keep {f : Nat → Pr} {n : Nat} {w w' : World} {v : Value} {lo hi : Nat} (h : PrV f n w v lo hi) (hk : ∀ b, lo ≤ b → b < hi → w'.heap[b]? = w.heap[b]?) : PrV f n w' v lo hi := by
 rcases h with h | ⟨b, cp, N, g, h1, h2, h3, h4, h5, h6⟩
 ·exact .inl h
 ·exact .inr ⟨b, cp, N, g, h1, h2, h3, World.rowIs.of_block h4 (hk b h2 h3), h5, h6⟩
theorem PrV.below {f : Nat → Pr} {n : Nat} {w w' : World} {v : Value} {lo hi B : Nat} (h : PrV f n w v lo hi) (hb : Below B w w') (hB : hi ≤ B) : PrV f n w' v lo hi := h.keep fun b _ h2 => hb.block b (by omega)
theorem PrV.of {f : Nat → Pr} {n B : Nat} {w : World} {v : Value} (h : POwn w B v n f) : PrV f n w v B w.heap.size := by
 have hlt := h.lt
 obtain ⟨hl, ⟨hv, h0⟩ | ⟨g', cap, cur, hv, hb, hblk, h1, h2, h3, h4⟩⟩ := h
 ·exact .inl ⟨h0, hv⟩
 ·subst hv
  refine .inr ⟨g', cap, cap * 11, fun j => (cur[j]?).getD undef, rfl, hb, (hlt g' rfl).2, ⟨cur, hblk, h3, fun i hi => by simp [Array.getElem?_eq_getElem (show i < cur.size by omega)]⟩, by omega, fun j hj => ?_⟩
  have h5 := pL_get (f := f) (n := n) (i := j / 11) (j := j % 11) (by omega) (by omega)
  rw [show j / 11 * 11 + j % 11 = j by omega, ← h4, List.getElem?_take, if_pos hj, Array.getElem?_toList] at h5
  show (cur[j]?).getD undef = _
  rw [h5]
  rfl
theorem PrV.at {f : Nat → Pr} {n : Nat} {w : World} {v : Value} {lo hi : Nat} (h : PrV f n w v lo hi) : ∃ a cp, v = .slice a n cp ∧ PAt w a n f := by
 rcases h with ⟨h0, rfl⟩ | ⟨b, cp, N, g, h1, h2, h3, h4, h5, h6⟩
 ·subst h0; exact ⟨_, _, rfl, .inl rfl⟩
 ·exact ⟨_, _, h1, .inr ⟨b, 0, rfl, World.rowIs.lt h4, fun i hi => by rw [Nat.zero_add]; exact pcells h4 h5 h6 hi⟩⟩
end
section
open Go.RowKit
attribute [local go_sem] run_store_float run_equalIn_float
def InV (f : Nat → Int) (n : Nat) (w : World) (v : Value) (lo hi : Nat) : Prop :=
 (n = 0 ∧ v = .slice none 0 0) ∨ ∃ b cp N g, v = .slice (some ⟨b, 0, none⟩) n cp ∧ lo ≤ b ∧ b < hi ∧ w.rowIs b 3 N g ∧ n ≤ N ∧ ∀ j, j < n → g j = .int .i64 (f j)
theorem InV.keep {f : Nat → Int} {n : Nat} {w w' : World} {v : Value} {lo hi : Nat} (h : InV f n w v lo hi) (hk : ∀ b, v.ownBlock = some b → lo ≤ b → b < hi → w'.heap[b]? = w.heap[b]?) : InV f n w' v lo hi := by
 rcases h with h | ⟨b, cp, N, g, h1, h2, h3, h4, h5, h6⟩
 ·exact .inl h
 ·exact .inr ⟨b, cp, N, g, h1, h2, h3, World.rowIs.of_block h4 (hk b (by rw [h1]; rfl) h2 h3), h5, h6⟩
theorem InV.of {f : Nat → Int} {n B : Nat} {w : World} {v : Value} (h : IOwn w B v n f) : InV f n w v B w.heap.size := by
 have hlt := h.lt
 obtain ⟨hl, ⟨hv, h0⟩ | ⟨g', cap, cur, hv, hb, hblk, h1, h2, h3, h4⟩⟩ := h
 ·exact .inl ⟨h0, hv⟩
 ·subst hv
  refine .inr ⟨g', cap, cap, fun j => (cur[j]?).getD undef, rfl, hb, (hlt g' rfl).2, ⟨cur, hblk, by omega, fun i hi => by simp [Array.getElem?_eq_getElem (show i < cur.size by omega)]⟩, h1, fun j hj => ?_⟩
  have h5 := iL_get (f := f) (n := n) (i := j) hj
  rw [← h4, List.getElem?_take, if_pos (by omega), Array.getElem?_toList] at h5
  show (cur[j]?).getD undef = _
  rw [h5]
  rfl
theorem InV.at {f : Nat → Int} {n : Nat} {w : World} {v : Value} {lo hi : Nat} (h : InV f n w v lo hi) : ∃ a cp, v = .slice a n cp ∧ IAt w a n f := by
 rcases h with ⟨h0, rfl⟩ | ⟨b, cp, N, g, h1, h2, h3, h4, h5, h6⟩
 ·subst h0; exact ⟨_, _, rfl, .inl rfl⟩
 ·exact ⟨_, _, h1, .inr ⟨b, 0, rfl, World.rowIs.lt h4, fun i hi => by rw [Nat.zero_add, h4.cell (by omega), h6 i hi]⟩⟩
structure BtV (v : Value) (w w' : World) : Prop where
 os : w'.os = w.os
 tape : w'.tape = w.tape
 output : w'.output = w.output
 size : w.heap.size ≤ w'.heap.size
 block : ∀ k, k < w.heap.size → v.ownBlock ≠ some k → w'.heap[k]? = w.heap[k]?
end
section
open Go.RowKit
attribute [local go_sem] run_store_float run_equalIn_float
def mkD (d : Dc) : Dc := { d with L := mkP 1, I := fun j => ((1 + 11 * d.n + j : Nat) : Int), X := fun j => ((1 + 11 * d.n + d.m + j : Nat) : Int) }
structure DV (d : Dc) (w : World) (v0 v1 v2 : Value) (lo hi : Nat) : Prop where
 log : PrV d.L d.n w v0 lo hi
 ints : InV d.I d.m w v1 lo hi
 index : InV d.X d.x w v2 lo hi
 a01 : ∀ q, v0.ownBlock = some q → v1.ownBlock ≠ some q
 a02 : ∀ q, v0.ownBlock = some q → v2.ownBlock ≠ some q
 a12 : ∀ q, v1.ownBlock = some q → v2.ownBlock ≠ some q
abbrev DvV (v0 v1 v2 : Value) (d : Dc) : Value := .agg #[v0, v1, v2, .int .i64 d.used, .int .i64 d.live, .int .i64 d.turns]
theorem DV.keep {d : Dc} {w w' : World} {v0 v1 v2 : Value} {lo hi : Nat} (h : DV d w v0 v1 v2 lo hi) (hk : ∀ b, lo ≤ b → b < hi → w'.heap[b]? = w.heap[b]?) : DV d w' v0 v1 v2 lo hi :=
 ⟨h.log.keep hk, h.ints.keep (fun b _ => hk b), h.index.keep (fun b _ => hk b), h.a01, h.a02, h.a12⟩
theorem DV.below {d : Dc} {w w' : World} {v0 v1 v2 : Value} {lo hi B : Nat} (h : DV d w v0 v1 v2 lo hi) (hb : Below B w w') (hB : hi ≤ B) : DV d w' v0 v1 v2 lo hi := h.keep fun b _ h2 => hb.block b (by omega)
theorem DV.at {d : Dc} {w : World} {v0 v1 v2 : Value} {lo hi : Nat} (h : DV d w v0 v1 v2 lo hi) : ∃ la lc ia ic xa xc, v0 = .slice la d.n lc ∧ v1 = .slice ia d.m ic ∧ v2 = .slice xa d.x xc ∧ DAt w la ia xa d := by
 obtain ⟨la, lc, rfl, h0⟩ := h.log.at
 obtain ⟨ia, ic, rfl, h1⟩ := h.ints.at
 obtain ⟨xa, xc, rfl, h2⟩ := h.index.at
 exact ⟨la, lc, ia, ic, xa, xc, rfl, rfl, rfl, h0, h1, h2⟩
theorem PrV.own {f : Nat → Pr} {n : Nat} {w : World} {v : Value} {lo hi : Nat} (h : PrV f n w v lo hi) {b : Nat} (e : v.ownBlock = some b) : lo ≤ b ∧ b < hi ∧ b < w.heap.size := by
 rcases h with ⟨h0, rfl⟩ | ⟨b', cp, N, g, rfl, h2, h3, h4, h5, h6⟩
 ·cases e
 ·have e' : b' = b := by simpa [Value.ownBlock] using e
  subst e'
  exact ⟨h2, h3, World.rowIs.lt h4⟩
theorem InV.own {f : Nat → Int} {n : Nat} {w : World} {v : Value} {lo hi : Nat} (h : InV f n w v lo hi) {b : Nat} (e : v.ownBlock = some b) : lo ≤ b ∧ b < hi ∧ b < w.heap.size := by
 rcases h with ⟨h0, rfl⟩ | ⟨b', cp, N, g, rfl, h2, h3, h4, h5, h6⟩
 ·cases e
 ·have e' : b' = b := by simpa [Value.ownBlock] using e
  subst e'
  exact ⟨h2, h3, World.rowIs.lt h4⟩
theorem InV.btv {f : Nat → Int} {n : Nat} {w w' : World} {v u : Value} {lo hi : Nat} (h : InV f n w v lo hi) (hb : BtV u w w') (ha : ∀ q, v.ownBlock = some q → u.ownBlock ≠ some q) : InV f n w' v lo hi := h.keep fun b e _ _ => hb.block b (h.own e).2.2 (ha b e)
theorem PrV.btv {f : Nat → Pr} {n : Nat} {w w' : World} {v u : Value} {lo hi : Nat} (h : PrV f n w v lo hi) (hb : BtV u w w') (ha : ∀ q, v.ownBlock = some q → u.ownBlock ≠ some q) : PrV f n w' v lo hi := by
 rcases h with h | ⟨b, cp, N, g, h1, h2, h3, h4, h5, h6⟩
 ·exact .inl h
 ·exact .inr ⟨b, cp, N, g, h1, h2, h3, World.rowIs.of_block h4 (hb.block b (World.rowIs.lt h4) (ha b (by rw [h1]; rfl))), h5, h6⟩
theorem BtV.below {u : Value} {w w' : World} {B : Nat} (h : BtV u w w') (hu : ∀ q, u.ownBlock = some q → B ≤ q) (hB : B ≤ w.heap.size) : Below B w w' := ⟨h.os, h.tape, h.output, h.size, fun k hk => h.block k (by omega) (fun e => by have := hu k e; omega)⟩
end
section
open Go.RowKit
theorem keyB_of {d : Dc} {i : Nat} (h : Entry d i) (ht : (d.L i).turn ≠ 0) : keyB (d.L i).key = true := by
 rcases h with ⟨h0, _⟩ | ⟨_, _, h, _⟩
 ·exact absurd h0 ht
 ·exact h
open Classical in
noncomputable def putO (d : Dc) (c : Int) (kv v : Vl) : Dc := if dictOk d (hD d) = 0 ∧ c = 0 ∧ v.ok = true then putD hN d kv v else noD
theorem noD_dv (W : World) (lo hi : Nat) : DV noD W (.slice none 0 0) (.slice none 0 0) (.slice none 0 0) lo hi := ⟨.inl ⟨rfl, rfl⟩, .inl ⟨rfl, rfl⟩, .inl ⟨rfl, rfl⟩, (fun q e => by cases e), (fun q e => by cases e), (fun q e => by cases e)⟩
theorem noD_at (w : World) : DAt w none none none noD := ⟨.inl rfl, .inl rfl, .inl rfl⟩
theorem sound_inv {d : Dc} (h : Sound d (hD d)) (hW : WfD d) : Inv Ky hN d :=
 Sound.inv (hf := hN) (K := Ky) h keyLaw (fun i hi ht => ⟨keyB_of (h.d2.logOk.ent i hi) ht, (hW i hi).1⟩)
end
end Go.Proofs.YtglcaejddckleaaGreatDoor
