/-
  StC.
-/
import Derived.Test.YtfceeijdmilieaaGreatStBP
namespace Go.Proofs.YtfceeijdmilieaaGreat
open Go.RowKit
set_option linter.unusedVariables false
attribute [local go_sem] run_store_float run_equalIn_float

theorem PAt.of_block {w w' : World} {s n : Nat} {f : Nat → Pr} (h : PAt w (some ⟨s, 0, none⟩) n f) (e : w'.heap[s]? = w.heap[s]?) (hl : s < w'.heap.size) : PAt w' (some ⟨s, 0, none⟩) n f := by
  rcases h with h | ⟨b, off, e', hlt, hc⟩
  · exact .inl h
  · cases e'
    exact .inr ⟨s, 0, rfl, hl, fun i hi => (hc i hi).keep (fun q => World.cell?_of_block e)⟩
theorem IAt.of_block {w w' : World} {s n : Nat} {f : Nat → Int} (h : IAt w (some ⟨s, 0, none⟩) n f) (e : w'.heap[s]? = w.heap[s]?) (hl : s < w'.heap.size) : IAt w' (some ⟨s, 0, none⟩) n f := by
  rcases h with h | ⟨b, off, e', hlt, hc⟩
  · exact .inl h
  · cases e'
    exact .inr ⟨s, 0, rfl, hl, fun i hi => (World.cell?_of_block e).trans (hc i hi)⟩
theorem heap_lt {w w' : World} {b : Nat} (e : w'.heap[b]? = w.heap[b]?) (hl : b < w.heap.size) : b < w'.heap.size := by
  rcases Nat.lt_or_ge b w'.heap.size with h | h
  · exact h
  · rw [Array.getElem?_eq_none h, Array.getElem?_eq_getElem hl] at e
    cases e

/-- A table that was made: its rows lie whole, in blocks from B to H. -/
def TabMade (B H : Nat) (w : World) (b o : Nat) (t : Tb) : Prop :=
  ∃ vb s0 s1 s2, TCell w b o (some ⟨vb, 0, none⟩) t.nv (some ⟨s0, 0, none⟩) t.d.n (some ⟨s1, 0, none⟩) t.d.m (some ⟨s2, 0, none⟩) t.d.x t ∧ (B ≤ vb ∧ vb < H ∧ s0 < H ∧ s1 < H ∧ s2 < H) ∧ VRow w vb t.nv t.V ∧ DAt w (some ⟨s0, 0, none⟩) (some ⟨s1, 0, none⟩) (some ⟨s2, 0, none⟩) t.d ∧ ToR B w s0 s1 s2 t.d
theorem TabMade.keep {B H H' : Nat} {w w' : World} {b o : Nat} {t : Tb} (h : TabMade B H w b o t) (hH : H ≤ H') (hk : ∀ q, B ≤ q → q < H → q < w.heap.size → w'.heap[q]? = w.heap[q]?) (hc : ∀ j, j < 8 → w'.cell? ⟨b, o + j, none⟩ = w.cell? ⟨b, o + j, none⟩) : TabMade B H' w' b o t := by
  obtain ⟨vb, s0, s1, s2, h1, ⟨h2, h3, h4, h5, h6⟩, h7, h8, h9⟩ := h
  obtain ⟨l0, l1, l2⟩ := h9.lt
  have e0 := hk s0 h9.b0 h4 l0
  have e1 := hk s1 h9.b1 h5 l1
  have e2 := hk s2 h9.b2 h6 l2
  exact ⟨vb, s0, s1, s2, h1.keepAt hc, ⟨h2, by omega, by omega, by omega, by omega⟩, h7.of_block (hk vb h2 h3 h7.lt), ⟨h8.log.of_block e0 (heap_lt e0 l0), h8.ints.of_block e1 (heap_lt e1 l1), h8.index.of_block e2 (heap_lt e2 l2)⟩,
    ⟨h9.b0, h9.b1, h9.b2, h9.n01, h9.n02, h9.n12, h9.r0.imp fun g r => World.rowIs.of_block r e0, h9.r1.imp fun g r => World.rowIs.of_block r e1, h9.r2.imp fun g r => World.rowIs.of_block r e2⟩⟩
theorem TabMade.at {B H : Nat} {w : World} {b o : Nat} {t : Tb} (h : TabMade B H w b o t) : TbAt w b o t := by
  obtain ⟨vb, s0, s1, s2, h1, h2, h7, h8, h9⟩ := h
  exact ⟨_, _, _, _, _, _, _, _, h1, h7.at, h8⟩
/-- Tables that were made. -/
def TRow (H : Nat) (w : World) (b n : Nat) (f : Nat → Tb) : Prop := (∃ g, w.rowIs b 51 (n * 8) g) ∧ ∀ i, i < n → TabMade (b + 1) H w b (i * 8) (f i)
theorem TRow.lt {H : Nat} {w : World} {b n : Nat} {f : Nat → Tb} (h : TRow H w b n f) : b < w.heap.size := by obtain ⟨⟨g, r⟩, _⟩ := h; exact World.rowIs.lt r
theorem TRow.below {H H' : Nat} {w w' : World} {b n : Nat} {f : Nat → Tb} (h : TRow H w b n f) (hb : Below w.heap.size w w') (hH : H ≤ H') : TRow H' w' b n f :=
  ⟨h.1.imp fun g r => World.rowIs.of_block r (hb.block b h.lt), fun i hi => (h.2 i hi).keep hH (fun q _ _ hq => hb.block q hq) (fun j _ => World.cell?_of_block (hb.block b h.lt))⟩
theorem TRow.setOther {H : Nat} {w : World} {b n c q : Nat} {v : Value} {f : Nat → Tb} (h : TRow H w b n f) (hc : c < b) : TRow H (w.setCell ⟨c, q, none⟩ v) b n f :=
  ⟨h.1.imp fun g r => World.rowIs.of_block r (Deep.blk_setCell_other _ _ _ _ (by show b ≠ c; omega)), fun i hi => (h.2 i hi).keep (Nat.le_refl _) (fun q' hq _ _ => Deep.blk_setCell_other _ _ _ _ (by show q' ≠ c; omega)) (fun j _ => cell_set_block (by omega))⟩
theorem TRow.at {H : Nat} {w : World} {b n : Nat} {f : Nat → Tb} (h : TRow H w b n f) : TAt w (some ⟨b, 0, none⟩) n f := .inr ⟨b, 0, rfl, h.lt, fun i hi => by rw [Nat.zero_add]; exact (h.2 i hi).at⟩

set_option maxRecDepth 100000 in
set_option maxHeartbeats 2000000 in
theorem toTable_row (va : Option Addr) (vc : Nat) (la : Option Addr) (lc : Nat) (ia : Option Addr) (ic : Nat) (xa : Option Addr) (xc : Nat) (t : Tb) (w : World) (hV : VAt w va t.nv t.V) (hD : DAt w la ia xa t.d) (hn : t.nv ≤ 1048576) (hS : Small t.d) :
    Calls Tryz.prog 31 #[TV va vc la lc ia ic xa xc t] w fun e w' => (∃ vb s0 s1 s2, e = .returned (TV (some ⟨vb, 0, none⟩) t.nv (some ⟨s0, 0, none⟩) t.d.n (some ⟨s1, 0, none⟩) t.d.m (some ⟨s2, 0, none⟩) t.d.x t) ∧ w.heap.size ≤ vb ∧ VRow w' vb t.nv t.V ∧ DAt w' (some ⟨s0, 0, none⟩) (some ⟨s1, 0, none⟩) (some ⟨s2, 0, none⟩) t.d ∧ ToR w.heap.size w' s0 s1 s2 t.d) ∧ Below w.heap.size w w' := by
  have HV := hide hV
  have HD := hide hD
  have HS := hide hS
  clear hV hD hS
  have hb0 : Below w.heap.size w (((w.alloc (.cells #[.int .i64 t.shape, .slice va t.nv vc, .slice la t.d.n lc, .slice ia t.d.m ic, .slice xa t.d.x xc, .int .i64 t.d.used, .int .i64 t.d.live, .int .i64 t.d.turns] 75)).alloc (.cells #[.int .i64 0, .slice none 0 0, .slice none 0 0, .slice none 0 0, .slice none 0 0, .int .i64 0, .int .i64 0, .int .i64 0] 51)).alloc (.cells #[.int .i64 t.shape, .slice none 0 0, .slice none 0 0, .slice none 0 0, .slice none 0 0, .int .i64 0, .int .i64 0, .int .i64 0] 51)) := (((Below.refl _ _).alloc (Nat.le_refl _) _).alloc (by simp) _).alloc (by simp; omega) _
  have HB0 := hide hb0
  clear hb0
  go_enter Tryz.func31, Tryz.ntmps31
  go_wp2_with fail
  refine (toValueS_row va t.nv vc t.V _ ((unhide HV).below (unhide HB0) rfl) hn).mono ?_
  rintro e w1 ⟨⟨rfl, hv1⟩, hb1⟩
  obtain ⟨hc1, hf1⟩ := bcell hb1
  have hz1 := hb1.size
  simp at hz1 hv1
  have y0 : w.heap.size < w1.heap.size := by omega
  have y1 : w.heap.size + 1 < w1.heap.size := by omega
  have y2 : w.heap.size + 1 + 1 < w1.heap.size := by omega
  have HB1 := hide ((unhide HB0).trans (hb1.mono (unhide HB0).size))
  have HV1 := hide hv1
  clear hb1 hv1
  have HBs1 : Hid (∀ v, Below w.heap.size w (w1.setCell ⟨w.heap.size + 1 + 1, 1, none⟩ v)) := hide (fun v => (unhide HB1).setCell (by show w.heap.size ≤ w.heap.size + 1 + 1; omega) _)
  go_wp2_with fail
  refine (toDict_row la lc ia ic xa xc t.d _ ((unhide HD).below (unhide HBs1 _)) (unhide HS)).mono ?_
  rintro e w2 ⟨⟨s0, s1, s2, rfl, hD2, hR2⟩, hb2⟩
  obtain ⟨hc2, hf2⟩ := bcell hb2
  have hz2 := hb2.size
  simp at hz2
  have z0 : w.heap.size < w2.heap.size := by omega
  have z1 : w.heap.size + 1 < w2.heap.size := by omega
  have z2 : w.heap.size + 1 + 1 < w2.heap.size := by omega
  have hvl : w.heap.size + 1 + 1 + 1 < w1.heap.size := (unhide HV1).lt
  have hrb0 : w1.heap.size ≤ s0 := by have := hR2.b0; simpa using this
  have hrb1 : w1.heap.size ≤ s1 := by have := hR2.b1; simpa using this
  have hrb2 : w1.heap.size ≤ s2 := by have := hR2.b2; simpa using this
  have HV2 : Hid (VRow w2 (w.heap.size + 1 + 1 + 1) t.nv t.V) := hide (((unhide HV1).of_block (Deep.blk_setCell_other _ _ _ _ (by show w.heap.size + 1 + 1 + 1 ≠ w.heap.size + 1 + 1; omega))).of_block (hb2.block _ (by simpa using hvl)))
  have HB2 := hide ((unhide HBs1 _).trans (hb2.mono (unhide HBs1 _).size))
  have HD2 := hide hD2
  have HR2 := hide hR2
  clear hb2 hD2 hR2
  go_wp2
  refine bodyPost_ret (v := TV (some ⟨w.heap.size + 1 + 1 + 1, 0, none⟩) t.nv (some ⟨s0, 0, none⟩) t.d.n (some ⟨s1, 0, none⟩) t.d.m (some ⟨s2, 0, none⟩) t.d.x t) (by simp [results, Tryz.results31, go_sem, hc1, hc2, y1]) rfl ⟨⟨_, _, _, _, rfl, by omega, ?_, ⟨?_, ?_, ?_⟩, ?_⟩, ?_⟩
  · repeat (refine VRow.of_block ?_ (Deep.blk_setCell_other _ _ _ _ (by first | (show w.heap.size + 1 + 1 + 1 ≠ w.heap.size + 1; omega) | (show w.heap.size + 1 + 1 + 1 ≠ w.heap.size + 1 + 1; omega))))
    exact unhide HV2
  · repeat (refine PAt.setOther ?_ (by omega))
    exact (unhide HD2).log
  · repeat (refine IAt.setOther ?_ (by omega))
    exact (unhide HD2).ints
  · repeat (refine IAt.setOther ?_ (by omega))
    exact (unhide HD2).index
  · obtain ⟨_, _, _, n01, n02, n12, ⟨g0, r0⟩, ⟨g1, r1⟩, ⟨g2, r2⟩⟩ := unhide HR2
    refine ⟨by omega, by omega, by omega, n01, n02, n12, ⟨g0, ?_⟩, ⟨g1, ?_⟩, ⟨g2, ?_⟩⟩
    · repeat (refine row_set ?_ (by omega))
      exact r0
    · repeat (refine row_set ?_ (by omega))
      exact r1
    · repeat (refine row_set ?_ (by omega))
      exact r2
  · repeat (refine Below.setCell ?_ (by first | (show w.heap.size ≤ w.heap.size + 1; omega) | (show w.heap.size ≤ w.heap.size + 1 + 1; omega)) _)
    exact unhide HB2

set_option maxRecDepth 100000 in
set_option maxHeartbeats 4000000 in
theorem toTableS_row (a : Option Addr) (n cap : Nat) (f : Nat → Tb) (w : World) (hA : TAt w a n f) (hn : n ≤ 1048576) (hs : ∀ i, i < n → (f i).nv ≤ 1048576 ∧ Small (f i).d) :
    Calls Tryz.prog 16 #[.slice a n cap] w fun e w' => (e = .returned (.slice (some ⟨w.heap.size, 0, none⟩) n n) ∧ TRow w'.heap.size w' w.heap.size n f) ∧ Below w.heap.size w w' := by
  have hmk := make_Table n hn
  have HG := hide (made_Table w (n * 8))
  have HA := hide hA
  have HS := hide hs
  clear hA hs
  go_enter Tryz.func16, Tryz.ntmps16
  go_wp2
  clear hmk
  go_loopw [4] (fun i wr => ∃ (k : Nat), k ≤ n ∧ i = .int .i64 k ∧ Below w.heap.size w wr ∧ (∃ g, wr.rowIs w.heap.size 51 (n * 8) g) ∧ ∀ j, j < k → TabMade (w.heap.size + 1) wr.heap.size wr w.heap.size (j * 8) (f j)) (fun i _ => n - (intOf i).toNat)
  case atStart => exact ⟨0, by omega, rfl, (Below.refl _ _).alloc (Nat.le_refl _) _, unhide HG, fun j hj => by omega⟩
  case round =>
    clear HG
    obtain ⟨k, hk, rfl, hb, ⟨g, hrow⟩, hall⟩ := hrel
    by_cases hkn : k < n
    · obtain ⟨b, off, rfl, hbl, hcs⟩ := (unhide HA).resolve_left (by omega)
      obtain ⟨va, vc, la, lc, ia, ic, xa, xc, hc, hv, hd⟩ := (hcs k hkn).below hb hbl
      obtain ⟨e0, e1, e2, e3, e4, e5, e6, e7⟩ := hc
      have hrl := World.rowIs.lt hrow
      have HVD := hide (And.intro hv hd)
      have HB := hide hb
      have HR := hide hrow
      have HALL := hide hall
      clear hcs hb hrow hall hv hd
      go_wp2_with fail
      refine (toTable_row va vc la lc ia ic xa xc (f k) _ (unhide HVD).1 (unhide HVD).2 (unhide HS k hkn).1 (unhide HS k hkn).2).mono ?_
      rintro e w1 ⟨⟨vb, s0, s1, s2, rfl, hvb, hv1, hd1, hr1⟩, hb1⟩
      have hrow1 := World.rowIs.of_block (unhide HR) (hb1.block _ hrl)
      have d0 := hrow1.cell (i := k * 8) (by omega)
      have f0 := hrow1.frozen (k * 8)
      have d1 := hrow1.cell (i := k * 8 + 1) (by omega)
      have f1 := hrow1.frozen (k * 8 + 1)
      have d2 := hrow1.cell (i := k * 8 + 2) (by omega)
      have f2 := hrow1.frozen (k * 8 + 2)
      have d3 := hrow1.cell (i := k * 8 + 3) (by omega)
      have f3 := hrow1.frozen (k * 8 + 3)
      have d4 := hrow1.cell (i := k * 8 + 4) (by omega)
      have f4 := hrow1.frozen (k * 8 + 4)
      have d5 := hrow1.cell (i := k * 8 + 5) (by omega)
      have f5 := hrow1.frozen (k * 8 + 5)
      have d6 := hrow1.cell (i := k * 8 + 6) (by omega)
      have f6 := hrow1.frozen (k * 8 + 6)
      have d7 := hrow1.cell (i := k * 8 + 7) (by omega)
      have f7 := hrow1.frozen (k * 8 + 7)
      obtain ⟨hg', hpc⟩ := set8T_row (some ⟨vb, 0, none⟩) (f k).nv (some ⟨s0, 0, none⟩) (f k).d.n (some ⟨s1, 0, none⟩) (f k).d.m (some ⟨s2, 0, none⟩) (f k).d.x (f k) hrow1 (o := k * 8) (by omega)
      have hz1 := hb1.size
      have HN : Hid (∀ j, j < k → TabMade (w.heap.size + 1) w1.heap.size w1 w.heap.size (j * 8) (f j)) := hide (fun j hj => (unhide HALL j hj).keep hb1.size (fun q _ _ hq => hb1.block q hq) (fun q _ => World.cell?_of_block (hb1.block _ hrl)))
      have HG' := hide hg'
      have HPC := hide hpc
      have HVR := hide (And.intro hvb (And.intro hv1 (And.intro hd1 hr1)))
      have HB1 := hide ((unhide HB).trans (hb1.mono (unhide HB).size))
      clear hb1 hrow1 hg' hpc e0 e1 e2 e3 e4 e5 e6 e7 hv1 hd1 hr1
      go_wp2_with fail
      go_roundw
      case rel =>
        refine ⟨k + 1, by omega, by go_num, ?_, unhide HG', fun j hj => ?_⟩
        · repeat (refine Below.setCell ?_ (by exact Nat.le_refl _) _)
          exact unhide HB1
        · by_cases e : j = k
          · subst e
            obtain ⟨hvb, hv1, hd1, hr1⟩ := unhide HVR
            obtain ⟨t0, t1, t2⟩ := hr1.lt
            have q0 := hr1.b0
            have q1 := hr1.b1
            have q2 := hr1.b2
            have hvl := hv1.lt
            have ev := set8T_heap (w := w1) (b := w.heap.size) (b' := vb) (o := j * 8) (some ⟨vb, 0, none⟩) (f j).nv (some ⟨s0, 0, none⟩) (f j).d.n (some ⟨s1, 0, none⟩) (f j).d.m (some ⟨s2, 0, none⟩) (f j).d.x (f j) (by omega)
            have ee0 := set8T_heap (w := w1) (b := w.heap.size) (b' := s0) (o := j * 8) (some ⟨vb, 0, none⟩) (f j).nv (some ⟨s0, 0, none⟩) (f j).d.n (some ⟨s1, 0, none⟩) (f j).d.m (some ⟨s2, 0, none⟩) (f j).d.x (f j) (by omega)
            have ee1 := set8T_heap (w := w1) (b := w.heap.size) (b' := s1) (o := j * 8) (some ⟨vb, 0, none⟩) (f j).nv (some ⟨s0, 0, none⟩) (f j).d.n (some ⟨s1, 0, none⟩) (f j).d.m (some ⟨s2, 0, none⟩) (f j).d.x (f j) (by omega)
            have ee2 := set8T_heap (w := w1) (b := w.heap.size) (b' := s2) (o := j * 8) (some ⟨vb, 0, none⟩) (f j).nv (some ⟨s0, 0, none⟩) (f j).d.n (some ⟨s1, 0, none⟩) (f j).d.m (some ⟨s2, 0, none⟩) (f j).d.x (f j) (by omega)
            refine ⟨vb, s0, s1, s2, unhide HPC, ⟨by omega, heap_lt ev hvl, heap_lt ee0 t0, heap_lt ee1 t1, heap_lt ee2 t2⟩, hv1.of_block ev, ⟨hd1.log.of_block ee0 (heap_lt ee0 t0), hd1.ints.of_block ee1 (heap_lt ee1 t1), hd1.index.of_block ee2 (heap_lt ee2 t2)⟩, ⟨by omega, by omega, by omega, hr1.n01, hr1.n02, hr1.n12, hr1.r0.imp fun g r => World.rowIs.of_block r ee0, hr1.r1.imp fun g r => World.rowIs.of_block r ee1, hr1.r2.imp fun g r => World.rowIs.of_block r ee2⟩⟩
          · refine (unhide HN j (by omega)).keep (by simp) (fun q hq _ _ => ?_) (fun q hq => set8T_other _ _ _ _ _ _ _ _ _ (by omega))
            exact set8T_heap _ _ _ _ _ _ _ _ _ (by omega)
      case measure => simp [intOf]; omega
    · have hkn' : k = n := by omega
      subst hkn'
      have HALL := hide hall
      have HB := hide hb
      have HR := hide hrow
      clear hall hb hrow
      go_wp2_with fail
      go_ret
      exact ⟨⟨rfl, ⟨_, unhide HR⟩, unhide HALL⟩, unhide HB⟩

/-- A store that was made: its rows lie in blocks from B to H. -/
structure StMade (B H : Nat) (w : World) (m tb sb : Nat) (s : Sto) : Prop where
  bm : B ≤ m
  mt : m < tb
  ts : tb < sb
  sh : sb < H
  fo : ShRow w m s.nf s.F
  ta : TRow H w tb s.nt s.T
  tr : ∀ i, i < s.nt → TabMade (tb + 1) H w tb (i * 8) (s.T i)
  si : SRow w sb s.ns s.S
theorem StMade.below {B H : Nat} {w w' : World} {m tb sb : Nat} {s : Sto} (h : StMade B H w m tb sb s) (hb : Below w.heap.size w w') : StMade B H w' m tb sb s :=
  ⟨h.bm, h.mt, h.ts, h.sh, h.fo.below hb h.fo.lt, h.ta.below hb (Nat.le_refl _), (h.ta.below hb (Nat.le_refl _)).2, h.si.of_block (hb.block _ h.si.lt)⟩
theorem StMade.at {B H : Nat} {w : World} {m tb sb : Nat} {s : Sto} (h : StMade B H w m tb sb s) : StAt w (some ⟨m, 0, none⟩) (some ⟨tb, 0, none⟩) (some ⟨sb, 0, none⟩) s := ⟨h.fo.at, h.ta.at, h.si.at⟩

set_option maxRecDepth 100000 in
set_option maxHeartbeats 4000000 in
theorem toStore_row (fa : Option Addr) (fc : Nat) (ta : Option Addr) (tc : Nat) (sa : Option Addr) (sc : Nat) (s : Sto) (w : World) (hS : StAt w fa ta sa s) (hs : SSmall s) :
    Calls Tryz.prog 6 #[StV fa fc ta tc sa sc s] w fun e w' => (∃ m tb sb, e = .returned (StV (some ⟨m, 0, none⟩) s.nf (some ⟨tb, 0, none⟩) s.nt (some ⟨sb, 0, none⟩) s.ns s) ∧ StMade w.heap.size w'.heap.size w' m tb sb s) ∧ Below w.heap.size w w' := by
  have HS := hide hS
  have HM := hide hs
  clear hS hs
  have hb0 : Below w.heap.size w (((w.alloc (.cells #[.slice fa s.nf fc, .slice ta s.nt tc, .slice sa s.ns sc] 28)).alloc (.cells #[.slice none 0 0, .slice none 0 0, .slice none 0 0] 37)).alloc (.cells #[.slice none 0 0, .slice none 0 0, .slice none 0 0] 37)) := (((Below.refl _ _).alloc (Nat.le_refl _) _).alloc (by simp) _).alloc (by simp; omega) _
  have HB0 := hide hb0
  clear hb0
  go_enter Tryz.func6, Tryz.ntmps6
  go_wp2_with fail
  refine (toForest_any fa s.nf fc s.F _ ((unhide HS).below (unhide HB0)).fo (unhide HM).f.1).mono ?_
  rintro e w1 ⟨⟨m, rfl, hm, hf1⟩, hb1⟩
  obtain ⟨hc1, hf1'⟩ := bcell hb1
  have hz1 := hb1.size
  simp at hz1 hm
  have hml := hf1.lt
  have y0 : w.heap.size < w1.heap.size := by omega
  have y1 : w.heap.size + 1 < w1.heap.size := by omega
  have y2 : w.heap.size + 1 + 1 < w1.heap.size := by omega
  have HB1 := hide ((unhide HB0).trans (hb1.mono (unhide HB0).size))
  have HF1 := hide hf1
  clear hb1 hf1
  have HBs1 : Hid (∀ v, Below w.heap.size w (w1.setCell ⟨w.heap.size + 1 + 1, 0, none⟩ v)) := hide (fun v => (unhide HB1).setCell (by show w.heap.size ≤ w.heap.size + 1 + 1; omega) _)
  go_wp2_with fail
  refine (toTableS_row ta s.nt tc s.T _ ((unhide HS).below (unhide HBs1 _)).ta (unhide HM).nt (fun i hi => ⟨(unhide HM).nv hi, (unhide HM).dict hi⟩)).mono ?_
  rintro e w2 ⟨⟨rfl, hT2⟩, hb2⟩
  obtain ⟨hc2, hf2⟩ := bcell hb2
  have hz2 := hb2.size
  simp at hz2 hT2
  have htl := hT2.lt
  have z0 : w.heap.size < w2.heap.size := by omega
  have z1 : w.heap.size + 1 < w2.heap.size := by omega
  have z2 : w.heap.size + 1 + 1 < w2.heap.size := by omega
  have HF2 : Hid (ShRow w2 m s.nf s.F) := hide (((unhide HF1).setOther (a := ⟨w.heap.size + 1 + 1, 0, none⟩) (by show m ≠ w.heap.size + 1 + 1; omega) (.slice (some ⟨m, 0, none⟩) s.nf s.nf)).below hb2 (by simpa using hml))
  have HB2 := hide ((unhide HBs1 _).trans (hb2.mono (unhide HBs1 _).size))
  have HT2 := hide hT2
  clear hb2 hT2
  have HBs2 : Hid (∀ v, Below w.heap.size w (w2.setCell ⟨w.heap.size + 1 + 1, 1, none⟩ v)) := hide (fun v => (unhide HB2).setCell (by show w.heap.size ≤ w.heap.size + 1 + 1; omega) _)
  go_wp2_with fail
  refine (toSiteS_row sa s.ns sc s.S _ ((unhide HS).below (unhide HBs2 _)).si (unhide HM).n).mono ?_
  rintro e w3 ⟨⟨rfl, hS3⟩, hb3⟩
  obtain ⟨hc3, hf3⟩ := bcell hb3
  have hz3 := hb3.size
  simp at hz3 hS3
  have hsl := hS3.lt
  have x0 : w.heap.size < w3.heap.size := by omega
  have x1 : w.heap.size + 1 < w3.heap.size := by omega
  have x2 : w.heap.size + 1 + 1 < w3.heap.size := by omega
  have HF3 : Hid (ShRow w3 m s.nf s.F) := hide (((unhide HF2).setOther (a := ⟨w.heap.size + 1 + 1, 1, none⟩) (by show m ≠ w.heap.size + 1 + 1; omega) (.slice (some ⟨w1.heap.size, 0, none⟩) s.nt s.nt)).below hb3 (by have := (unhide HF2).lt; simpa using this))
  have HT3 : Hid (TRow w3.heap.size w3 w1.heap.size s.nt s.T) := hide (((unhide HT2).setOther (q := 1) (v := .slice (some ⟨w1.heap.size, 0, none⟩) s.nt s.nt) (show w.heap.size + 1 + 1 < w1.heap.size by omega)).below hb3 (by simpa using hz3))
  have HB3 := hide ((unhide HBs2 _).trans (hb3.mono (unhide HBs2 _).size))
  have HS3 := hide hS3
  clear hb3 hS3
  go_wp2
  have HFin : Hid (∀ W : World, (∀ b, b < w3.heap.size → b ≠ w.heap.size + 1 → b ≠ w.heap.size + 1 + 1 → W.heap[b]? = w3.heap[b]?) → W.heap.size = w3.heap.size → StMade w.heap.size W.heap.size W m w1.heap.size w2.heap.size s) := hide (fun W hk hz => by
    have hT : TRow W.heap.size W w1.heap.size s.nt s.T := by
      obtain ⟨⟨g, r⟩, h2⟩ := unhide HT3
      have e := hk w1.heap.size (World.rowIs.lt r) (by omega) (by omega)
      refine ⟨⟨g, World.rowIs.of_block r e⟩, fun i hi => (h2 i hi).keep (by omega) (fun q hq _ hq2 => hk q hq2 (by omega) (by omega)) (fun q _ => World.cell?_of_block e)⟩
    exact ⟨by omega, by omega, by omega, by omega, (unhide HF3).of_block (hk m (by omega) (by omega) (by omega)), hT, hT.2, (unhide HS3).of_block (hk _ (by omega) (by omega) (by omega))⟩)
  refine bodyPost_ret (v := StV (some ⟨m, 0, none⟩) s.nf (some ⟨w1.heap.size, 0, none⟩) s.nt (some ⟨w2.heap.size, 0, none⟩) s.ns s) (by simp [results, Tryz.results6, go_sem, hc1, hc2, hc3, y1, z1]) rfl ⟨⟨m, w1.heap.size, w2.heap.size, rfl, ?_⟩, ?_⟩
  · refine unhide HFin _ (fun b hb h1 h2 => ?_) (by simp)
    repeat rw [Deep.blk_setCell_other _ _ _ _ (by first | (show b ≠ w.heap.size + 1; omega) | (show b ≠ w.heap.size + 1 + 1; omega))]
  · repeat (refine Below.setCell ?_ (by first | (show w.heap.size ≤ w.heap.size + 1; omega) | (show w.heap.size ≤ w.heap.size + 1 + 1; omega)) _)
    exact unhide HB3
end Go.Proofs.YtfceeijdmilieaaGreat
