/-
  Shapes: the program's Fields and FieldAt.
-/
import Derived.Test.YtgiegkigfokdmabNodH
namespace Go.Proofs.Ytgiegkigfokdmab
open Go.RowKit
open Go.Maps (Keyed)
set_option linter.unusedVariables false

set_option maxRecDepth 100000 in
set_option maxHeartbeats 2000000 in
theorem fields_any (w : World) (f : Nat → Shp) (b0 n : Nat) (B N : Nat → Nat) (M : Nat → Option Nat) (h : NodesP w f b0 n B N M) (hid : ∀ i, i < n → N i = i) (h2 : Rule2 f) (h3 : Rule3 n f) (i : Nat) (hi : i < n) :
    Calls Try.prog 38 #[.pointer (some ⟨B i, 0, none⟩)] w fun e w' => (∃ m, e = .returned (.slice (some ⟨m, 0, none⟩) (nf f i) (nf f i)) ∧ w.heap.size ≤ m ∧ StRow w' m (nf f i) (fld f i)) ∧ Below w.heap.size w w' := by
  obtain ⟨hc0, hc1⟩ := count_bound (k := n) h2 (fun j h1 h2 => h3 j h1 h2) i hi
  obtain ⟨c, hc⟩ : ∃ c : Nat, (f i).count = c := ⟨(f i).count.toNat, by omega⟩
  have hnf : nf f i = c := by unfold nf; omega
  have hc12 : c ≤ 12 := by omega
  have hmk := run_make_row' (P := Try.prog) 33 9 (.string ⟨#[]⟩) 16 Try.underlying33 infoStr rfl .i64 .i64 c (by omega) (by omega)
  obtain ⟨_, _, a3, _, _⟩ := node_cells h hid hi
  rw [hc] at a3
  have hlB : ∀ j, j < n → B j < w.heap.size := fun j hj => h.lt hj
  have HL := hide hlB
  have HH := hide h
  have HI := hide hid
  have H2 := hide h2
  have H3 := hide h3
  have HN := hide hnf
  clear h hid h2 h3 hc hnf hlB hc0 hc1
  go_enter Try.func38, Try.ntmps38
  go_wp2
  clear a3 hmk
  go_loopw [4] (fun v wr => ∃ (t j : Nat) (g : Nat → Value), t ≤ c ∧ v = .pointer (some ⟨B j, 0, none⟩) ∧ j = anc f i t ∧ j < n ∧ Below w.heap.size w wr ∧ wr.rowIs w.heap.size 9 c g ∧ ∀ j, c - t ≤ j → j < c → g j = .string (fld f i j)) (fun v wr => numAt v wr)
  case atStart => exact ⟨0, i, fun _ => .string ⟨#[]⟩, by omega, rfl, rfl, hi, (Below.refl _ _).alloc (Nat.le_refl _) _, World.rowIs_made w (.string ⟨#[]⟩) c 9, fun j h1 h2 => by omega⟩
  case round =>
    obtain ⟨t, p, g, ht, rfl, hp, hpn, hb, hrow, hall⟩ := hrel
    obtain ⟨han, hac⟩ := anc_bound (unhide H2) (unhide H3) hi t (by rw [unhide HN]; exact ht)
    rw [unhide HN, ← hp] at hac
    have HP := hide hp
    clear hp han
    obtain ⟨c0, c2, c3, c4, _⟩ := node_cells ((unhide HH).below hb) (unhide HI) hpn
    have hq : ∀ j, j < n → wr.cell? ⟨B j, 0, none⟩ = some (.int .i64 j) := fun j hj => (node_cells ((unhide HH).below hb) (unhide HI) hj).1
    have hBw : B p < wr.heap.size := Nat.lt_of_lt_of_le (unhide HL p hpn) hb.size
    have hBne : B p ≠ w.heap.size := Nat.ne_of_lt (unhide HL p hpn)
    have HQ := hide hq
    clear hq
    by_cases hp0 : p = 0
    · subst hp0
      rw [show parOf f B 0 = none by unfold parOf; rw [if_pos rfl]] at c4
      have hct : c = t := by have := (unhide H2).2.2; omega
      subst hct
      have HB := hide hb
      have HR := hide hrow
      have HALL := hide hall
      clear hb hrow hall
      go_wp2
      go_ret
      refine ⟨⟨w.heap.size, by rw [unhide HN]; rfl, Nat.le_refl _, ?_⟩, unhide HB⟩
      rw [unhide HN]
      exact (unhide HR).congr fun j hj => unhide HALL j (by omega) hj
    · rw [show parOf f B p = some ⟨B (shPar f p), 0, none⟩ by unfold parOf; rw [if_neg hp0]] at c4
      have hpp : 0 < p := by omega
      have hq1 := (unhide H3 p hpp hpn).1
      have hq2 := (unhide H3 p hpp hpn).2.1
      have hct : t < c := by have := (count_pos (unhide H2) (unhide H3) hpn hpp).1; omega
      obtain ⟨r, hr⟩ : ∃ r : Nat, r + 1 = c - t := ⟨c - t - 1, by omega⟩
      have er : (f p).count = (r : Int) + 1 := by omega
      rw [er] at c3
      have hrc : r < c := by omega
      have d0 := hrow.cell hrc
      have d1 := hrow.frozen r
      have hrl := hrow.lt
      have HF : Hid (fld f i r = (f p).key) := hide (by unfold fld; rw [unhide HN, show c - 1 - r = t by omega, ← unhide HP])
      have hnx : anc f i (t + 1) = shPar f p := by show (f (anc f i t)).parent.toNat = _; rw [← unhide HP]
      have hsp : shPar f p < p := by unfold shPar; omega
      have HNX := hide hnx
      have HB := hide hb
      have HR := hide hrow
      have HALL := hide hall
      have HE := hide er
      clear hb hrow hall er hac hq1 hq2 hnx
      go_wp2
      go_region
      go_wp2
      go_roundw
      case rel =>
        refine ⟨t + 1, shPar f p, _, by omega, rfl, (unhide HNX).symm, by omega, ((unhide HB).setCell (by exact Nat.le_refl _) _).drew, ((unhide HR).set r _).drew, fun j h1 h2 => ?_⟩
        by_cases e : j = r
        · subst e; simp [unhide HF]
        · simp only [e, if_false]; exact unhide HALL j (by omega) h2
      case measure =>
        have hs : shPar f p < n := by omega
        have hne : B (shPar f p) ≠ w.heap.size := Nat.ne_of_lt (unhide HL _ hs)
        rw [numAt_eq c0, numAt_eq (n := shPar f p)]
        · exact hsp
        · exact (World.cell?_of_block (Deep.blk_setCell_other _ _ _ _ hne)).trans (unhide HQ _ hs)

set_option maxRecDepth 100000 in
set_option maxHeartbeats 1000000 in
theorem implFields_any (b n cap : Nat) (i : Int) (f : Nat → Shp) (w : World) (hA : ShRow w b n f) (hn : n ≤ 1048576) :
    Calls Try.prog 14 #[.agg #[.slice (some ⟨b, 0, none⟩) n cap], .int .i64 i] w fun e w' => ((e = .returned (.slice none 0 0) ∧ ¬ Good n f i) ∨ (∃ m, Good n f i ∧ e = .returned (.slice (some ⟨m, 0, none⟩) (nf f i.toNat) (nf f i.toNat)) ∧ w.heap.size ≤ m ∧ StRow w' m (nf f i.toNat) (fld f i.toNat))) ∧ Below w.heap.size w w' := by
  have hl := hA.lt
  have HA := hide hA
  clear hA
  have hb0 : Below w.heap.size w (w.alloc (.cells #[.slice (some ⟨b, 0, none⟩) n cap] 29)) := (Below.refl _ _).alloc (Nat.le_refl _) _
  go_enter Try.func14, Try.ntmps14
  go_wp2_with fail
  refine (nodeOf_any b n cap f i _ ((unhide HA).below hb0 hl) hn).mono ?_
  rintro e w1 ⟨hJ, hb1⟩
  have HB1 := hide (hb0.trans (hb1.mono hb0.size))
  clear hb1 hb0
  rcases hJ with ⟨rfl, hg⟩ | ⟨k, B, N, M, rfl, hk, rfl, hr, hN, hid⟩
  · have HG := hide hg
    clear hg
    go_wp2
    go_ret
    exact ⟨.inl ⟨rfl, unhide HG⟩, unhide HB1⟩
  · have HN := hide hN
    have HI := hide hid
    have HR := hide hr
    clear hN hid hr
    go_wp2_with fail
    refine (fields_any _ f _ n B N M (unhide HN) (unhide HI) (forestOk_zero (unhide HR)).2.1 (forestOk_zero (unhide HR)).2.2.1 k hk).mono ?_
    rintro e w2 ⟨⟨m, rfl, hm, hrow⟩, hb2⟩
    have HB2 := hide ((unhide HB1).trans (hb2.mono (unhide HB1).size))
    have HW := hide hrow
    have hm' : w.heap.size ≤ m := Nat.le_trans (unhide HB1).size hm
    clear hb2 hrow
    go_wp2
    go_ret
    exact ⟨.inr ⟨m, ⟨unhide HR, by omega, by omega⟩, rfl, hm', unhide HW⟩, unhide HB2⟩

set_option maxRecDepth 100000 in
set_option maxHeartbeats 1000000 in
theorem implFieldAt_any (b n cap : Nat) (i : Int) (key : ByteArray) (f : Nat → Shp) (w : World) (hA : ShRow w b n f) (hn : n ≤ 1048576) :
    Calls Try.prog 20 #[.agg #[.slice (some ⟨b, 0, none⟩) n cap], .int .i64 i, .string key] w fun e w' => ((e = .returned (.int .i64 (-1)) ∧ ¬ Good n f i) ∨ (Good n f i ∧ e = .returned (.int .i64 (plcI f i.toNat key)))) ∧ Below w.heap.size w w' := by
  have hl := hA.lt
  have HA := hide hA
  clear hA
  have hb0 : Below w.heap.size w (w.alloc (.cells #[.slice (some ⟨b, 0, none⟩) n cap] 29)) := (Below.refl _ _).alloc (Nat.le_refl _) _
  go_enter Try.func20, Try.ntmps20
  go_wp2_with fail
  refine (nodeOf_any b n cap f i _ ((unhide HA).below hb0 hl) hn).mono ?_
  rintro e w1 ⟨hJ, hb1⟩
  have HB1 := hide (hb0.trans (hb1.mono hb0.size))
  clear hb1 hb0
  rcases hJ with ⟨rfl, hg⟩ | ⟨k, B, N, M, rfl, hk, rfl, hr, hN, hid⟩
  · have HG := hide hg
    clear hg
    go_wp2
    go_ret
    exact ⟨.inl ⟨rfl, unhide HG⟩, unhide HB1⟩
  · have HN := hide hN
    have HI := hide hid
    have HR := hide hr
    clear hN hid hr
    go_wp2_with fail
    refine (placeOf_any _ f _ n B N M (unhide HN) (unhide HI) (forestOk_zero (unhide HR)).2.1 (forestOk_zero (unhide HR)).2.2.1 k hk key).mono ?_
    rintro e w2 ⟨⟨rfl, _⟩, rfl⟩
    go_wp2
    go_ret
    exact ⟨.inr ⟨⟨unhide HR, by omega, by omega⟩, rfl⟩, unhide HB1⟩
end Go.Proofs.Ytgiegkigfokdmab
