/-
  StL.
-/
import Derived.Test.YtfceeijdmilieaaGreatDoorStKP
import Derived.Test.YtfceeijdmilieaaGreatDoorBq15
import Derived.Deep.RegionLaw
namespace Go.Proofs.YtfceeijdmilieaaGreatDoor
open Go.RowKit
set_option linter.unusedVariables false
attribute [local go_sem] run_store_float run_equalIn_float

set_option maxHeartbeats 400000 in
theorem l1strP (s : ByteArray) (w : World) :
    Calls Tryz.prog 72 #[.string s] w fun e w' => e = .returned (V 4 0 0 s 0) ∧ Below w.heap.size w w' := by
  go_enter Tryz.func72, Tryz.ntmps72
  go_wp2
  exact bodyPost_ret (v := V 4 0 0 s 0) (by simp [results, Tryz.results72, go_sem]) rfl ⟨rfl, (Below.refl _ _).alloc (Nat.le_refl _) _⟩
set_option maxHeartbeats 400000 in
theorem textValueP (s : ByteArray) (w : World) :
    Calls Tryz.prog 176 #[.string s] w fun e w' => e = .returned (V 4 0 0 s 0) ∧ Below w.heap.size w w' := by
  go_enter Tryz.func176, Tryz.ntmps176
  go_wp2
  exact bodyPost_ret (v := V 4 0 0 s 0) (by simp [results, Tryz.results176, go_sem]) rfl ⟨rfl, (Below.refl _ _).alloc (Nat.le_refl _) _⟩

/-- The pairs of a table with shape j. -/
def tabF (s : Sto) (j : Nat) (t : Tb) (i : Nat) : Pr := ⟨⟨4, 0, 0, fld s.F j i, 0⟩, t.V i, (i : Int) + 1⟩

set_option maxRecDepth 100000 in
set_option maxHeartbeats 8000000 in
theorem shapedPairs_any (s : Sto) (b0 g : Nat) (B N : Nat → Nat) (M : Nat → Option Nat) (A : Ad) (t : Tb) (j : Nat) (w : World) (hN : Nd w s b0 g B N M) (h0 : forestOk s.nf s.F = 0) (hj : j < s.nf) (hV : VAt w A.va t.nv t.V) (hnv : t.nv = nf s.F j) :
    Calls Tryz.prog 119 #[ShdA (B j) A t] w fun e w' => (∃ v, e = .returned v ∧ POwn w' w.heap.size v (nf s.F j) (tabF s j t)) ∧ Below w.heap.size w w' := by
  obtain ⟨h1, h2, h3, h4, h5⟩ := forestOk_zero h0
  have hn12 : nf s.F j ≤ 12 := by have := (count_bound (k := s.nf) h2 (fun q h1 h2 => h3 q h1 h2) j hj).2; unfold nf; omega
  obtain ⟨i0, hi, hz0, hzs, hzb⟩ := info_parts infoPair
  obtain ⟨W, hW⟩ : ∃ W, W = w.alloc (.cells #[.slice A.va t.nv A.vc, .slice A.la t.d.n A.lc, .slice A.ia t.d.m A.ic, .slice A.xa t.d.x A.xc, .int .i64 t.d.used, .int .i64 t.d.live, .int .i64 t.d.turns, .pointer (some ⟨B j, 0, none⟩)] 199) := ⟨_, rfl⟩
  have hbW : Below w.heap.size w W := by rw [hW]; exact (Below.refl _ _).alloc (Nat.le_refl _) _
  have lw : w.heap.size < W.heap.size := by rw [hW]; simp
  have x0 : W.cell? ⟨w.heap.size, 0, none⟩ = some (.slice A.va t.nv A.vc) := by rw [hW]; simp [go_sem]
  have x7 : W.cell? ⟨w.heap.size, 7, none⟩ = some (.pointer (some ⟨B j, 0, none⟩)) := by rw [hW]; simp [go_sem]
  have HNW := hide (hN.below hbW)
  have HVW := hide (hV.below hbW rfl)
  have HBW := hide hbW
  have H2 := hide h2
  have H3 := hide h3
  have HNV := hide hnv
  clear hbW hV hN h0 h1 h2 h3 h4 h5 hnv
  obtain ⟨n, hn⟩ : ∃ n, n = nf s.F j := ⟨_, rfl⟩
  rw [← hn] at hn12 HNV ⊢
  have HNN := hide hn
  go_enter Tryz.func119, Tryz.ntmps119
  go_wp2_with fail
  rw [← hW]
  clear hW
  refine (fields_any _ s.F b0 s.nf B N M (unhide HNW).ns (unhide HNW).id (unhide H2) (unhide H3) j hj).mono ?_
  rintro e w1 ⟨⟨m, rfl, hm, hrow⟩, hb1⟩
  rw [← hn] at hrow ⊢
  clear hn
  have y0 := (hb1.cell (p := ⟨w.heap.size, 0, none⟩) lw).trans x0
  have lw1 : w.heap.size < w1.heap.size := Nat.lt_of_lt_of_le lw hb1.size
  have lm1 := World.rowIs.lt hrow
  have HV1 := hide ((unhide HVW).below hb1 rfl)
  have HB1 := hide ((unhide HBW).trans (hb1.mono (unhide HBW).size))
  have HR1 := hide hrow
  clear hb1 x0 x7 hrow HVW HNW
  go_wp2
  go_loopw [3, 10] (fun v i wr => ∃ (k : Nat), k ≤ n ∧ i = .int .i64 k ∧ POwn wr w1.heap.size v k (tabF s j t) ∧ Below w1.heap.size w1 wr) (fun _ i _ => n - (intOf i).toNat)
  case atStart => exact ⟨0, by omega, rfl, World.ownsRow_nil _ _ _ _, Below.refl _ _⟩
  case round =>
    obtain ⟨k, hk, rfl, ho, hb⟩ := hrel
    by_cases hkn : k < n
    case neg =>
      have hke : k = n := by omega
      have HB2 := hide ((unhide HB1).trans (hb.mono (unhide HB1).size))
      have HO := hide ho
      clear hb ho hkn
      subst hke
      go_wp2
      go_ret
      exact ⟨⟨_, rfl, own_mono (unhide HO) (unhide HB1).size⟩, unhide HB2⟩
    obtain ⟨b, off, hva, hbl, hcs⟩ := (unhide HV1).resolve_left (by have := unhide HNV; omega)
    have hkv : k < t.nv := by have := unhide HNV; omega
    obtain ⟨e0, e1, e2, e3, e4⟩ := (hcs k hkv).keep (fun q => hb.cell (p := ⟨b, q, none⟩) hbl)
    have p0 : wr.cell? ⟨w.heap.size, 0, none⟩ = some (.slice (some ⟨b, off, none⟩) t.nv A.vc) := by rw [← hva]; exact (hb.cell (p := ⟨w.heap.size, 0, none⟩) lw1).trans y0
    have q0 : wr.cell? ⟨m, k, none⟩ = some (.string (fld s.F j k)) := (hb.cell (p := ⟨m, k, none⟩) lm1).trans (World.rowIs.cell (unhide HR1) hkn)
    have hbz := hb.size
    have lwr : w.heap.size < wr.heap.size := by omega
    have lbr : b < wr.heap.size := by omega
    have HB2 := hide hb
    have HOW : Hid (POwn wr.drew w1.heap.size u3 k (tabF s j t)) := hide ho.drew
    have hltv := hide ho.lt
    clear hb ho hcs hva
    go_wp2_with fail
    have hwk : IntKind.i64.wrap ((k : Int) + 1) = (k : Int) + 1 := by rw [IntKind.wrap_i64]; omega
    go_region_law (first
      | (go_simp; go_at_call 176; refine (textValueP (fld s.F j k) _).mono ?_; rintro e w2 ⟨rfl, hb2⟩; have hz2 : wr.heap.size ≤ w2.heap.size := hb2.size; have p02 := (hb2.cell (p := ⟨w.heap.size, 0, none⟩) lwr).trans p0; have e02 := (hb2.cell (p := ⟨b, off + k * 5, none⟩) lbr).trans e0; have e12 := (hb2.cell (p := ⟨b, off + k * 5 + 1, none⟩) lbr).trans e1; have e22 := (hb2.cell (p := ⟨b, off + k * 5 + 2, none⟩) lbr).trans e2; have e32 := (hb2.cell (p := ⟨b, off + k * 5 + 3, none⟩) lbr).trans e3; have e42 := (hb2.cell (p := ⟨b, off + k * 5 + 4, none⟩) lbr).trans e4; have l2 : w.heap.size < w2.heap.size := (by omega); have lb2 : b < w2.heap.size := (by omega); have HO2 := hide (own_belowK (unhide HOW) hb2); have HB3 := hide ((unhide HB2).trans (show Below w1.heap.size wr w2 from ⟨hb2.os, hb2.tape, hb2.output, hb2.size, fun k hk => hb2.block k (by show k < wr.heap.size; omega)⟩)); clear hb2)
      | (refine step_append_lies _ rfl (.tmp 15) (.tmp 27) 55 rfl w1.heap.size 127 i0 PZ 11 104 Tryz.underlying55 hi hz0 hzs hzb rfl (by decide) u3 k (pL (tabF s j t) k) (by simp [Act.eval]) ((unhide HO2).alloc _) ⟨w2.heap.size, 0, none⟩ 1 1 (prL (tabF s j t k)) (by simp [Act.eval]) rfl (World.news_of_block (Deep.blk_alloc_new _ _)) (prL_one _) (by decide) (by unfold maxLen; omega) (by omega) (by simp; omega) _ rfl ?_; intro g3 cp3 w3 hown3 hgr3 hloc3 hlt3; have HB4 := hide (((unhide HB3).alloc (by omega) _).trans (grown_below hgr3 (fun q e => (unhide hltv q e).1) (by simp; omega))); have HO3 := hide hown3; clear hown3 hgr3))
    all_goals
      clear e0 e1 e2 e3 e4 p0 q0 e02 e12 e22 e32 e42 p02
      go_wp2
      go_roundw
      case rel => exact ⟨k + 1, by omega, by go_num, unhide HO3, unhide HB4⟩
      case measure => simp [intOf]; omega

set_option maxRecDepth 100000 in
set_option maxHeartbeats 8000000 in
theorem l3pairs_at (c m fc : Nat) (ta : Option Addr) (tc : Nat) (s : Sto) (A : Nat → Ad) (i j : Nat) (w : World) (hc0 : w.cell? ⟨c, 0, none⟩ = some (.slice (some ⟨m, 0, none⟩) s.nf fc)) (hc1 : w.cell? ⟨c, 1, none⟩ = some (.slice ta s.nt tc)) (hcl : c < w.heap.size) (hF : ShRow w m s.nf s.F) (hT : TAtA w ta s.nt s.T A) (h0 : forestOk s.nf s.F = 0) (hi : i < s.nt) (hnt : s.nt ≤ 1048576) (hsh : (s.T i).shape = j) (hj : j < s.nf) (hnv : (s.T i).nv = nf s.F j) :
    Calls Tryz.prog 53 #[.pointer (some ⟨c, 0, none⟩), .int .i64 (i : Int)] w fun e w' => (∃ v, e = .returned v ∧ POwn w' w.heap.size v (nf s.F j) (tabF s j (s.T i))) ∧ Below w.heap.size w w' := by
  obtain ⟨h1, h2, h3, h4, h5⟩ := forestOk_zero h0
  have hn12 : nf s.F j ≤ 12 := by have := (count_bound (k := s.nf) h2 (fun q h1 h2 => h3 q h1 h2) j hj).2; unfold nf; omega
  obtain ⟨b1, off1, rfl, hbl1, hcs⟩ := hT.resolve_left (by omega)
  obtain ⟨a0, a1, a2, a3, a4, a5, a6, a7⟩ := (hcs i hi).1
  have hV := (hcs i hi).2.1
  rw [hsh] at a0
  have hml := hF.lt
  obtain ⟨t, ht⟩ : ∃ t, t = s.T i := ⟨_, rfl⟩
  obtain ⟨D, hD⟩ : ∃ D, D = A i := ⟨_, rfl⟩
  rw [← ht] at a1 a2 a3 a4 a5 a6 a7 hV hnv ⊢
  rw [← hD] at a1 a2 a3 a4 hV
  obtain ⟨i0, hi0, hz0, hzs, hzb⟩ := info_parts infoPair
  obtain ⟨W, hW⟩ : ∃ W, W = w.alloc (.cells #[.int .i64 (j : Int), .slice D.va t.nv D.vc, .slice D.la t.d.n D.lc, .slice D.ia t.d.m D.ic, .slice D.xa t.d.x D.xc, .int .i64 t.d.used, .int .i64 t.d.live, .int .i64 t.d.turns] 93) := ⟨_, rfl⟩
  have hbW : Below w.heap.size w W := by rw [hW]; exact (Below.refl _ _).alloc (Nat.le_refl _) _
  have lw : w.heap.size < W.heap.size := by rw [hW]; simp
  have x0 : W.cell? ⟨w.heap.size, 0, none⟩ = some (.int .i64 (j : Int)) := by rw [hW]; simp [go_sem]
  have x1 : W.cell? ⟨w.heap.size, 1, none⟩ = some (.slice D.va t.nv D.vc) := by rw [hW]; simp [go_sem]
  have z0 := (hbW.cell (p := ⟨c, 0, none⟩) hcl).trans hc0
  have lc : c < W.heap.size := by omega
  have lm : m < W.heap.size := by omega
  have HFW := hide (hF.below hbW hml)
  have HVW := hide (hV.below hbW rfl)
  have HBW := hide hbW
  have H1 := hide h1
  have H2 := hide h2
  have H3 := hide h3
  have HNV := hide hnv
  clear hbW hV h0 h1 h2 h3 h4 h5 hnv hF hcs ht hD hsh hT
  obtain ⟨n, hn⟩ : ∃ n, n = nf s.F j := ⟨_, rfl⟩
  rw [← hn] at hn12 HNV ⊢
  have HNN := hide hn
  go_enter Tryz.func53, Tryz.ntmps53
  go_wp2_with fail
  rw [← hW]
  clear hW a0 a1 a2 a3 a4 a5 a6 a7 hc0 hc1
  go_region_law (go_simp; go_at_call 115; refine (l2fields_any m s.nf fc j s.F _ ((unhide HFW).below (Below.refl _ _).drew lm) (unhide H1) (unhide H2) (unhide H3) hj).mono ?_; rintro e w1 ⟨⟨m', rfl, hm, hrow⟩, hb1⟩; rw [← hn] at hrow; have y1 := (hb1.cell (p := ⟨w.heap.size, 1, none⟩) lw).trans x1; have lw1 : w.heap.size < w1.heap.size := Nat.lt_of_lt_of_le lw hb1.size; have lm1 := World.rowIs.lt hrow; have HV1 := hide (((unhide HVW).below (Below.refl _ _).drew rfl).below hb1 rfl); have HB1 := hide ((unhide HBW).trans (show Below w.heap.size W w1 from ⟨hb1.os, hb1.tape, hb1.output, hb1.size, fun k hk => hb1.block k (by show k < W.heap.size; omega)⟩)); have HR1 := hide hrow; clear hb1 hrow)
  all_goals
  clear hn x0 x1 z0
  go_wp2
  simp only [Act.put, List.getElem_toArray, List.getElem_cons_succ, List.getElem_cons_zero, List.setIfInBounds_toArray, List.set_cons_succ, List.set_cons_zero]
  rw [← unhide HNN]
  go_loopw [6, 30] (fun v i wr => ∃ (k : Nat), k ≤ n ∧ i = .int .i64 k ∧ POwn wr w1.heap.size v k (tabF s j t) ∧ Below w1.heap.size w1 wr) (fun _ i _ => n - (intOf i).toNat)
  case atStart => exact ⟨0, by omega, rfl, World.ownsRow_nil _ _ _ _, Below.refl _ _⟩
  case round =>
    obtain ⟨k, hk, rfl, ho, hb⟩ := hrel
    by_cases hkn : k < n
    case neg =>
      have hke : k = n := by omega
      have HB2 := hide ((unhide HB1).trans (hb.mono (unhide HB1).size))
      have HO := hide ho
      clear hb ho hkn
      subst hke
      go_wp2
      go_ret
      exact ⟨⟨_, rfl, own_mono (unhide HO) (unhide HB1).size⟩, unhide HB2⟩
    obtain ⟨b, off, hva, hbl, hcs⟩ := (unhide HV1).resolve_left (by have := unhide HNV; omega)
    have hkv : k < t.nv := by have := unhide HNV; omega
    obtain ⟨e0, e1, e2, e3, e4⟩ := (hcs k hkv).keep (fun q => hb.cell (p := ⟨b, q, none⟩) hbl)
    have p0 : wr.cell? ⟨w.heap.size, 1, none⟩ = some (.slice (some ⟨b, off, none⟩) t.nv D.vc) := by rw [← hva]; exact (hb.cell (p := ⟨w.heap.size, 1, none⟩) lw1).trans y1
    have q0 : wr.cell? ⟨m', k, none⟩ = some (.string (fld s.F j k)) := (hb.cell (p := ⟨m', k, none⟩) lm1).trans (World.rowIs.cell (unhide HR1) hkn)
    have hbz := hb.size
    have lwr : w.heap.size < wr.heap.size := by omega
    have lbr : b < wr.heap.size := by omega
    have HB2 := hide hb
    have HOW : Hid (POwn wr.drew w1.heap.size u6 k (tabF s j t)) := hide ho.drew
    have hltv := hide ho.lt
    clear hb ho hcs hva
    go_wp2_with fail
    have hwk : IntKind.i64.wrap ((k : Int) + 1) = (k : Int) + 1 := by rw [IntKind.wrap_i64]; omega
    go_region_law (first
      | (go_simp; go_at_call 72; refine (l1strP (fld s.F j k) _).mono ?_; rintro e w2 ⟨rfl, hb2⟩; have hz2 : wr.heap.size ≤ w2.heap.size := hb2.size; have p02 := (hb2.cell (p := ⟨w.heap.size, 1, none⟩) lwr).trans p0; have e02 := (hb2.cell (p := ⟨b, off + k * 5, none⟩) lbr).trans e0; have e12 := (hb2.cell (p := ⟨b, off + k * 5 + 1, none⟩) lbr).trans e1; have e22 := (hb2.cell (p := ⟨b, off + k * 5 + 2, none⟩) lbr).trans e2; have e32 := (hb2.cell (p := ⟨b, off + k * 5 + 3, none⟩) lbr).trans e3; have e42 := (hb2.cell (p := ⟨b, off + k * 5 + 4, none⟩) lbr).trans e4; have l2 : w.heap.size < w2.heap.size := (by omega); have lb2 : b < w2.heap.size := (by omega); have HO2 := hide (own_belowK (unhide HOW) hb2); have HB3 := hide ((unhide HB2).trans (show Below w1.heap.size wr w2 from ⟨hb2.os, hb2.tape, hb2.output, hb2.size, fun k hk => hb2.block k (by show k < wr.heap.size; omega)⟩)); clear hb2)
      | (refine step_append_lies _ rfl (.tmp 35) (.tmp 46) 55 rfl w1.heap.size 127 i0 PZ 11 104 Tryz.underlying55 hi0 hz0 hzs hzb rfl (by decide) u6 k (pL (tabF s j t) k) (by simp [Act.eval]) ((unhide HO2).alloc _) ⟨w2.heap.size, 0, none⟩ 1 1 (prL (tabF s j t k)) (by simp [Act.eval]) rfl (World.news_of_block (Deep.blk_alloc_new _ _)) (prL_one _) (by decide) (by unfold maxLen; omega) (by omega) (by simp; omega) _ rfl ?_; intro g3 cp3 w3 hown3 hgr3 hloc3 hlt3; have HB4 := hide (((unhide HB3).alloc (by omega) _).trans (grown_below hgr3 (fun q e => (unhide hltv q e).1) (by simp; omega))); have HO3 := hide hown3; clear hown3 hgr3))
    all_goals
      clear e0 e1 e2 e3 e4 p0 q0 e02 e12 e22 e32 e42 p02
      go_wp2
      go_roundw
      case rel => exact ⟨k + 1, by omega, by go_num, unhide HO3, unhide HB4⟩
      case measure => simp [intOf]; omega
end Go.Proofs.YtfceeijdmilieaaGreatDoor
