import Derived.Test.YtglcaejddckleaaGreatDoorFA
import Derived.Test.YtglcaejddckleaaGreatDoorFD
import Derived.Test.YtglcaejddckleaaGreatDoorFI
set_option linter.unusedVariables false
namespace Go.Proofs.YtglcaejddckleaaGreatDoor
section
open Go.RowKit Go.Shelf
attribute [local go_sem] run_store_float run_equalIn_float
theorem DMut.gr {w w' : World} {c o B b : Nat} {v0 v1 v2 : Value} {d : Dc} (h : DMut w c o B v0 v1 v2 d) (hg : Gr b w w') (hc : b ≠ c) (hB : b < B) : DMut w' c o B v0 v1 v2 d := by
 have e : ∀ q, w'.cell? ⟨c, q, none⟩ = w.cell? ⟨c, q, none⟩ := fun q => hg.cell c q (Ne.symm hc) h.lt
 have r : ∀ q, B ≤ q → q < w.heap.size → w'.heap[q]? = w.heap[q]? := fun q h1 h2 => hg.block q (by omega) h2
 exact ⟨Nat.lt_of_lt_of_le h.lt hg.size, (e _).trans h.c0, (e _).trans h.c1, (e _).trans h.c2, (e _).trans h.c3, (e _).trans h.c4, (e _).trans h.c5, fun q => (hg.frozen c q (Ne.symm hc) h.lt).trans (h.fz q), own_block h.log hg.size r, own_block h.ints hg.size r, own_block h.index hg.size r, h.ap, h.nc, Nat.le_trans h.base hg.size⟩
theorem nz_zero {a b c : Int} {s : ByteArray} : Nz ⟨a, b, 0, s, c⟩ := by show (0 : Nat) ≠ 9223372036854775808; decide
theorem ky_int (n : Int) : Ky ⟨2, n, 0, ⟨#[]⟩, 0⟩ := ⟨by unfold keyB Vl.ok validB; simp [fz_nil], ⟨by show (0 : Nat) < _; decide, Nat.zero_le _⟩⟩
theorem ok_int (n : Int) : (⟨2, n, 0, ⟨#[]⟩, 0⟩ : Vl).ok = true := by unfold Vl.ok validB; simp [fz_nil]
theorem ok_nil : (⟨0, 0, 0, ⟨#[]⟩, 0⟩ : Vl).ok = true := by unfold Vl.ok validB; simp [fz_nil]
theorem wf_int (n : Int) : Wf ⟨2, n, 0, ⟨#[]⟩, 0⟩ := ⟨by show (0 : Nat) < _; decide, Nat.zero_le _⟩
theorem wf_cat {a b : ByteArray} (ha : a.size ≤ 4000) (hb : b.size ≤ 4000) : Wf ⟨4, 0, 0, a ++ b, 0⟩ := ⟨by show (0 : Nat) < _; decide, by show (a ++ b).size ≤ _; rw [ByteArray.size_append]; unfold maxLen; omega⟩
def HeldKd (x : Nat) (k : Vl) (W : World) : Prop := W.cell? ⟨x, 1, none⟩ = some (.int .i64 k.kind) ∧ W.cell? ⟨x, 2, none⟩ = some (.int .i64 k.num) ∧ W.cell? ⟨x, 3, none⟩ = some (.float .f64 k.flt) ∧ W.cell? ⟨x, 4, none⟩ = some (.string k.str) ∧ W.cell? ⟨x, 5, none⟩ = some (.int .i64 k.ref)
theorem HeldKd.of {x : Nat} {k : Vl} {W W' : World} (h : HeldKd x k W) (e : ∀ q, W'.cell? ⟨x, q, none⟩ = W.cell? ⟨x, q, none⟩) : HeldKd x k W' :=
 ⟨(e _).trans h.1, (e _).trans h.2.1, (e _).trans h.2.2.1, (e _).trans h.2.2.2.1, (e _).trans h.2.2.2.2⟩
structure Dn (w : World) (c : Nat) (v0 v1 v2 : Value) (d : Dc) : Prop where
 mu : DMut w c 0 (c + 1) v0 v1 v2 d
 inv : Inv Ky hN d
 wf : WfD d
 nz : LogQ NzP d
theorem Dn.gr {w w' : World} {c b : Nat} {v0 v1 v2 : Value} {d : Dc} (h : Dn w c v0 v1 v2 d) (hg : Gr b w w') (hc : b < c) : Dn w' c v0 v1 v2 d := ⟨h.mu.gr hg (by omega) (by omega), h.inv, h.wf, h.nz⟩
theorem Dn.below {w w' : World} {c : Nat} {v0 v1 v2 : Value} {d : Dc} (h : Dn w c v0 v1 v2 d) (hg : Below w.heap.size w w') : Dn w' c v0 v1 v2 d := ⟨h.mu.below hg, h.inv, h.wf, h.nz⟩
theorem Dn.put {w : World} {c : Nat} {v0 v1 v2 : Value} {d : Dc} (h : Dn w c v0 v1 v2 d) (hm : d.m ≤ 4000000) {k v : Vl} (hk : Ky k) (hv : v.ok = true) (hvw : Wf v) (hkz : Nz k) :
  Calls Tryz.prog 66 #[.pointer (some ⟨c, 0, none⟩), V k.kind k.num k.flt k.str k.ref, V v.kind v.num v.flt v.str v.ref] w fun e w' => ((∃ u, e = .returned u) ∧ ∃ u0 u1 u2, Dn w' c u0 u1 u2 (putD hN d k v) ∧ (putD hN d k v).m ≤ d.m + 4002 ∧ (putD hN d k v).turns ≤ d.turns + 1) ∧ Below c w w' ∧ ∀ x, c < x → x < w.heap.size → ¬ Own3 v0 v1 v2 x → w'.heap[x]? = w.heap[x]? := by
 refine (l1put_any hN Ky keyLaw c 0 (c + 1) v0 v1 v2 d k v w h.mu (h.inv.small (by omega)) h.inv hsS_all hk hk.1 hv hm).mono ?_
 rintro e w' ⟨hu, u0, u1, u2, hM, hs⟩
 exact ⟨⟨hu, u0, u1, u2, ⟨hM, putD_inv keyLaw h.inv hk hk.1 hv, h.wf.put hk.2 hvw, NzP.put h.nz hkz⟩, putD_m keyLaw h.inv hk, (put_turns keyLaw h.inv hk hk.1 hv).2⟩, hs.below (Nat.le_refl _) (Nat.le_of_lt h.mu.lt) (fun b e => by have := (h.mu.own3 e).1; omega), fun x h1 h2 h3 => hs.block x h2 (by omega) h3⟩
set_option maxRecDepth 100000 in
set_option maxHeartbeats 8000000 in
theorem drawnDict_any (b N : Nat) (w : World) (h : Cu b N w) (hB : N ≤ 1099511000000) :
  Calls Tryz.prog 44 #[.pointer (some ⟨b, 0, none⟩)] w fun e w' => (∃ v0 v1 v2 d, e = .returned (.pointer (some ⟨w.heap.size, 0, none⟩)) ∧ Dn w' w.heap.size v0 v1 v2 d ∧ d.m ≤ 2400000 ∧ d.turns ≤ 600) ∧ Cu b (N + 4000) w' ∧ Gr b w w' := by
 have hbl := h.lt
 have hb0 : Below w.heap.size w (w.alloc (.cells #[.slice none 0 0, .slice none 0 0, .slice none 0 0, .int .i64 0, .int .i64 0, .int .i64 0] 26)) := (Below.refl _ _).alloc (Nat.le_refl _) _
 have hD0 : Dn (w.alloc (.cells #[.slice none 0 0, .slice none 0 0, .slice none 0 0, .int .i64 0, .int .i64 0, .int .i64 0] 26)) w.heap.size (.slice none 0 0) (.slice none 0 0) (.slice none 0 0) noD :=
  ⟨⟨by simp, by simp [go_sem], by simp [go_sem], by simp [go_sem], by simp [go_sem, noD], by simp [go_sem, noD], by simp [go_sem, noD], fun q => by simp [go_sem], ⟨rfl, .inl ⟨rfl, rfl⟩⟩, ⟨rfl, .inl ⟨rfl, rfl⟩⟩, ⟨rfl, .inl ⟨rfl, rfl⟩⟩, fun q e => (by cases e), fun e => (by rcases e with e | e | e <;> cases e), by simp⟩, noD_inv, WfD.noD, NzP.noD⟩
 have HC := uy (h.below hb0 hbl)
 have HG := uy (Gr.of_below (b := b) hb0)
 have HD := uy hD0
 clear h hb0 hD0
 go_enter Tryz.func44, Tryz.ntmps44
 go_wp2_with fail
 refine (pick_any b N 6 _ (uh HC) (by omega) (by omega) (by omega)).mono ?_
 rintro e w1 ⟨⟨mo, rfl, hmo0, hmo1⟩, hc1, hs1⟩
 have HC1 := uy hc1
 have HG1 := uy ((uh HG).trans hs1.gr)
 have HD1 := uy ((uh HD).gr hs1.gr hbl)
 clear hc1 hs1 HC HG HD
 go_wp2_with fail
 refine (pick_any b (N + 2) 60 _ (uh HC1) (by omega) (by omega) (by omega)).mono ?_
 rintro e w2 ⟨⟨n0, rfl, hn0, hn1⟩, hc2, hs2⟩
 have HC2 := uy hc2
 have HG2 := uy ((uh HG1).trans hs2.gr)
 have HD2 := uy ((uh HD1).gr hs2.gr hbl)
 clear hc2 hs2 HC1 HG1 HD1
 obtain ⟨m0, hm0⟩ : ∃ m0 : Nat, n0 = m0 := ⟨n0.toNat, by omega⟩
 subst hm0
 go_wp2_with fail
 go_loopw [5] (fun v wr => ∃ (left k : Nat) (v0 v1 v2 : Value) (d : Dc), v = .int .i64 left ∧ left + k ≤ 60 ∧ Dn wr w.heap.size v0 v1 v2 d ∧ d.m ≤ 4002 * k ∧ d.turns ≤ (k : Int) ∧ Cu b (N + 4 + 24 * k) wr ∧ Gr b w wr) (fun v _ => (intOf v).toNat)
 case atStart => exact ⟨m0, 0, _, _, _, noD, rfl, by omega, uh HD2, Nat.zero_le _, Int.le_refl _, uh HC2, uh HG2⟩
 case round =>
  obtain ⟨left, k, v0, v1, v2, d, rfl, hlk, hD, hm, htn, hC, hG⟩ := hrel
  have hsz : w.heap.size < wr.heap.size := hD.mu.lt
  have hbr := hC.lt
  have HD := uy hD
  have HC := uy hC
  have HG := uy hG
  clear hD hC hG HD2 HC2 HG2
  by_cases hl0 : left = 0
  ·subst hl0
   go_wp2_with fail
   refine (pick_any b (N + 4 + 24 * k) 30 _ (uh HC) (by omega) (by omega) (by omega)).mono ?_
   rintro e w3 ⟨⟨y, rfl, hy0, hy1⟩, hc3, hs3⟩
   have HC3 := uy hc3
   have HG3 := uy ((uh HG).trans hs3.gr)
   have HD3 := uy ((uh HD).gr hs3.gr hbl)
   clear hc3 hs3 HC HG HD
   by_cases hy : y = 0
   ·subst hy
    go_wp2_with fail
    go_loopw [8] (fun v wz => ∃ (j : Nat) (v0 v1 v2 : Value) (d : Dc), v = .int .i64 j ∧ j ≤ 501 ∧ Dn wz w.heap.size v0 v1 v2 d ∧ d.m ≤ 4002 * (60 + j) ∧ d.turns ≤ (60 + j : Int) ∧ Cu b (N + 2000) wz ∧ Gr b w wz) (fun v _ => (501 - intOf v).toNat)
    case atStart => exact ⟨0, v0, v1, v2, d, rfl, by omega, uh HD3, by omega, by omega, (uh HC3).mono (by omega), uh HG3⟩
    case round =>
     clear HC3 HG3 HD3
     obtain ⟨j, s0, s1, s2, d', rfl, hj, hD, hm', htn', hC, hG⟩ := hrel
     have hsz' := hD.mu.lt
     have HD := uy hD
     have HC := uy hC
     have HG := uy hG
     clear hD hC hG
     by_cases hj1 : j = 501
     ·subst hj1
      go_wp2
      refine bodyPost_ret (v := .pointer (some ⟨w.heap.size, 0, none⟩)) (by simp [results, Tryz.results44, go_sem]) rfl ?_
      exact ⟨⟨s0, s1, s2, d', rfl, uh HD, by omega, by omega⟩, (uh HC).mono (by omega), uh HG⟩
     have hj2 : (j : Int) < 501 := by omega
     go_wp2_with fail
     refine (l1int_any (j * 3) _).mono ?_
     rintro e w4 ⟨rfl, hb4⟩
     have HD4 := uy ((uh HD).below hb4)
     have HC4 := uy ((uh HC).below hb4 (uh HC).lt)
     have HG4 := uy ((uh HG).trans (Gr.of_below hb4))
     clear hb4 HD HC HG
     go_wp2_with fail
     refine (l1int_any 1 _).mono ?_
     rintro e w5 ⟨rfl, hb5⟩
     have HD5 := uy ((uh HD4).below hb5)
     have HC5 := uy ((uh HC4).below hb5 (uh HC4).lt)
     have HG5 := uy ((uh HG4).trans (Gr.of_below hb5))
     clear hb5 HD4 HC4 HG4
     go_wp2_with fail
     refine ((uh HD5).put (k := ⟨2, j * 3, 0, ⟨#[]⟩, 0⟩) (v := ⟨2, 1, 0, ⟨#[]⟩, 0⟩) (by omega) (ky_int _) (ok_int _) (wf_int _) nz_zero).mono ?_
     rintro e w6 ⟨⟨⟨u, rfl⟩, u0, u1, u2, hD6, hm6, ht6⟩, hb6, -⟩
     have HC6 := uy ((uh HC5).below hb6 hbl)
     have HG6 := uy ((uh HG5).then_below hb6 (Nat.le_refl _))
     have HD6 := uy hD6
     clear hb6 hD6 HD5 HC5 HG5
     go_wp2
     go_roundw
     case rel => exact ⟨j + 1, u0, u1, u2, _, rfl, by omega, uh HD6, by omega, by omega, uh HC6, uh HG6⟩
     case measure => simp [intOf]; omega
   have hyd : (y == 0) = false := by simp [hy]
   go_wp2
   refine bodyPost_ret (v := .pointer (some ⟨w.heap.size, 0, none⟩)) (by simp [results, Tryz.results44, go_sem]) rfl ?_
   exact ⟨⟨v0, v1, v2, d, rfl, uh HD3, by omega, by omega⟩, (uh HC3).mono (by omega), uh HG3⟩
  have hl1 : (0 : Int) < left := by omega
  go_wp2_with fail
  refine (key_any b (N + 4 + 24 * k) _ (uh HC) (by omega)).mono ?_
  rintro e w1 ⟨⟨k0, k1, k2, k3, k4, rfl, hks, hkf⟩, hc1, hg1⟩
  have hz1 := hg1.size
  have hb1 := hc1.lt
  have HC1 := uy hc1
  have HR1 := uy hg1
  clear hc1 hg1 HC
  have hba : Below w1.heap.size w1 (w1.alloc (.cells #[.int .i64 k0, .int .i64 k1, .float .f64 k2, .string k3, .int .i64 k4] 30)) := (Below.refl w1.heap.size w1).alloc (Nat.le_refl _) _
  by_cases hmode : mo = 0
  ·subst hmode
   go_wp2_with fail
   refine (pick_any b (N + 4 + 24 * k + 10) 40 _ ((uh HC1).below hba hb1) (by omega) (by omega) (by omega)).mono ?_
   rintro e w2 ⟨⟨x, rfl, hx0, hx1⟩, hc2, hs2⟩
   have HC2 := uy hc2
   have HR2 := uy (((uh HR1).then_below hba hz1).trans hs2.gr)
   have hz2 : w1.heap.size < w2.heap.size := by rw [hs2.size]; simp
   have rc2 : ∀ o, w2.cell? ⟨w1.heap.size, o, none⟩ = (w1.alloc (.cells #[.int .i64 k0, .int .i64 k1, .float .f64 k2, .string k3, .int .i64 k4] 30)).cell? ⟨w1.heap.size, o, none⟩ := fun o => hs2.cell _ _ (by omega)
   have rf2 : ∀ o, w2.frozen? ⟨w1.heap.size, o, none⟩ = (w1.alloc (.cells #[.int .i64 k0, .int .i64 k1, .float .f64 k2, .string k3, .int .i64 k4] 30)).frozen? ⟨w1.heap.size, o, none⟩ := fun o => hs2.frozen _ _ (by omega)
   clear hc2 hs2 hba HC1 HR1
   go_wp2_with fail
   refine (l1int_any (1 + x) _).mono ?_
   rintro e w3 ⟨rfl, hb3⟩
   have HC3 := uy ((uh HC2).below hb3 (uh HC2).lt)
   have HR3 := uy ((uh HR2).trans (Gr.of_below hb3))
   have hz3 : w1.heap.size ≤ w3.heap.size := Nat.le_trans (Nat.le_of_lt hz2) hb3.size
   have rc : ∀ o, w3.cell? ⟨w1.heap.size, o, none⟩ = (w1.alloc (.cells #[.int .i64 k0, .int .i64 k1, .float .f64 k2, .string k3, .int .i64 k4] 30)).cell? ⟨w1.heap.size, o, none⟩ := fun o => (hb3.cell (p := ⟨w1.heap.size, o, none⟩) hz2).trans (rc2 o)
   have rf : ∀ o, w3.frozen? ⟨w1.heap.size, o, none⟩ = (w1.alloc (.cells #[.int .i64 k0, .int .i64 k1, .float .f64 k2, .string k3, .int .i64 k4] 30)).frozen? ⟨w1.heap.size, o, none⟩ := fun o => (hb3.frozen (p := ⟨w1.heap.size, o, none⟩) hz2).trans (rf2 o)
   clear hb3 rc2 rf2 HC2 HR2
   go_wp2_with fail
   obtain ⟨cd, kv, hkv, hky⟩ := keyedK ⟨2, 1 + x, 0, ⟨#[]⟩, 0⟩ (wf_int _)
   refine (skey_any (2) (1 + x) (0) (⟨#[]⟩) (0) _).mono ?_
   rintro e w4 ⟨rfl, hb4⟩
   have hNz : Nz kv := keyV_nz hkv nz_zero
   have hkv : keyV (2) (1 + x) (0) (⟨#[]⟩) (0) = KV cd kv.kind kv.num kv.flt kv.str kv.ref := hkv
   rw [hkv]
   have hbq := below_set5 (Below.refl w1.heap.size w3) w1.heap.size (Nat.le_refl _) (.int .i64 2) (.int .i64 (1 + x)) (.float .f64 0) (.string ⟨#[]⟩) (.int .i64 0)
   have hb5 := hbq.trans (hb4.mono (Nat.le_trans hz3 hbq.size))
   have hz4 : w1.heap.size ≤ w4.heap.size := Nat.le_trans hz3 hb5.size
   have HC4 := uy ((uh HC3).below hb5 hb1)
   have HR4 := uy ((uh HR3).then_below hb5 hz1)
   clear hb5 hb4 hbq hkv
   by_cases hc0 : cd = 0
   case neg =>
    have hc' : (cd != 0) = true := by simp [hc0]
    go_wp2
    go_roundw
    case rel =>
     have hR := (uh HR4).then_below ((Below.refl w4.heap.size w4).alloc (Nat.le_refl _) (.cells #[.int .i64 cd, .int .i64 kv.kind, .int .i64 kv.num, .float .f64 kv.flt, .string kv.str, .int .i64 kv.ref] 34)) (Nat.le_trans hz1 hz4)
     exact ⟨left - 1, k + 1, v0, v1, v2, d, by congr 1; omega, by omega, (uh HD).gr hR hbl, by omega, by omega, ((uh HC4).mono (by omega)).below ((Below.refl w4.heap.size w4).alloc (Nat.le_refl _) _) (uh HC4).lt, (uh HG).trans hR⟩
    case measure => simp [intOf]; omega
   subst hc0
   have hKy := hky rfl
   clear hky
   have hba : Below w4.heap.size w4 (w4.alloc (.cells #[.int .i64 0, .int .i64 kv.kind, .int .i64 kv.num, .float .f64 kv.flt, .string kv.str, .int .i64 kv.ref] 34)) := (Below.refl w4.heap.size w4).alloc (Nat.le_refl _) _
   have HCA := uy ((uh HC4).below hba (uh HC4).lt)
   have HRA := uy ((uh HR4).then_below hba (Nat.le_trans hz1 hz4))
   have hxb : b < w4.heap.size := (uh HC4).lt
   clear hba
   go_wp2_with fail
   refine (pick_any b (N + 4 + 24 * k + 12) 3 _ (uh HCA) (by omega) (by omega) (by omega)).mono ?_
   rintro e w5 ⟨⟨y, rfl, hy0, hy1⟩, hc5, hs5⟩
   have hz5 : w4.heap.size < w5.heap.size := by rw [hs5.size]; simp
   have hX5 : HeldKd w4.heap.size kv w5 := HeldKd.of (W := w4.alloc (.cells #[.int .i64 0, .int .i64 kv.kind, .int .i64 kv.num, .float .f64 kv.flt, .string kv.str, .int .i64 kv.ref] 34)) ⟨by simp [go_sem], by simp [go_sem], by simp [go_sem], by simp [go_sem], by simp [go_sem]⟩ (fun q => hs5.cell _ _ (by omega))
   have HC5 := uy hc5
   have HR5 := uy ((uh HRA).trans hs5.gr)
   clear hc5 hs5 HCA HRA HC4 HR4
   have hxo : ¬ Own3 v0 v1 v2 w4.heap.size := fun e => by have := ((uh HD).mu.own3 e).2; omega
   by_cases hy : 0 < y
   ·have hyd : decide (0 < y) = true := by simpa using hy
    have hS0 : HeldKd w4.heap.size kv w5.drew := hX5
    have HI : Hid (∀ n : Int, Calls Tryz.prog 59 #[.int .i64 n] w5.drew fun e w' => e = .returned (V 2 n 0 ⟨#[]⟩ 0) ∧ HeldKd w4.heap.size kv w' ∧ Below w5.heap.size w5 w') := uy (fun n => (l1int_any n w5.drew).mono (by
     rintro e w' ⟨h1, h2⟩
     exact ⟨h1, hX5.of (fun q => h2.cell (p := ⟨w4.heap.size, q, none⟩) hz5), Below.trans (Below.refl _ _).drew h2⟩))
    clear hX5
    go_wp2_with fail
    refine wpN_held (HeldKd w4.heap.size kv) (by kernel_rfl) ?_
    change wpAnyH _ _ _ _ _ _ _ _ (World.drew _)
    refine tk 0 (v := ?_) rfl (by kernel_rfl) (by rfl) ?_ (by assumption) ?_
    rotate_left
    ·intro w' ⟨s0, s1, s2, s3, s4⟩; go_simp; try with_reducible rfl
    simp only [Act.put, sA, sB, sC]
    refine tk 1 (v := ?_) rfl (by kernel_rfl) (by rfl) ?_ (by assumption) ?_
    rotate_left
    ·intro w' ⟨s0, s1, s2, s3, s4⟩; go_simp; try with_reducible rfl
    simp only [Act.put, sA, sB, sC]
    refine tk 2 (v := ?_) rfl (by kernel_rfl) (by rfl) ?_ (by assumption) ?_
    rotate_left
    ·intro w' ⟨s0, s1, s2, s3, s4⟩; go_simp; try with_reducible rfl
    simp only [Act.put, sA, sB, sC]
    refine tk 3 (v := ?_) rfl (by kernel_rfl) (by rfl) ?_ (by assumption) ?_
    rotate_left
    ·intro w' ⟨s0, s1, s2, s3, s4⟩; go_simp; try with_reducible rfl
    simp only [Act.put, sA, sB, sC]
    refine wpAnyH_ready (rs := [4]) (by kernel_rfl) (by simp) ?_
    refine AllReadyH.cons rfl (fun K hK => ?_) AllReadyH.nil
    go_simp
    refine (uh HI _).mono ?_
    rintro e w6 ⟨rfl, hS6, hb6⟩
    refine hK.out _ _ hS6 (fun _ => ?_)
    clear hK K hS0 HI
    have hR6 := (uh HR5).then_below hb6 (by omega)
    have hz6 := hb6.size
    refine wpAnyH_ready (rs := [5]) (by kernel_rfl) (by simp) ?_
    refine AllReadyH.cons rfl (fun K hK => ?_) AllReadyH.nil
    go_simp
    refine (((uh HD).gr hR6 hbl).put (k := kv) (v := ⟨2, left, 0, ⟨#[]⟩, 0⟩) (by omega) hKy (ok_int _) (wf_int _) hNz).mono ?_
    rintro e w7 ⟨⟨⟨u, rfl⟩, u0, u1, u2, hD7, hm7, ht7⟩, hb7, ho7⟩
    have hS7 : HeldKd w4.heap.size kv w7 := hS6.of (fun q => World.cell?_of_block (ho7 w4.heap.size (by omega) (by omega) hxo))
    have HD7 := uy hD7
    have HC7 := uy (((uh HC5).below hb6 (uh HC5).lt).below hb7 hbl)
    have HG7 := uy (((uh HG).trans hR6).then_below hb7 (Nat.le_refl _))
    refine hK.out _ _ hS7 (fun _ => ?_)
    clear hK K hS7 hD7 hb7 ho7 hR6 hS6 hb6
    refine wpAnyH_done (by kernel_rfl) ?_ _
    refine QN.normal ?_
    go_wp2
    go_roundw
    case rel => exact ⟨left - 1, k + 1, u0, u1, u2, _, by congr 1; omega, by omega, uh HD7, by omega, by omega, (uh HC7).mono (by omega), uh HG7⟩
    case measure => simp [intOf]; omega
   ·have hyd : decide (0 < y) = false := by simpa using hy
    have e1 := hX5.1
    have e2 := hX5.2.1
    have e3 := hX5.2.2.1
    have e4 := hX5.2.2.2.1
    have e5 := hX5.2.2.2.2
    go_wp2_with fail
    refine (((uh HD).gr (uh HR5) hbl).put (k := kv) (v := ⟨0, 0, 0, ⟨#[]⟩, 0⟩) (by omega) hKy ok_nil ⟨by decide, by decide⟩ hNz).mono ?_
    rintro e w7 ⟨⟨⟨u, rfl⟩, u0, u1, u2, hD7, hm7, ht7⟩, hb7, ho7⟩
    have HD7 := uy hD7
    have HC7 := uy ((uh HC5).below hb7 hbl)
    have HG7 := uy (((uh HG).trans (uh HR5)).then_below hb7 (Nat.le_refl _))
    clear hD7 hb7 ho7 e1 e2 e3 e4 e5 hX5
    go_wp2
    go_roundw
    case rel => exact ⟨left - 1, k + 1, u0, u1, u2, _, by congr 1; omega, by omega, uh HD7, by omega, by omega, (uh HC7).mono (by omega), uh HG7⟩
    case measure => simp [intOf]; omega
  by_cases hmode1 : mo = 1
  ·subst hmode1
   go_wp2_with fail
   refine (word_any b (N + 4 + 24 * k + 10) _ ((uh HC1).below hba hb1) (by omega)).mono ?_
   rintro e wa ⟨⟨sa, rfl, hsa⟩, hca, hga⟩
   have HCa := uy hca
   have HRa := uy (((uh HR1).then_below hba hz1).trans hga)
   have hza : w1.heap.size < wa.heap.size := Nat.lt_of_lt_of_le (by simp) hga.size
   have rca : ∀ o, wa.cell? ⟨w1.heap.size, o, none⟩ = (w1.alloc (.cells #[.int .i64 k0, .int .i64 k1, .float .f64 k2, .string k3, .int .i64 k4] 30)).cell? ⟨w1.heap.size, o, none⟩ := fun o => hga.cell _ _ (by omega) (by simp)
   have rfa : ∀ o, wa.frozen? ⟨w1.heap.size, o, none⟩ = (w1.alloc (.cells #[.int .i64 k0, .int .i64 k1, .float .f64 k2, .string k3, .int .i64 k4] 30)).frozen? ⟨w1.heap.size, o, none⟩ := fun o => hga.frozen _ _ (by omega) (by simp)
   clear hca hga hba HC1 HR1
   go_wp2_with fail
   refine (word_any b (N + 4 + 24 * k + 14) _ (uh HCa) (by omega)).mono ?_
   rintro e w2 ⟨⟨sb, rfl, hsb⟩, hc2, hg2⟩
   have HC2 := uy hc2
   have HR2 := uy ((uh HRa).trans hg2)
   have hz2 : w1.heap.size < w2.heap.size := Nat.lt_of_lt_of_le hza hg2.size
   have rc2 : ∀ o, w2.cell? ⟨w1.heap.size, o, none⟩ = (w1.alloc (.cells #[.int .i64 k0, .int .i64 k1, .float .f64 k2, .string k3, .int .i64 k4] 30)).cell? ⟨w1.heap.size, o, none⟩ := fun o => (hg2.cell _ _ (by omega) hza).trans (rca o)
   have rf2 : ∀ o, w2.frozen? ⟨w1.heap.size, o, none⟩ = (w1.alloc (.cells #[.int .i64 k0, .int .i64 k1, .float .f64 k2, .string k3, .int .i64 k4] 30)).frozen? ⟨w1.heap.size, o, none⟩ := fun o => (hg2.frozen _ _ (by omega) hza).trans (rfa o)
   clear hc2 hg2 rca rfa HCa HRa
   go_wp2_with fail
   refine (l1str_any (sa ++ sb) _).mono ?_
   rintro e w3 ⟨rfl, hb3⟩
   have HC3 := uy ((uh HC2).below hb3 (uh HC2).lt)
   have HR3 := uy ((uh HR2).trans (Gr.of_below hb3))
   have hz3 : w1.heap.size ≤ w3.heap.size := Nat.le_trans (Nat.le_of_lt hz2) hb3.size
   have rc : ∀ o, w3.cell? ⟨w1.heap.size, o, none⟩ = (w1.alloc (.cells #[.int .i64 k0, .int .i64 k1, .float .f64 k2, .string k3, .int .i64 k4] 30)).cell? ⟨w1.heap.size, o, none⟩ := fun o => (hb3.cell (p := ⟨w1.heap.size, o, none⟩) hz2).trans (rc2 o)
   have rf : ∀ o, w3.frozen? ⟨w1.heap.size, o, none⟩ = (w1.alloc (.cells #[.int .i64 k0, .int .i64 k1, .float .f64 k2, .string k3, .int .i64 k4] 30)).frozen? ⟨w1.heap.size, o, none⟩ := fun o => (hb3.frozen (p := ⟨w1.heap.size, o, none⟩) hz2).trans (rf2 o)
   clear hb3 rc2 rf2 HC2 HR2
   go_wp2_with fail
   obtain ⟨cd, kv, hkv, hky⟩ := keyedK ⟨4, 0, 0, sa ++ sb, 0⟩ (wf_cat hsa hsb)
   refine (skey_any (4) (0) (0) (sa ++ sb) (0) _).mono ?_
   rintro e w4 ⟨rfl, hb4⟩
   have hNz : Nz kv := keyV_nz hkv nz_zero
   have hkv : keyV (4) (0) (0) (sa ++ sb) (0) = KV cd kv.kind kv.num kv.flt kv.str kv.ref := hkv
   rw [hkv]
   have hbq := below_set5 (Below.refl w1.heap.size w3) w1.heap.size (Nat.le_refl _) (.int .i64 4) (.int .i64 0) (.float .f64 0) (.string (sa ++ sb)) (.int .i64 0)
   have hb5 := hbq.trans (hb4.mono (Nat.le_trans hz3 hbq.size))
   have hz4 : w1.heap.size ≤ w4.heap.size := Nat.le_trans hz3 hb5.size
   have HC4 := uy ((uh HC3).below hb5 hb1)
   have HR4 := uy ((uh HR3).then_below hb5 hz1)
   clear hb5 hb4 hbq hkv
   by_cases hc0 : cd = 0
   case neg =>
    have hc' : (cd != 0) = true := by simp [hc0]
    go_wp2
    go_roundw
    case rel =>
     have hR := (uh HR4).then_below ((Below.refl w4.heap.size w4).alloc (Nat.le_refl _) (.cells #[.int .i64 cd, .int .i64 kv.kind, .int .i64 kv.num, .float .f64 kv.flt, .string kv.str, .int .i64 kv.ref] 34)) (Nat.le_trans hz1 hz4)
     exact ⟨left - 1, k + 1, v0, v1, v2, d, by congr 1; omega, by omega, (uh HD).gr hR hbl, by omega, by omega, ((uh HC4).mono (by omega)).below ((Below.refl w4.heap.size w4).alloc (Nat.le_refl _) _) (uh HC4).lt, (uh HG).trans hR⟩
    case measure => simp [intOf]; omega
   subst hc0
   have hKy := hky rfl
   clear hky
   have hba : Below w4.heap.size w4 (w4.alloc (.cells #[.int .i64 0, .int .i64 kv.kind, .int .i64 kv.num, .float .f64 kv.flt, .string kv.str, .int .i64 kv.ref] 34)) := (Below.refl w4.heap.size w4).alloc (Nat.le_refl _) _
   have HCA := uy ((uh HC4).below hba (uh HC4).lt)
   have HRA := uy ((uh HR4).then_below hba (Nat.le_trans hz1 hz4))
   have hxb : b < w4.heap.size := (uh HC4).lt
   clear hba
   go_wp2_with fail
   refine (pick_any b (N + 4 + 24 * k + 18) 3 _ (uh HCA) (by omega) (by omega) (by omega)).mono ?_
   rintro e w5 ⟨⟨y, rfl, hy0, hy1⟩, hc5, hs5⟩
   have hz5 : w4.heap.size < w5.heap.size := by rw [hs5.size]; simp
   have hX5 : HeldKd w4.heap.size kv w5 := HeldKd.of (W := w4.alloc (.cells #[.int .i64 0, .int .i64 kv.kind, .int .i64 kv.num, .float .f64 kv.flt, .string kv.str, .int .i64 kv.ref] 34)) ⟨by simp [go_sem], by simp [go_sem], by simp [go_sem], by simp [go_sem], by simp [go_sem]⟩ (fun q => hs5.cell _ _ (by omega))
   have HC5 := uy hc5
   have HR5 := uy ((uh HRA).trans hs5.gr)
   clear hc5 hs5 HCA HRA HC4 HR4
   have hxo : ¬ Own3 v0 v1 v2 w4.heap.size := fun e => by have := ((uh HD).mu.own3 e).2; omega
   by_cases hy : 0 < y
   ·have hyd : decide (0 < y) = true := by simpa using hy
    have hS0 : HeldKd w4.heap.size kv w5.drew := hX5
    have HI : Hid (∀ n : Int, Calls Tryz.prog 59 #[.int .i64 n] w5.drew fun e w' => e = .returned (V 2 n 0 ⟨#[]⟩ 0) ∧ HeldKd w4.heap.size kv w' ∧ Below w5.heap.size w5 w') := uy (fun n => (l1int_any n w5.drew).mono (by
     rintro e w' ⟨h1, h2⟩
     exact ⟨h1, hX5.of (fun q => h2.cell (p := ⟨w4.heap.size, q, none⟩) hz5), Below.trans (Below.refl _ _).drew h2⟩))
    clear hX5
    go_wp2_with fail
    refine wpN_held (HeldKd w4.heap.size kv) (by kernel_rfl) ?_
    change wpAnyH _ _ _ _ _ _ _ _ (World.drew _)
    refine tk 0 (v := ?_) rfl (by kernel_rfl) (by rfl) ?_ (by assumption) ?_
    rotate_left
    ·intro w' ⟨s0, s1, s2, s3, s4⟩; go_simp; try with_reducible rfl
    simp only [Act.put, sA, sB, sC]
    refine tk 1 (v := ?_) rfl (by kernel_rfl) (by rfl) ?_ (by assumption) ?_
    rotate_left
    ·intro w' ⟨s0, s1, s2, s3, s4⟩; go_simp; try with_reducible rfl
    simp only [Act.put, sA, sB, sC]
    refine tk 2 (v := ?_) rfl (by kernel_rfl) (by rfl) ?_ (by assumption) ?_
    rotate_left
    ·intro w' ⟨s0, s1, s2, s3, s4⟩; go_simp; try with_reducible rfl
    simp only [Act.put, sA, sB, sC]
    refine tk 3 (v := ?_) rfl (by kernel_rfl) (by rfl) ?_ (by assumption) ?_
    rotate_left
    ·intro w' ⟨s0, s1, s2, s3, s4⟩; go_simp; try with_reducible rfl
    simp only [Act.put, sA, sB, sC]
    refine wpAnyH_ready (rs := [4]) (by kernel_rfl) (by simp) ?_
    refine AllReadyH.cons rfl (fun K hK => ?_) AllReadyH.nil
    go_simp
    refine (uh HI _).mono ?_
    rintro e w6 ⟨rfl, hS6, hb6⟩
    refine hK.out _ _ hS6 (fun _ => ?_)
    clear hK K hS0 HI
    have hR6 := (uh HR5).then_below hb6 (by omega)
    have hz6 := hb6.size
    refine wpAnyH_ready (rs := [5]) (by kernel_rfl) (by simp) ?_
    refine AllReadyH.cons rfl (fun K hK => ?_) AllReadyH.nil
    go_simp
    refine (((uh HD).gr hR6 hbl).put (k := kv) (v := ⟨2, left, 0, ⟨#[]⟩, 0⟩) (by omega) hKy (ok_int _) (wf_int _) hNz).mono ?_
    rintro e w7 ⟨⟨⟨u, rfl⟩, u0, u1, u2, hD7, hm7, ht7⟩, hb7, ho7⟩
    have hS7 : HeldKd w4.heap.size kv w7 := hS6.of (fun q => World.cell?_of_block (ho7 w4.heap.size (by omega) (by omega) hxo))
    have HD7 := uy hD7
    have HC7 := uy (((uh HC5).below hb6 (uh HC5).lt).below hb7 hbl)
    have HG7 := uy (((uh HG).trans hR6).then_below hb7 (Nat.le_refl _))
    refine hK.out _ _ hS7 (fun _ => ?_)
    clear hK K hS7 hD7 hb7 ho7 hR6 hS6 hb6
    refine wpAnyH_done (by kernel_rfl) ?_ _
    refine QN.normal ?_
    go_wp2
    go_roundw
    case rel => exact ⟨left - 1, k + 1, u0, u1, u2, _, by congr 1; omega, by omega, uh HD7, by omega, by omega, (uh HC7).mono (by omega), uh HG7⟩
    case measure => simp [intOf]; omega
   ·have hyd : decide (0 < y) = false := by simpa using hy
    have e1 := hX5.1
    have e2 := hX5.2.1
    have e3 := hX5.2.2.1
    have e4 := hX5.2.2.2.1
    have e5 := hX5.2.2.2.2
    go_wp2_with fail
    refine (((uh HD).gr (uh HR5) hbl).put (k := kv) (v := ⟨0, 0, 0, ⟨#[]⟩, 0⟩) (by omega) hKy ok_nil ⟨by decide, by decide⟩ hNz).mono ?_
    rintro e w7 ⟨⟨⟨u, rfl⟩, u0, u1, u2, hD7, hm7, ht7⟩, hb7, ho7⟩
    have HD7 := uy hD7
    have HC7 := uy ((uh HC5).below hb7 hbl)
    have HG7 := uy (((uh HG).trans (uh HR5)).then_below hb7 (Nat.le_refl _))
    clear hD7 hb7 ho7 e1 e2 e3 e4 e5 hX5
    go_wp2
    go_roundw
    case rel => exact ⟨left - 1, k + 1, u0, u1, u2, _, by congr 1; omega, by omega, uh HD7, by omega, by omega, (uh HC7).mono (by omega), uh HG7⟩
    case measure => simp [intOf]; omega
  have hm0 : (mo == 0) = false := by simp [hmode]
  have hm1 : (mo == 1) = false := by simp [hmode1]
  go_wp2_with fail
  obtain ⟨cd, kv, hkv, hky⟩ := keyedK ⟨k0, k1, k2, k3, k4⟩ ⟨hkf.1, Nat.le_trans hks (by decide)⟩
  refine (skey_any (k0) (k1) (k2) (k3) (k4) _).mono ?_
  rintro e w4 ⟨rfl, hb4⟩
  have hNz : Nz kv := keyV_nz hkv hkf.2
  have hkv : keyV (k0) (k1) (k2) (k3) (k4) = KV cd kv.kind kv.num kv.flt kv.str kv.ref := hkv
  rw [hkv]
  have hbq := hba
  have hb5 := hbq.trans (hb4.mono (Nat.le_trans (Nat.le_refl _) hbq.size))
  have hz4 : w1.heap.size ≤ w4.heap.size := Nat.le_trans (Nat.le_refl _) hb5.size
  have HC4 := uy ((uh HC1).below hb5 hb1)
  have HR4 := uy ((uh HR1).then_below hb5 hz1)
  clear hb5 hb4 hbq hkv
  by_cases hc0 : cd = 0
  case neg =>
   have hc' : (cd != 0) = true := by simp [hc0]
   go_wp2
   go_roundw
   case rel =>
    have hR := (uh HR4).then_below ((Below.refl w4.heap.size w4).alloc (Nat.le_refl _) (.cells #[.int .i64 cd, .int .i64 kv.kind, .int .i64 kv.num, .float .f64 kv.flt, .string kv.str, .int .i64 kv.ref] 34)) (Nat.le_trans hz1 hz4)
    exact ⟨left - 1, k + 1, v0, v1, v2, d, by congr 1; omega, by omega, (uh HD).gr hR hbl, by omega, by omega, ((uh HC4).mono (by omega)).below ((Below.refl w4.heap.size w4).alloc (Nat.le_refl _) _) (uh HC4).lt, (uh HG).trans hR⟩
   case measure => simp [intOf]; omega
  subst hc0
  have hKy := hky rfl
  clear hky
  have hba : Below w4.heap.size w4 (w4.alloc (.cells #[.int .i64 0, .int .i64 kv.kind, .int .i64 kv.num, .float .f64 kv.flt, .string kv.str, .int .i64 kv.ref] 34)) := (Below.refl w4.heap.size w4).alloc (Nat.le_refl _) _
  have HCA := uy ((uh HC4).below hba (uh HC4).lt)
  have HRA := uy ((uh HR4).then_below hba (Nat.le_trans hz1 hz4))
  have hxb : b < w4.heap.size := (uh HC4).lt
  clear hba
  go_wp2_with fail
  refine (pick_any b (N + 4 + 24 * k + 10) 3 _ (uh HCA) (by omega) (by omega) (by omega)).mono ?_
  rintro e w5 ⟨⟨y, rfl, hy0, hy1⟩, hc5, hs5⟩
  have hz5 : w4.heap.size < w5.heap.size := by rw [hs5.size]; simp
  have hX5 : HeldKd w4.heap.size kv w5 := HeldKd.of (W := w4.alloc (.cells #[.int .i64 0, .int .i64 kv.kind, .int .i64 kv.num, .float .f64 kv.flt, .string kv.str, .int .i64 kv.ref] 34)) ⟨by simp [go_sem], by simp [go_sem], by simp [go_sem], by simp [go_sem], by simp [go_sem]⟩ (fun q => hs5.cell _ _ (by omega))
  have HC5 := uy hc5
  have HR5 := uy ((uh HRA).trans hs5.gr)
  clear hc5 hs5 HCA HRA HC4 HR4
  have hxo : ¬ Own3 v0 v1 v2 w4.heap.size := fun e => by have := ((uh HD).mu.own3 e).2; omega
  by_cases hy : 0 < y
  ·have hyd : decide (0 < y) = true := by simpa using hy
   have hS0 : HeldKd w4.heap.size kv w5.drew := hX5
   have HI : Hid (∀ n : Int, Calls Tryz.prog 59 #[.int .i64 n] w5.drew fun e w' => e = .returned (V 2 n 0 ⟨#[]⟩ 0) ∧ HeldKd w4.heap.size kv w' ∧ Below w5.heap.size w5 w') := uy (fun n => (l1int_any n w5.drew).mono (by
    rintro e w' ⟨h1, h2⟩
    exact ⟨h1, hX5.of (fun q => h2.cell (p := ⟨w4.heap.size, q, none⟩) hz5), Below.trans (Below.refl _ _).drew h2⟩))
   clear hX5
   go_wp2_with fail
   refine wpN_held (HeldKd w4.heap.size kv) (by kernel_rfl) ?_
   change wpAnyH _ _ _ _ _ _ _ _ (World.drew _)
   refine tk 0 (v := ?_) rfl (by kernel_rfl) (by rfl) ?_ (by assumption) ?_
   rotate_left
   ·intro w' ⟨s0, s1, s2, s3, s4⟩; go_simp; try with_reducible rfl
   simp only [Act.put, sA, sB, sC]
   refine tk 1 (v := ?_) rfl (by kernel_rfl) (by rfl) ?_ (by assumption) ?_
   rotate_left
   ·intro w' ⟨s0, s1, s2, s3, s4⟩; go_simp; try with_reducible rfl
   simp only [Act.put, sA, sB, sC]
   refine tk 2 (v := ?_) rfl (by kernel_rfl) (by rfl) ?_ (by assumption) ?_
   rotate_left
   ·intro w' ⟨s0, s1, s2, s3, s4⟩; go_simp; try with_reducible rfl
   simp only [Act.put, sA, sB, sC]
   refine tk 3 (v := ?_) rfl (by kernel_rfl) (by rfl) ?_ (by assumption) ?_
   rotate_left
   ·intro w' ⟨s0, s1, s2, s3, s4⟩; go_simp; try with_reducible rfl
   simp only [Act.put, sA, sB, sC]
   refine wpAnyH_ready (rs := [4]) (by kernel_rfl) (by simp) ?_
   refine AllReadyH.cons rfl (fun K hK => ?_) AllReadyH.nil
   go_simp
   refine (uh HI _).mono ?_
   rintro e w6 ⟨rfl, hS6, hb6⟩
   refine hK.out _ _ hS6 (fun _ => ?_)
   clear hK K hS0 HI
   have hR6 := (uh HR5).then_below hb6 (by omega)
   have hz6 := hb6.size
   refine wpAnyH_ready (rs := [5]) (by kernel_rfl) (by simp) ?_
   refine AllReadyH.cons rfl (fun K hK => ?_) AllReadyH.nil
   go_simp
   refine (((uh HD).gr hR6 hbl).put (k := kv) (v := ⟨2, left, 0, ⟨#[]⟩, 0⟩) (by omega) hKy (ok_int _) (wf_int _) hNz).mono ?_
   rintro e w7 ⟨⟨⟨u, rfl⟩, u0, u1, u2, hD7, hm7, ht7⟩, hb7, ho7⟩
   have hS7 : HeldKd w4.heap.size kv w7 := hS6.of (fun q => World.cell?_of_block (ho7 w4.heap.size (by omega) (by omega) hxo))
   have HD7 := uy hD7
   have HC7 := uy (((uh HC5).below hb6 (uh HC5).lt).below hb7 hbl)
   have HG7 := uy (((uh HG).trans hR6).then_below hb7 (Nat.le_refl _))
   refine hK.out _ _ hS7 (fun _ => ?_)
   clear hK K hS7 hD7 hb7 ho7 hR6 hS6 hb6
   refine wpAnyH_done (by kernel_rfl) ?_ _
   refine QN.normal ?_
   go_wp2
   go_roundw
   case rel => exact ⟨left - 1, k + 1, u0, u1, u2, _, by congr 1; omega, by omega, uh HD7, by omega, by omega, (uh HC7).mono (by omega), uh HG7⟩
   case measure => simp [intOf]; omega
  ·have hyd : decide (0 < y) = false := by simpa using hy
   have e1 := hX5.1
   have e2 := hX5.2.1
   have e3 := hX5.2.2.1
   have e4 := hX5.2.2.2.1
   have e5 := hX5.2.2.2.2
   go_wp2_with fail
   refine (((uh HD).gr (uh HR5) hbl).put (k := kv) (v := ⟨0, 0, 0, ⟨#[]⟩, 0⟩) (by omega) hKy ok_nil ⟨by decide, by decide⟩ hNz).mono ?_
   rintro e w7 ⟨⟨⟨u, rfl⟩, u0, u1, u2, hD7, hm7, ht7⟩, hb7, ho7⟩
   have HD7 := uy hD7
   have HC7 := uy ((uh HC5).below hb7 hbl)
   have HG7 := uy (((uh HG).trans (uh HR5)).then_below hb7 (Nat.le_refl _))
   clear hD7 hb7 ho7 e1 e2 e3 e4 e5 hX5
   go_wp2
   go_roundw
   case rel => exact ⟨left - 1, k + 1, u0, u1, u2, _, by congr 1; omega, by omega, uh HD7, by omega, by omega, (uh HC7).mono (by omega), uh HG7⟩
   case measure => simp [intOf]; omega
end
section
open Go.RowKit Go.Shelf
set_option maxRecDepth 100000 in
set_option maxHeartbeats 4000000 in
theorem dicts_any (a : Option Addr) (len cap : Nat) (w : World) (hcode : CodeAt w w.heap.size a len) :
  Calls Tryz.prog 11 #[.slice a len cap] w fun e w' => (∃ la lc ia ic xa xc d, e = .returned (Dv la lc ia ic xa xc d) ∧ DAt w' la ia xa d ∧ Inv Ky hN d ∧ WfD d ∧ d.m ≤ 2400000 ∧ d.turns ≤ 600 ∧ LogQ NzP d) ∧ Below w.heap.size w w' := by
 have HCode := uy hcode
 clear hcode
 go_enter Tryz.func11, Tryz.ntmps11
 go_wp2_with fail
 have hU : Below w.heap.size w ((w.alloc (.cells #[.slice none 0 0, .slice none 0 0, .slice none 0 0, .int .i64 0, .int .i64 0, .int .i64 0] 26)).alloc (.cells #[.slice a len cap, .int .i64 0, .int .u64 0] 69)) := ((Below.refl w.heap.size w).alloc (Nat.le_refl _) _).alloc (by simp) _
 have n0 : ¬ w.heap.size = w.heap.size + 1 := by omega
 have hcu : Cu (w.heap.size + 1) 0 ((w.alloc (.cells #[.slice none 0 0, .slice none 0 0, .slice none 0 0, .int .i64 0, .int .i64 0, .int .i64 0] 26)).alloc (.cells #[.slice a len cap, .int .i64 0, .int .u64 0] 69)) := by
  refine ⟨⟨a, len, cap, 0, 0, by simp [go_sem], by simp [go_sem], by simp [go_sem], by omega, by omega, by omega, by omega, ?_⟩, fun o => by simp [go_sem]⟩
  obtain ⟨h1, h2⟩ := uh HCode
  refine ⟨h1, ?_⟩
  rcases h2 with h | ⟨k, off, e, hk, hc⟩
  ·exact .inl h
  ·refine .inr ⟨k, off, e, by omega, fun i hi => ?_⟩
   obtain ⟨z, hz, hr⟩ := hc i hi
   exact ⟨z, (hU.cell (p := ⟨k, off + i, none⟩) hk).trans hz, hr⟩
 refine (drawnDict_any (w.heap.size + 1) 0 _ hcu (by omega)).mono ?_
 rintro e w1 ⟨⟨v0, v1, v2, d, rfl, hD, hm, htn⟩, hc1, hg1⟩
 have hB1 : Below w.heap.size w w1 := hU.trans (hg1.below (by omega) hU.size)
 have rc : ∀ o, w1.cell? ⟨w.heap.size, o, none⟩ = ((w.alloc (.cells #[.slice none 0 0, .slice none 0 0, .slice none 0 0, .int .i64 0, .int .i64 0, .int .i64 0] 26)).alloc (.cells #[.slice a len cap, .int .i64 0, .int .u64 0] 69)).cell? ⟨w.heap.size, o, none⟩ := fun o => hg1.cell _ _ (by omega) (by simp; omega)
 have rf : ∀ o, w1.frozen? ⟨w.heap.size, o, none⟩ = ((w.alloc (.cells #[.slice none 0 0, .slice none 0 0, .slice none 0 0, .int .i64 0, .int .i64 0, .int .i64 0] 26)).alloc (.cells #[.slice a len cap, .int .i64 0, .int .u64 0] 69)).frozen? ⟨w.heap.size, o, none⟩ := fun o => hg1.frozen _ _ (by omega) (by simp; omega)
 obtain ⟨la, lc, ia, ic, xa, xc, e0, e1, e2, hP⟩ := hD.mu.ptr
 subst e0 e1 e2
 have hz : ((w.alloc (.cells #[.slice none 0 0, .slice none 0 0, .slice none 0 0, .int .i64 0, .int .i64 0, .int .i64 0] 26)).alloc (.cells #[.slice a len cap, .int .i64 0, .int .u64 0] 69)).heap.size = w.heap.size + 1 + 1 := by simp
 rw [hz] at hD ⊢
 have q0 : w1.cell? ⟨w.heap.size + 1 + 1, 0, none⟩ = some (.slice la d.n lc) := hD.mu.c0
 have q1 : w1.cell? ⟨w.heap.size + 1 + 1, 1, none⟩ = some (.slice ia d.m ic) := hD.mu.c1
 have q2 : w1.cell? ⟨w.heap.size + 1 + 1, 2, none⟩ = some (.slice xa d.x xc) := hD.mu.c2
 have q3 : w1.cell? ⟨w.heap.size + 1 + 1, 3, none⟩ = some (.int .i64 d.used) := hD.mu.c3
 have q4 : w1.cell? ⟨w.heap.size + 1 + 1, 4, none⟩ = some (.int .i64 d.live) := hD.mu.c4
 have q5 : w1.cell? ⟨w.heap.size + 1 + 1, 5, none⟩ = some (.int .i64 d.turns) := hD.mu.c5
 have HD := uy hD
 have HB := uy hB1
 clear hD hB1 hP hg1 hc1 hcu hU hz
 go_wp2
 refine bodyPost_ret (v := Dv la lc ia ic xa xc d) (by simp [results, Tryz.results11, go_sem, rc]) rfl ⟨⟨la, lc, ia, ic, xa, xc, d, rfl, ?_, (uh HD).inv, (uh HD).wf, hm, htn, (uh HD).nz⟩, ?_⟩
 ·obtain ⟨la', lc', ia', ic', xa', xc', e0, e1, e2, hA⟩ := (uh HD).mu.rows (w' := (((((w1.setCell ⟨w.heap.size, 0, none⟩ (.slice la d.n lc)).setCell ⟨w.heap.size, 1, none⟩ (.slice ia d.m ic)).setCell ⟨w.heap.size, 2, none⟩ (.slice xa d.x xc)).setCell ⟨w.heap.size, 3, none⟩ (.int .i64 d.used)).setCell ⟨w.heap.size, 4, none⟩ (.int .i64 d.live)).setCell ⟨w.heap.size, 5, none⟩ (.int .i64 d.turns)) (by simp) (fun q h1 h2 => by
   have hq : q ≠ w.heap.size := by omega
   rw [Deep.blk_setCell_other _ _ _ _ (by exact hq), Deep.blk_setCell_other _ _ _ _ (by exact hq), Deep.blk_setCell_other _ _ _ _ (by exact hq), Deep.blk_setCell_other _ _ _ _ (by exact hq), Deep.blk_setCell_other _ _ _ _ (by exact hq), Deep.blk_setCell_other _ _ _ _ (by exact hq)])
  cases e0; cases e1; cases e2
  exact hA
 ·iterate 6 (refine Below.setCell ?_ (by exact Nat.le_refl _) _)
  exact uh HB
end
section
open Go.RowKit Go.Shelf
attribute [local go_sem] run_store_float run_equalIn_float
set_option maxRecDepth 100000 in
set_option maxHeartbeats 2000000 in
theorem wPair_self (p : Pr) (w : World) : Calls Tryz.prog 26 #[PV p, PV p] w fun e w' => e = .returned (.bool true) ∧ Below w.heap.size w w' := by
 have hb0 : Below w.heap.size w ((w.alloc (.cells #[.int .i64 p.key.kind, .int .i64 p.key.num, .float .f64 p.key.flt, .string p.key.str, .int .i64 p.key.ref, .int .i64 p.val.kind, .int .i64 p.val.num, .float .f64 p.val.flt, .string p.val.str, .int .i64 p.val.ref, .int .i64 p.turn] 43)).alloc (.cells #[.int .i64 p.key.kind, .int .i64 p.key.num, .float .f64 p.key.flt, .string p.key.str, .int .i64 p.key.ref, .int .i64 p.val.kind, .int .i64 p.val.num, .float .f64 p.val.flt, .string p.val.str, .int .i64 p.val.ref, .int .i64 p.turn] 43)) := ((Below.refl _ _).alloc (Nat.le_refl _) _).alloc (by simp) _
 have HB0 := uy hb0
 clear hb0
 go_enter Tryz.func26, Tryz.ntmps26
 go_wp2_with fail
 refine (wVal_self _ _ _ _ _ _).mono ?_
 rintro e w1 ⟨rfl, hb1⟩
 obtain ⟨hc1, hf1⟩ := bcell hb1
 have rc : ∀ o, w1.cell? ⟨w.heap.size, o, none⟩ = _ := fun o => hc1 _ _ (by simp; omega)
 have rd : ∀ o, w1.cell? ⟨w.heap.size + 1, o, none⟩ = _ := fun o => hc1 _ _ (by simp)
 have HB1 := uy ((uh HB0).trans (hb1.mono (uh HB0).size))
 have hz : w.heap.size + 1 < w1.heap.size := Nat.lt_of_lt_of_le (by simp) hb1.size
 clear hb1 hc1 hf1
 go_wp2_with fail
 refine (wVal_self _ _ _ _ _ _).mono ?_
 rintro e w2 ⟨rfl, hb2⟩
 have sc : ∀ o, w2.cell? ⟨w.heap.size, o, none⟩ = _ := fun o => (hb2.cell (p := ⟨w.heap.size, o, none⟩) (by show w.heap.size < w1.heap.size; omega)).trans (rc o)
 have sd : ∀ o, w2.cell? ⟨w.heap.size + 1, o, none⟩ = _ := fun o => (hb2.cell (p := ⟨w.heap.size + 1, o, none⟩) hz).trans (rd o)
 have HB2 := uy ((uh HB1).trans (hb2.mono (uh HB1).size))
 clear hb2 rc rd
 go_wp2
 go_ret
 exact ⟨rfl, uh HB2⟩
set_option maxRecDepth 100000 in
set_option maxHeartbeats 2000000 in
theorem wPairs_same (a a' : Option Addr) (n cap cap' : Nat) (f : Nat → Pr) (w : World) (hA : PAt w a n f) (hB : PAt w a' n f) (hn : n ≤ 4194304) :
  Calls Tryz.prog 23 #[.slice a n cap, .slice a' n cap'] w fun e w' => e = .returned (.bool true) ∧ Below w.heap.size w w' := by
 have HA := uy hA
 have HB := uy hB
 clear hA hB
 go_enter Tryz.func23, Tryz.ntmps23
 go_wp2
 go_loopw [13] (fun i wr => ∃ (k : Nat), k ≤ n ∧ i = .int .i64 k ∧ Below w.heap.size w wr) (fun i _ => n - (intOf i).toNat)
 case atStart => exact ⟨0, by omega, rfl, Below.refl _ _⟩
 case round =>
  obtain ⟨k, hk, rfl, hb⟩ := hrel
  by_cases hlt : k < n
  ·obtain ⟨b, off, rfl, hbl, hcs⟩ := (uh HA).resolve_left (by omega)
   obtain ⟨b', off', rfl, hbl', hcs'⟩ := (uh HB).resolve_left (by omega)
   obtain ⟨e0, e1, e2, e3, e4, e5, e6, e7, e8, e9, e10⟩ := (hcs k hlt).keep (fun q => hb.cell (p := ⟨b, q, none⟩) hbl)
   obtain ⟨d0, d1, d2, d3, d4, d5, d6, d7, d8, d9, d10⟩ := (hcs' k hlt).keep (fun q => hb.cell (p := ⟨b', q, none⟩) hbl')
   have hx : b < wr.heap.size := Nat.lt_of_lt_of_le hbl hb.size
   have hx' : b' < wr.heap.size := Nat.lt_of_lt_of_le hbl' hb.size
   have HBW := uy hb
   clear hb hcs hcs'
   go_wp2_with fail
   refine wp_region_quiet (C := fun w' => Below wr.heap.size wr w') (by kernel_rfl) (by kernel_rfl) ((Below.refl _ _).drew) ?_
   show wpQuiet _ _ _ _ [_, _, _, _, _, _, _, _, _, _] _
   iterate 3 (refine wpQuiet_step (fun K hK => ?_); go_simp; refine ⟨_, fun w' hw' => rfl, hK _ ?_⟩; clear hK K)
   refine wpQuiet_step (fun K hK => ?_)
   go_simp
   apply Exists.intro
   refine And.intro (fun w' hw' => ?_) (hK _ ?_)
   ·obtain ⟨hc', hf'⟩ := bcell hw'
    go_simp
    first | rfl | exact ⟨rfl, rfl⟩ | exact ⟨rfl⟩
   clear hK K
   iterate 3 (refine wpQuiet_step (fun K hK => ?_); go_simp; refine ⟨_, fun w' hw' => rfl, hK _ ?_⟩; clear hK K)
   refine wpQuiet_step (fun K hK => ?_)
   go_simp
   apply Exists.intro
   refine And.intro (fun w' hw' => ?_) (hK _ ?_)
   ·obtain ⟨hc', hf'⟩ := bcell hw'
    go_simp
    first | rfl | exact ⟨rfl, rfl⟩ | exact ⟨rfl⟩
   clear hK K
   refine wpQuiet_step (fun K hK => ?_)
   go_simp
   apply Exists.intro
   refine And.intro (fun w' hw' => ?_) (hK _ ?_)
   ·refine (wPair_self (f k) _).mono ?_
    rintro e w'' ⟨rfl, hb⟩
    exact ⟨rfl, hw'.trans (hb.mono hw'.size)⟩
   clear hK K
   refine wpQuiet_step (fun K hK => ?_)
   go_simp
   refine ⟨_, fun w' hw' => rfl, hK _ ?_⟩
   clear hK K
   refine wpQuiet_nil ?_
   intro w2 hw2
   have HB2 := uy ((uh HBW).trans (hw2.mono (uh HBW).size))
   clear hw2 e0 e1 e2 e3 e4 e5 e6 e7 e8 e9 e10 d0 d1 d2 d3 d4 d5 d6 d7 d8 d9 d10
   go_wp2
   go_roundw
   case rel => exact ⟨k + 1, by omega, by go_num, uh HB2⟩
   case measure => simp [intOf]; omega
  ·have : k = n := by omega
   subst this
   have HB2 := uy hb
   clear hb
   go_wp2
   go_ret
   exact ⟨rfl, uh HB2⟩
end
end Go.Proofs.YtglcaejddckleaaGreatDoor
