/-
  DsK, DtX, WbA, DzC, DzE, DpC, DzF in one text.
-/
import Derived.Test.YtglcaejddckleaaDoorBg1
import Derived.Test.YtglcaejddckleaaDoorBg4
import Derived.Test.YtglcaejddckleaaDoorBg2
import Derived.Stop.RegionWithIn
namespace Go.Proofs.YtglcaejddckleaaDoor
open Go.RowKit
set_option linter.unusedVariables false

theorem keyB_of {d : Dc} {i : Nat} (h : Entry d i) (ht : (d.L i).turn ≠ 0) : keyB (d.L i).key = true := by
  rcases h with ⟨h0, _⟩ | ⟨_, _, h, _⟩
  · exact absurd h0 ht
  · exact h
open Classical in
noncomputable def putO (d : Dc) (c : Int) (kv v : Vl) : Dc := if dictOk d (hD d) = 0 ∧ c = 0 ∧ v.ok = true then putD hN d kv v else noD
theorem noD_dv (W : World) (lo hi : Nat) : DV noD W (.slice none 0 0) (.slice none 0 0) (.slice none 0 0) lo hi := ⟨.inl ⟨rfl, rfl⟩, .inl ⟨rfl, rfl⟩, .inl ⟨rfl, rfl⟩, (fun q e => by cases e), (fun q e => by cases e), (fun q e => by cases e)⟩
theorem noD_at (w : World) : DAt w none none none noD := ⟨.inl rfl, .inl rfl, .inl rfl⟩
theorem sound_inv {d : Dc} (h : Sound d (hD d)) (hW : WfD d) : Inv Ky hN d :=
  Sound.inv (hf := hN) (K := Ky) h keyLaw (fun i hi ht => ⟨keyB_of (h.d2.logOk.ent i hi) ht, (hW i hi).1⟩)
end Go.Proofs.YtglcaejddckleaaDoor
namespace Go.Proofs.YtglcaejddckleaaDoor
open Go.RowKit
set_option linter.unusedVariables false
attribute [local go_sem] run_store_float run_equalIn_float

/-- The boxes of a put. -/
structure PBox (w W : World) (la : Option Addr) (lc : Nat) (ia : Option Addr) (ic : Nat) (xa : Option Addr) (xc : Nat) (d : Dc) (v : Vl) : Prop where
  b0 : W.heap[w.heap.size]? = some (.cells #[.slice la d.n lc, .slice ia d.m ic, .slice xa d.x xc, .int .i64 d.used, .int .i64 d.live, .int .i64 d.turns] 28 (0, 0))
  b2 : W.heap[w.heap.size + 1 + 1]? = some (.cells #[.int .i64 v.kind, .int .i64 v.num, .float .f64 v.flt, .string v.str, .int .i64 v.ref] 32 (0, 0))
  b3 : W.heap[w.heap.size + 1 + 1 + 1]? = some (.cells #[.slice none 0 0, .slice none 0 0, .slice none 0 0, .int .i64 0, .int .i64 0, .int .i64 0] 28 (0, 0))
  bel : Below w.heap.size w W
section
variable {w W W' : World} {la ia xa : Option Addr} {lc ic xc : Nat} {d : Dc} {v : Vl}
theorem PBox.size (h : PBox w W la lc ia ic xa xc d v) : w.heap.size + 1 + 1 + 1 < W.heap.size := (Array.getElem?_eq_some_iff.1 h.b3).1
theorem PBox.keep (h : PBox w W la lc ia ic xa xc d v) {B : Nat} (hb : Below B W W') (hB : w.heap.size + 1 + 1 + 1 < B) : PBox w W' la lc ia ic xa xc d v :=
  ⟨(hb.block _ (by omega)).trans h.b0, (hb.block _ (by omega)).trans h.b2, (hb.block _ hB).trans h.b3, h.bel.trans (hb.mono (by omega))⟩
theorem PBox.dc (h : PBox w W la lc ia ic xa xc d v) : W.cell? ⟨w.heap.size, 0, none⟩ = some (.slice la d.n lc) ∧ W.cell? ⟨w.heap.size, 1, none⟩ = some (.slice ia d.m ic) ∧ W.cell? ⟨w.heap.size, 2, none⟩ = some (.slice xa d.x xc) ∧ W.cell? ⟨w.heap.size, 3, none⟩ = some (.int .i64 d.used) ∧ W.cell? ⟨w.heap.size, 4, none⟩ = some (.int .i64 d.live) ∧ W.cell? ⟨w.heap.size, 5, none⟩ = some (.int .i64 d.turns) :=
  ⟨by simp [World.cell?, h.b0], by simp [World.cell?, h.b0], by simp [World.cell?, h.b0], by simp [World.cell?, h.b0], by simp [World.cell?, h.b0], by simp [World.cell?, h.b0]⟩
theorem PBox.vc (h : PBox w W la lc ia ic xa xc d v) : W.cell? ⟨w.heap.size + 1 + 1, 0, none⟩ = some (.int .i64 v.kind) ∧ W.cell? ⟨w.heap.size + 1 + 1, 1, none⟩ = some (.int .i64 v.num) ∧ W.cell? ⟨w.heap.size + 1 + 1, 2, none⟩ = some (.float .f64 v.flt) ∧ W.cell? ⟨w.heap.size + 1 + 1, 3, none⟩ = some (.string v.str) ∧ W.cell? ⟨w.heap.size + 1 + 1, 4, none⟩ = some (.int .i64 v.ref) :=
  ⟨by simp [World.cell?, h.b2], by simp [World.cell?, h.b2], by simp [World.cell?, h.b2], by simp [World.cell?, h.b2], by simp [World.cell?, h.b2]⟩
theorem PBox.rc (h : PBox w W la lc ia ic xa xc d v) : W.cell? ⟨w.heap.size + 1 + 1 + 1, 0, none⟩ = some (.slice none 0 0) ∧ W.cell? ⟨w.heap.size + 1 + 1 + 1, 1, none⟩ = some (.slice none 0 0) ∧ W.cell? ⟨w.heap.size + 1 + 1 + 1, 2, none⟩ = some (.slice none 0 0) ∧ W.cell? ⟨w.heap.size + 1 + 1 + 1, 3, none⟩ = some (.int .i64 0) ∧ W.cell? ⟨w.heap.size + 1 + 1 + 1, 4, none⟩ = some (.int .i64 0) ∧ W.cell? ⟨w.heap.size + 1 + 1 + 1, 5, none⟩ = some (.int .i64 0) ∧ ∀ q, W.frozen? ⟨w.heap.size + 1 + 1 + 1, q, none⟩ = false :=
  ⟨by simp [World.cell?, h.b3], by simp [World.cell?, h.b3], by simp [World.cell?, h.b3], by simp [World.cell?, h.b3], by simp [World.cell?, h.b3], by simp [World.cell?, h.b3], fun q => by simp [World.frozen?, h.b3]⟩
end

theorem PrV.wide {f : Nat → Pr} {n : Nat} {w : World} {v : Value} {lo hi lo' hi' : Nat} (h : PrV f n w v lo hi) (h1 : lo' ≤ lo) (h2 : hi ≤ hi') : PrV f n w v lo' hi' := by
  rcases h with h | ⟨b, cp, N, g, e1, e2, e3, e4⟩
  · exact .inl h
  · exact .inr ⟨b, cp, N, g, e1, by omega, by omega, e4⟩
theorem InV.wide {f : Nat → Int} {n : Nat} {w : World} {v : Value} {lo hi lo' hi' : Nat} (h : InV f n w v lo hi) (h1 : lo' ≤ lo) (h2 : hi ≤ hi') : InV f n w v lo' hi' := by
  rcases h with h | ⟨b, cp, N, g, e1, e2, e3, e4⟩
  · exact .inl h
  · exact .inr ⟨b, cp, N, g, e1, by omega, by omega, e4⟩
theorem DV.wide {d : Dc} {w : World} {v0 v1 v2 : Value} {lo hi lo' hi' : Nat} (h : DV d w v0 v1 v2 lo hi) (h1 : lo' ≤ lo) (h2 : hi ≤ hi') : DV d w v0 v1 v2 lo' hi' := ⟨h.log.wide h1 h2, h.ints.wide h1 h2, h.index.wide h1 h2, h.a01, h.a02, h.a12⟩

set_option maxRecDepth 100000 in
set_option maxHeartbeats 8000000 in
theorem implPut (la : Option Addr) (lc : Nat) (ia : Option Addr) (ic : Nat) (xa : Option Addr) (xc : Nat) (d : Dc) (k v : Vl) (c : Int) (kv : Vl) (w : World) (hT : Tabs w) (hA : DAt w la ia xa d) (hS : Small d) (hW : WfD d) (hm : d.m ≤ 4000000) (hk : keyV k.kind k.num k.flt k.str k.ref = KV c kv.kind kv.num kv.flt kv.str kv.ref) (hh : c = 0 → Ky kv) :
    Calls Tryd.prog 7 #[Dv la lc ia ic xa xc d, V k.kind k.num k.flt k.str k.ref, V v.kind v.num v.flt v.str v.ref] w fun e w' => (∃ v0 v1 v2, e = .returned (DvV v0 v1 v2 (putO d c kv v)) ∧ DV (putO d c kv v) w' v0 v1 v2 w.heap.size w'.heap.size) ∧ Below w.heap.size w w' := by
  have HA := hide hA
  have HS := hide hS
  have HW := hide hW
  have HKV := hide hk
  have HH := hide hh
  have HT := hide hT
  clear hA hS hW hk hh hT
  have HP0 : Hid (PBox w ((((w.alloc (.cells #[.slice la d.n lc, .slice ia d.m ic, .slice xa d.x xc, .int .i64 d.used, .int .i64 d.live, .int .i64 d.turns] 28)).alloc (.cells #[.int .i64 k.kind, .int .i64 k.num, .float .f64 k.flt, .string k.str, .int .i64 k.ref] 32)).alloc (.cells #[.int .i64 v.kind, .int .i64 v.num, .float .f64 v.flt, .string v.str, .int .i64 v.ref] 32)).alloc (.cells #[.slice none 0 0, .slice none 0 0, .slice none 0 0, .int .i64 0, .int .i64 0, .int .i64 0] 28)) la lc ia ic xa xc d v) := hide (by
    refine ⟨?_, ?_, ?_, ((((Below.refl _ _).alloc (Nat.le_refl _) _).alloc (by simp) _).alloc (by simp; omega) _).alloc (by simp; omega) _⟩
    · iterate 3 (refine (Deep.blk_alloc_lt _ _ _ (by simp; try omega)).trans ?_)
      exact Deep.blk_alloc_new _ _
    · refine (Deep.blk_alloc_lt _ _ _ (by simp)).trans ?_
      have h1 := Deep.blk_alloc_new ((w.alloc (.cells #[.slice la d.n lc, .slice ia d.m ic, .slice xa d.x xc, .int .i64 d.used, .int .i64 d.live, .int .i64 d.turns] 28)).alloc (.cells #[.int .i64 k.kind, .int .i64 k.num, .float .f64 k.flt, .string k.str, .int .i64 k.ref] 32)) (.cells #[.int .i64 v.kind, .int .i64 v.num, .float .f64 v.flt, .string v.str, .int .i64 v.ref] 32)
      simpa using h1
    · have h1 := Deep.blk_alloc_new (((w.alloc (.cells #[.slice la d.n lc, .slice ia d.m ic, .slice xa d.x xc, .int .i64 d.used, .int .i64 d.live, .int .i64 d.turns] 28)).alloc (.cells #[.int .i64 k.kind, .int .i64 k.num, .float .f64 k.flt, .string k.str, .int .i64 k.ref] 32)).alloc (.cells #[.int .i64 v.kind, .int .i64 v.num, .float .f64 v.flt, .string v.str, .int .i64 v.ref] 32)) (.cells #[.slice none 0 0, .slice none 0 0, .slice none 0 0, .int .i64 0, .int .i64 0, .int .i64 0] 28)
      simpa using h1)
  go_enter Tryd.func7, Tryd.ntmps7
  go_wp2_with fail
  refine (ikey_any k.kind k.num k.flt k.str k.ref _).mono ?_
  rintro e w1 ⟨rfl, hb1⟩
  rw [unhide HKV]
  have hP1 := (unhide HP0).keep hb1 (unhide HP0).size
  have z1 := hP1.size
  have z1' : w.heap.size + 1 + 1 < w1.heap.size := by omega
  have z1'' : w.heap.size < w1.heap.size := by omega
  obtain ⟨W1, hW1⟩ : ∃ W1, W1 = w1.alloc (.cells #[.int .i64 c, .int .i64 kv.kind, .int .i64 kv.num, .float .f64 kv.flt, .string kv.str, .int .i64 kv.ref] 39) := ⟨_, rfl⟩
  have hP2 : PBox w W1 la lc ia ic xa xc d v := by rw [hW1]; exact hP1.keep ((Below.refl w1.heap.size w1).alloc (Nat.le_refl _) _) z1
  have zk : w1.heap.size < W1.heap.size := by rw [hW1]; simp
  clear hb1
  by_cases hc : c = 0
  case neg =>
    have HR : Hid (putO d c kv v = noD) := hide (if_neg (fun h => hc h.2.1))
    have hc' : (c != 0) = true := by simp [hc]
    obtain ⟨r0, r1, r2, r3, r4, r5, rf⟩ := hP1.rc
    have HB1 := hide hP1.bel
    clear hc hP1 hP2 hW1 zk HP0
    go_wp2
    refine bodyPost_ret (v := .agg #[.slice none 0 0, .slice none 0 0, .slice none 0 0, .int .i64 0, .int .i64 0, .int .i64 0]) (by simp [results, Tryd.results7, go_sem, r0, r1, r2, r3, r4, r5, z1]) rfl ⟨⟨.slice none 0 0, .slice none 0 0, .slice none 0 0, by rw [unhide HR]; rfl, by rw [unhide HR]; exact noD_dv _ _ _⟩, ?_⟩
    refine Below.alloc ?_ (by simp; omega) _
    iterate 6 (refine Below.setCell ?_ (by show w.heap.size ≤ w.heap.size + 1 + 1 + 1; omega) _)
    exact unhide HB1
  subst hc
  obtain ⟨v0, v1, v2, v3, v4⟩ := hP1.vc
  clear hP1 HP0
  have HP2 := hide hP2
  have HW1 : Hid (W1.cell? ⟨w1.heap.size, 1, none⟩ = some (.int .i64 kv.kind) ∧ W1.cell? ⟨w1.heap.size, 2, none⟩ = some (.int .i64 kv.num) ∧ W1.cell? ⟨w1.heap.size, 3, none⟩ = some (.float .f64 kv.flt) ∧ W1.cell? ⟨w1.heap.size, 4, none⟩ = some (.string kv.str) ∧ W1.cell? ⟨w1.heap.size, 5, none⟩ = some (.int .i64 kv.ref)) := hide (by rw [hW1]; refine ⟨?_, ?_, ?_, ?_, ?_⟩ <;> simp [go_sem])
  clear hP2
  go_wp2_with fail
  rw [← hW1]
  clear hW1 v0 v1 v2 v3 v4
  refine (isValid_any v.kind v.num v.flt v.str v.ref _).mono ?_
  rintro e w2 ⟨rfl, hb2⟩
  have hP3 := (unhide HP2).keep hb2 (unhide HP2).size
  have HKC : Hid (w2.cell? ⟨w1.heap.size, 1, none⟩ = some (.int .i64 kv.kind) ∧ w2.cell? ⟨w1.heap.size, 2, none⟩ = some (.int .i64 kv.num) ∧ w2.cell? ⟨w1.heap.size, 3, none⟩ = some (.float .f64 kv.flt) ∧ w2.cell? ⟨w1.heap.size, 4, none⟩ = some (.string kv.str) ∧ w2.cell? ⟨w1.heap.size, 5, none⟩ = some (.int .i64 kv.ref)) := hide ⟨(hb2.cell (p := ⟨w1.heap.size, 1, none⟩) zk).trans (unhide HW1).1, (hb2.cell (p := ⟨w1.heap.size, 2, none⟩) zk).trans (unhide HW1).2.1, (hb2.cell (p := ⟨w1.heap.size, 3, none⟩) zk).trans (unhide HW1).2.2.1, (hb2.cell (p := ⟨w1.heap.size, 4, none⟩) zk).trans (unhide HW1).2.2.2.1, (hb2.cell (p := ⟨w1.heap.size, 5, none⟩) zk).trans (unhide HW1).2.2.2.2⟩
  have zk2 := Nat.lt_of_lt_of_le zk hb2.size
  have z2 := hP3.size
  clear hb2 HP2 HW1
  by_cases hv : validB v.kind v.num v.flt v.str v.ref = true
  case neg =>
    have HR : Hid (putO d 0 kv v = noD) := hide (if_neg (fun h => hv h.2.2))
    have hv' : validB v.kind v.num v.flt v.str v.ref = false := by simpa using hv
    rw [hv']
    obtain ⟨r0, r1, r2, r3, r4, r5, rf⟩ := hP3.rc
    have HB := hide hP3.bel
    clear hv hv' hP3
    go_wp2
    refine bodyPost_ret (v := .agg #[.slice none 0 0, .slice none 0 0, .slice none 0 0, .int .i64 0, .int .i64 0, .int .i64 0]) (by simp [results, Tryd.results7, go_sem, r0, r1, r2, r3, r4, r5]) rfl ⟨⟨.slice none 0 0, .slice none 0 0, .slice none 0 0, by rw [unhide HR]; rfl, by rw [unhide HR]; exact noD_dv _ _ _⟩, ?_⟩
    iterate 6 (refine Below.setCell ?_ (by show w.heap.size ≤ w.heap.size + 1 + 1 + 1; omega) _)
    exact unhide HB
  rw [hv]
  obtain ⟨q0, q1, q2, q3, q4, q5⟩ := hP3.dc
  have HP3 := hide hP3
  have HV := hide hv
  clear hP3 hv
  go_wp2_with fail
  refine (implOk la lc ia ic xa xc d _ (lastsT _ _ (unhide HT) (unhide HP3).bel) ((unhide HA).below (unhide HP3).bel) (unhide HS) (unhide HW)).mono ?_
  rintro e w3 ⟨rfl, hb3⟩
  have hP4 := (unhide HP3).keep hb3 (unhide HP3).size
  have zk3 := Nat.lt_of_lt_of_le zk2 hb3.size
  have z3 := hP4.size
  have HKC3 : Hid (w3.cell? ⟨w1.heap.size, 1, none⟩ = some (.int .i64 kv.kind) ∧ w3.cell? ⟨w1.heap.size, 2, none⟩ = some (.int .i64 kv.num) ∧ w3.cell? ⟨w1.heap.size, 3, none⟩ = some (.float .f64 kv.flt) ∧ w3.cell? ⟨w1.heap.size, 4, none⟩ = some (.string kv.str) ∧ w3.cell? ⟨w1.heap.size, 5, none⟩ = some (.int .i64 kv.ref)) := hide ⟨(hb3.cell (p := ⟨w1.heap.size, 1, none⟩) zk2).trans (unhide HKC).1, (hb3.cell (p := ⟨w1.heap.size, 2, none⟩) zk2).trans (unhide HKC).2.1, (hb3.cell (p := ⟨w1.heap.size, 3, none⟩) zk2).trans (unhide HKC).2.2.1, (hb3.cell (p := ⟨w1.heap.size, 4, none⟩) zk2).trans (unhide HKC).2.2.2.1, (hb3.cell (p := ⟨w1.heap.size, 5, none⟩) zk2).trans (unhide HKC).2.2.2.2⟩
  clear hb3 HP3 HKC q0 q1 q2 q3 q4 q5 z2 zk2
  by_cases hok : dictOk d (hD d) = 0
  case neg =>
    have HR : Hid (putO d 0 kv v = noD) := hide (if_neg (fun h => hok h.1))
    have hk' : (dictOk d (hD d) != 0) = true := by simp [hok]
    obtain ⟨r0, r1, r2, r3, r4, r5, rf⟩ := hP4.rc
    have HB := hide hP4.bel
    clear hok hP4
    generalize dictOk d (hD d) = ok at hk'
    go_wp2
    refine bodyPost_ret (v := .agg #[.slice none 0 0, .slice none 0 0, .slice none 0 0, .int .i64 0, .int .i64 0, .int .i64 0]) (by simp [results, Tryd.results7, go_sem, r0, r1, r2, r3, r4, r5]) rfl ⟨⟨.slice none 0 0, .slice none 0 0, .slice none 0 0, by rw [unhide HR]; rfl, by rw [unhide HR]; exact noD_dv _ _ _⟩, ?_⟩
    iterate 6 (refine Below.setCell ?_ (by show w.heap.size ≤ w.heap.size + 1 + 1 + 1; omega) _)
    exact unhide HB
  have HR : Hid (putO d 0 kv v = putD hN d kv v) := hide (if_pos ⟨hok, rfl, unhide HV⟩)
  have hSd := sound_of hok
  have hInv := sound_inv hSd (unhide HW)
  have hKy := unhide HH trivial
  have HPI := hide (putD_inv keyLaw hInv hKy hKy.1 (unhide HV))
  have hpm := putD_m (v := v) keyLaw hInv hKy
  have HI := hide hInv
  have HSd := hide hSd
  have HKy := hide hKy
  rw [hok]
  obtain ⟨q0, q1, q2, q3, q4, q5⟩ := hP4.dc
  have HP4 := hide hP4
  clear hP4 hSd hInv hKy hok
  go_wp2_with fail
  refine (openBook_own la lc ia ic xa xc d _ ((unhide HA).below (unhide HP4).bel) (unhide HS) (unhide HSd).d3 (unhide HSd).d4).mono ?_
  rintro e w4 ⟨⟨bk, R0, R1, R2, E, S, rfl, hBk, hSt⟩, hb4⟩
  have hM4 := BMut.of_open hBk hSt (unhide HS)
  have hbk := hSt.gb
  have hP5 := (unhide HP4).keep hb4 (unhide HP4).size
  have z4 := hP5.size
  have zk4 := Nat.lt_of_lt_of_le zk3 hb4.size
  obtain ⟨v0, v1, v2, v3, v4⟩ := hP5.vc
  have k1 := (hb4.cell (p := ⟨w1.heap.size, 1, none⟩) zk3).trans (unhide HKC3).1
  have k2 := (hb4.cell (p := ⟨w1.heap.size, 2, none⟩) zk3).trans (unhide HKC3).2.1
  have k3 := (hb4.cell (p := ⟨w1.heap.size, 3, none⟩) zk3).trans (unhide HKC3).2.2.1
  have k4 := (hb4.cell (p := ⟨w1.heap.size, 4, none⟩) zk3).trans (unhide HKC3).2.2.2.1
  have k5 := (hb4.cell (p := ⟨w1.heap.size, 5, none⟩) zk3).trans (unhide HKC3).2.2.2.2
  have HP5 := hide hP5
  have HM4 := hide hM4
  clear hb4 hBk hSt hM4 hP5 HP4 HKC3 q0 q1 q2 q3 q4 q5
  go_wp2_with fail
  have hNG : 4 ≤ bk := by have := (unhide HT).sz; omega
  refine (put_any Tabs lastsT hN Ky keyLaw hsI_all bk (fun a b ha hb => ha.below hb hNG) _ _ R2 E S d kv v w4 (lastsT _ _ (unhide HT) (unhide HP5).bel) (unhide HM4) (unhide HS) hm (unhide HI) (unhide HKy) (unhide HKy).1 (unhide HV)).mono ?_
  rintro e w5 ⟨⟨⟨uu, rfl⟩, r0', r1', R2', E2, S2, hM5⟩, hb5⟩
  have hP6 := (unhide HP5).keep hb5 (by omega)
  have HM5 := hide hM5
  have HP6 := hide hP6
  have z5 := hP6.size
  clear hb5 hM5 hP6 HM4 HP5 v0 v1 v2 v3 v4 k1 k2 k3 k4 k5
  generalize hP : putD hN d kv v = P at *
  clear hP
  go_wp2_with fail
  refine (dict_any bk r0' r1' R2' E2 S2 P w5 (unhide HM5) ((unhide HPI).small (by omega)) (fun j hj => by
    rcases (unhide HPI).i0.ints j hj with e | e <;> omega) (fun j hj => by
    rcases (unhide HPI).i0.idx.range j hj with e | e | ⟨e1, e2, _⟩
    · exact .inl e
    · exact .inr (.inl e)
    · exact .inr (.inr ⟨e1, by omega⟩))).mono ?_
  rintro e w6 ⟨⟨u0, u1, u2, rfl, hDV⟩, hb6⟩
  have hP7 := (unhide HP6).keep hb6 z5
  obtain ⟨r0, r1, r2, r3, r4, r5, rf⟩ := hP7.rc
  have z6 := hP7.size
  have HB7 := hide hP7.bel
  have z56 := hb6.size
  obtain ⟨ua, uc, ub, ud, ue, uf, e0, e1, e2, -⟩ := hDV.at
  have HDV := hide hDV
  subst e0 e1 e2
  clear hDV hb6 hP7 HP6 HM5
  go_wp2
  refine bodyPost_ret (v := DvV (.slice ua P.n uc) (.slice ub P.m ud) (.slice ue P.x uf) P) (by simp [results, Tryd.results7, go_sem, r0, r1, r2, r3, r4, r5]) rfl ⟨⟨_, _, _, by rw [unhide HR], ?_⟩, ?_⟩
  · rw [unhide HR]
    refine DV.wide (DV.keep (unhide HDV) (fun b hb _ => ?_)) (by omega) (by simp)
    iterate 6 (refine (Deep.blk_setCell_other _ _ _ _ (by show b ≠ w.heap.size + 1 + 1 + 1; omega)).trans ?_)
    rfl
  · iterate 6 (refine Below.setCell ?_ (by show w.heap.size ≤ w.heap.size + 1 + 1 + 1; omega) _)
    exact unhide HB7
end Go.Proofs.YtglcaejddckleaaDoor
namespace Go.Proofs.YtglcaejddckleaaDoor
open Go.RowKit
set_option linter.unusedVariables false

theorem wByte_at (a : Option Addr) (len cap : Nat) (i : Nat) (w : World) {b : Nat} (hcode : CodeAt w b a len) (hle : (len : Int) ≤ 1048576) (hi : i < 1000) :
    ∃ z : Int, 0 ≤ z ∧ z < 256 ∧ ∀ (w' : World), (∀ k, k < b → w'.heap[k]? = w.heap[k]?) → Calls Tryd.prog 5 #[.slice a len cap, .int .i64 i] w' fun e w'' => e = .returned (.int .i64 z) ∧ w'' = w' := by
  by_cases h0 : len = 0
  · subst h0
    refine ⟨0, by omega, by omega, fun w' _ => ?_⟩
    clear hcode
    go_enter Tryd.func5, Tryd.ntmps5
    go_wp2
    go_ret
    exact ⟨rfl, rfl⟩
  · obtain ⟨k, off, rfl, hk, hc⟩ := hcode.2.resolve_left h0
    obtain ⟨z, hz, hz0, hz1⟩ := hc (i % len) (Nat.mod_lt _ (by omega))
    refine ⟨z, hz0, by omega, fun w' hw' => ?_⟩
    have hz' : w'.cell? ⟨k, off + i % len, none⟩ = some (.int .u8 z) := (World.cell?_of_block (hw' k hk)).trans hz
    have hne : ((len : Int) == 0) = false := by simp; omega
    have hne2 : ¬ (len : Int) = 0 := by omega
    have hmod : Int.tmod (i : Int) (len : Int) = ((i % len : Nat) : Int) := by rw [Int.tmod_eq_emod_of_nonneg (by omega)]; rfl
    have hp : ((i % len : Nat) : Int) < (len : Int) := by have := Nat.mod_lt i (show 0 < len by omega); omega
    have hp2 : (i % len : Nat) < len := Nat.mod_lt i (by omega)
    clear hcode hc hw'
    go_enter Tryd.func5, Tryd.ntmps5
    go_wp2
    go_ret
    exact ⟨rfl, rfl⟩
end Go.Proofs.YtglcaejddckleaaDoor
namespace Go.Proofs.YtglcaejddckleaaDoor
open Go.RowKit Go.Shelf
set_option linter.unusedVariables false
attribute [local go_sem] run_store_float run_equalIn_float

/-- A dict in a box that is written. -/
structure DX (w : World) (b : Nat) (la : Option Addr) (lc : Nat) (ia : Option Addr) (ic : Nat) (xa : Option Addr) (xc : Nat) (d : Dc) : Prop where
  lt : b < w.heap.size
  c0 : w.cell? ⟨b, 0, none⟩ = some (.slice la d.n lc)
  c1 : w.cell? ⟨b, 1, none⟩ = some (.slice ia d.m ic)
  c2 : w.cell? ⟨b, 2, none⟩ = some (.slice xa d.x xc)
  c3 : w.cell? ⟨b, 3, none⟩ = some (.int .i64 d.used)
  c4 : w.cell? ⟨b, 4, none⟩ = some (.int .i64 d.live)
  c5 : w.cell? ⟨b, 5, none⟩ = some (.int .i64 d.turns)
  fz : ∀ o, w.frozen? ⟨b, o, none⟩ = false
  at' : DAt w la ia xa d
  t : Tabs w
  inv : Inv Ky hN d
  wf : WfD d
theorem DX.below {w w' : World} {b : Nat} {la : Option Addr} {lc : Nat} {ia : Option Addr} {ic : Nat} {xa : Option Addr} {xc : Nat} {d : Dc} (h : DX w b la lc ia ic xa xc d) (hb : Below w.heap.size w w') : DX w' b la lc ia ic xa xc d :=
  ⟨Nat.lt_of_lt_of_le h.lt hb.size, (hb.cell (p := ⟨b, 0, none⟩) h.lt).trans h.c0, (hb.cell (p := ⟨b, 1, none⟩) h.lt).trans h.c1, (hb.cell (p := ⟨b, 2, none⟩) h.lt).trans h.c2, (hb.cell (p := ⟨b, 3, none⟩) h.lt).trans h.c3, (hb.cell (p := ⟨b, 4, none⟩) h.lt).trans h.c4, (hb.cell (p := ⟨b, 5, none⟩) h.lt).trans h.c5, fun o => (hb.frozen (p := ⟨b, o, none⟩) h.lt).trans (h.fz o), h.at'.below hb, h.t.below hb h.t.sz, h.inv, h.wf⟩
/-- A dict stored into a box. -/
def set6 (w : World) (b : Nat) (v0 v1 v2 : Value) (d : Dc) : World := (((((w.setCell ⟨b, 0, none⟩ v0).setCell ⟨b, 1, none⟩ v1).setCell ⟨b, 2, none⟩ v2).setCell ⟨b, 3, none⟩ (.int .i64 d.used)).setCell ⟨b, 4, none⟩ (.int .i64 d.live)).setCell ⟨b, 5, none⟩ (.int .i64 d.turns)
theorem set6_other {w : World} {b q : Nat} {v0 v1 v2 : Value} {d : Dc} (h : q ≠ b) : (set6 w b v0 v1 v2 d).heap[q]? = w.heap[q]? := by
  unfold set6
  rw [Deep.blk_setCell_other _ _ _ _ (by exact h), Deep.blk_setCell_other _ _ _ _ (by exact h), Deep.blk_setCell_other _ _ _ _ (by exact h), Deep.blk_setCell_other _ _ _ _ (by exact h), Deep.blk_setCell_other _ _ _ _ (by exact h), Deep.blk_setCell_other _ _ _ _ (by exact h)]
theorem set6_below {w : World} {b B : Nat} {v0 v1 v2 : Value} {d : Dc} (hb : B ≤ b) : Below B w (set6 w b v0 v1 v2 d) := by
  unfold set6
  iterate 6 (refine Below.setCell ?_ (by exact hb) _)
  exact Below.refl _ _
theorem set6_size {w : World} {b : Nat} {v0 v1 v2 : Value} {d : Dc} : (set6 w b v0 v1 v2 d).heap.size = w.heap.size := by
  unfold set6
  simp
/-- A put, and its answer stored into the box. -/
theorem DX.store {w w' : World} {b : Nat} {la : Option Addr} {lc : Nat} {ia : Option Addr} {ic : Nat} {xa : Option Addr} {xc : Nat} {d e : Dc} {u0 u1 u2 : Value} (h : DX w b la lc ia ic xa xc d) (hb : Below w.heap.size w w') (hD : DV e w' u0 u1 u2 w.heap.size w'.heap.size) (hI : Inv Ky hN e) (hW : WfD e) (hB : 4 ≤ b) :
    ∃ la lc ia ic xa xc, u0 = .slice la e.n lc ∧ u1 = .slice ia e.m ic ∧ u2 = .slice xa e.x xc ∧ DX (set6 w' b u0 u1 u2 e) b la lc ia ic xa xc e := by
  have h' := h.below hb
  have hne : ∀ q, w.heap.size ≤ q → q ≠ b := fun q hq e => by have := h.lt; omega
  obtain ⟨la, lc, ia, ic, xa, xc, e0, e1, e2, hA⟩ := (hD.keep (w' := set6 w' b u0 u1 u2 e) (fun q h1 _ => set6_other (hne q h1))).at
  have hlt := h'.lt
  have k0 := h'.c0
  have k1 := h'.c1
  have k2 := h'.c2
  have k3 := h'.c3
  have k4 := h'.c4
  have k5 := h'.c5
  refine ⟨la, lc, ia, ic, xa, xc, e0, e1, e2, by rw [set6_size]; exact hlt, ?_, ?_, ?_, ?_, ?_, ?_, fun o => ?_, hA, h'.t.below (set6_below hB) (Nat.le_refl _), hI, hW⟩
  · rw [e0]; unfold set6; simp [go_sem, k0]
  · rw [e1]; unfold set6; simp [go_sem, k1]
  · rw [e2]; unfold set6; simp [go_sem, k2]
  · unfold set6; simp [go_sem, k3]
  · unfold set6; simp [go_sem, k4]
  · unfold set6; simp [go_sem, k5]
  · have := h'.fz o
    unfold set6
    simp [go_sem, this]
theorem keyV_of {k : Vl} (hk : Ky k) : keyV k.kind k.num k.flt k.str k.ref = KV 0 k.kind k.num k.flt k.str k.ref := by
  have h := hk.1
  unfold keyB Vl.ok at h
  unfold keyV
  by_cases h3 : k.kind = 3
  · simp [h3] at h ⊢
    simp [h]
  · simp [h3] at h ⊢
    simp [h]
theorem ok_intz (n : Int) : (⟨2, n, 0, ⟨#[]⟩, 0⟩ : Vl).ok = true := by unfold Vl.ok validB; simp [fz_nil]
theorem ok_nilz : (⟨0, 0, 0, ⟨#[]⟩, 0⟩ : Vl).ok = true := by unfold Vl.ok validB; simp [fz_nil]
theorem wf_intz (n : Int) : Wf ⟨2, n, 0, ⟨#[]⟩, 0⟩ := ⟨by show (0 : Nat) < _; decide, Nat.zero_le _⟩
theorem wf_nilz : Wf ⟨0, 0, 0, ⟨#[]⟩, 0⟩ := ⟨by decide, by decide⟩
theorem ok_zero {d : Dc} (h : Inv Ky hN d) : dictOk d (hD d) = 0 := (h.sound keyLaw).zero
/-- DictPut of a sound dict in a box, its answer in pure words. -/
theorem DX.put {w : World} {b : Nat} {la : Option Addr} {lc : Nat} {ia : Option Addr} {ic : Nat} {xa : Option Addr} {xc : Nat} {d : Dc} (h : DX w b la lc ia ic xa xc d) (hm : d.m ≤ 4000000) {k v : Vl} (hk : Ky k) (hv : v.ok = true) (hvw : Wf v) (hB : 4 ≤ b) :
    Calls Tryd.prog 7 #[Dv la lc ia ic xa xc d, V k.kind k.num k.flt k.str k.ref, V v.kind v.num v.flt v.str v.ref] w fun e w' => (∃ la lc ia ic xa xc, e = .returned (Dv la lc ia ic xa xc (putD hN d k v)) ∧ DX (set6 w' b (.slice la (putD hN d k v).n lc) (.slice ia (putD hN d k v).m ic) (.slice xa (putD hN d k v).x xc) (putD hN d k v)) b la lc ia ic xa xc (putD hN d k v) ∧ (putD hN d k v).m ≤ d.m + 4002) ∧ Below w.heap.size w w' := by
  refine (implPut la lc ia ic xa xc d k v 0 k w h.t h.at' (h.inv.small (by omega)) h.wf hm (keyV_of hk) (fun _ => hk)).mono ?_
  rintro e w' ⟨⟨u0, u1, u2, rfl, hDV⟩, hb⟩
  have he : putO d 0 k v = putD hN d k v := if_pos ⟨ok_zero h.inv, rfl, hv⟩
  rw [he] at hDV ⊢
  obtain ⟨la', lc', ia', ic', xa', xc', rfl, rfl, rfl, hX⟩ := h.store hb hDV (putD_inv keyLaw h.inv hk hk.1 hv) (h.wf.put hk.2 hvw) hB
  exact ⟨⟨la', lc', ia', ic', xa', xc', rfl, hX, putD_m keyLaw h.inv hk⟩, hb⟩
end Go.Proofs.YtglcaejddckleaaDoor
namespace Go.Proofs.YtglcaejddckleaaDoor
open Go.RowKit Go.Shelf
set_option linter.unusedVariables false
attribute [local go_sem] run_store_float run_equalIn_float

theorem conv_two (u v : Int) (h0 : 0 ≤ u) (h1 : u < 256) (g0 : 0 ≤ v) (g1 : v < 256) (wr : World) : (convert 22 9 (.slice (some ⟨wr.heap.size, 0, none⟩) 2 2)).run Tryd.prog (wr.alloc (.cells #[.int .u8 u, .int .u8 v] 5)) = .ok (.string ⟨[UInt8.ofNat u.toNat, UInt8.ofNat v.toNat].toArray⟩) (wr.alloc (.cells #[.int .u8 u, .int .u8 v] 5)) :=
  run_convert_bytes_back (P := Tryd.prog) (wr.alloc (.cells #[.int .u8 u, .int .u8 v] 5)) 22 9 5 ⟨wr.heap.size, 0, none⟩ 2 [UInt8.ofNat u.toNat, UInt8.ofNat v.toNat] Tryd.underlying22 Tryd.underlying5 Tryd.underlying9 (by
    intro j hj
    have hj2 : j < 2 := hj
    have e : ((UInt8.ofNat u.toNat).toNat : Int) = u := by rw [UInt8.toNat_ofNat']; omega
    have e' : ((UInt8.ofNat v.toNat).toNat : Int) = v := by rw [UInt8.toNat_ofNat']; omega
    rcases (show j = 0 ∨ j = 1 by omega) with rfl | rfl
    · have e2 : ([UInt8.ofNat u.toNat, UInt8.ofNat v.toNat][0]'hj) = UInt8.ofNat u.toNat := rfl
      rw [e2, e]
      simp [Addr.add, go_sem]
    · have e2 : ([UInt8.ofNat u.toNat, UInt8.ofNat v.toNat][1]'hj) = UInt8.ofNat v.toNat := rfl
      rw [e2, e']
      simp [Addr.add, go_sem])
/-- The key number i. -/
def wkS (i : Nat) : ByteArray := ⟨[UInt8.ofNat (97 + i % 26), UInt8.ofNat (97 + i / 26)].toArray⟩
def κW (i : Nat) : Vl := ⟨4, 0, 0, wkS i, 0⟩
theorem wkS_size (i : Nat) : (wkS i).size = 2 := rfl
theorem wKeys : Keys κW (fun i => i < 2000) := by
  refine ⟨fun i _ => ⟨?_, ⟨by show (0 : Nat) < _; decide, by show (wkS i).size ≤ _; rw [wkS_size]; decide⟩⟩, fun i j hi hj h => ?_⟩
  · unfold keyB Vl.ok validB κW
    simp [fz_nil, wkS_size]
  · have h2 := toList_inj (like_flt h).2.1
    have h3 : [UInt8.ofNat (97 + i % 26), UInt8.ofNat (97 + i / 26)] = [UInt8.ofNat (97 + j % 26), UInt8.ofNat (97 + j / 26)] := h2
    injection h3 with e1 e2
    injection e2 with e2 _
    have e1 := congrArg UInt8.toNat e1
    have e2 := congrArg UInt8.toNat e2
    rw [UInt8.toNat_ofNat', UInt8.toNat_ofNat'] at e1 e2
    omega
set_option maxRecDepth 100000 in
set_option maxHeartbeats 1000000 in
theorem wKey_any (i : Nat) (hi : i < 2000) (w : World) : Calls Tryd.prog 10 #[.int .i64 i] w fun e w' => e = .returned (V (κW i).kind (κW i).num (κW i).flt (κW i).str (κW i).ref) ∧ Below w.heap.size w w' := by
  have hcv := conv_two (97 + (i : Int) % 26) (97 + (i : Int) / 26) (by omega) (by omega) (by omega) (by omega) (w.alloc (.cells #[.int .i64 0, .int .i64 0, .float .f64 0, .string ⟨#[]⟩, .int .i64 0] 32))
  rw [show (w.alloc (.cells #[.int .i64 0, .int .i64 0, .float .f64 0, .string ⟨#[]⟩, .int .i64 0] 32)).heap.size = w.heap.size + 1 by simp, show (97 + (i : Int) % 26).toNat = 97 + i % 26 by omega, show (97 + (i : Int) / 26).toNat = 97 + i / 26 by omega] at hcv
  have hws : (⟨[UInt8.ofNat (97 + i % 26), UInt8.ofNat (97 + i / 26)].toArray⟩ : ByteArray) = wkS i := rfl
  rw [hws] at hcv
  clear hws
  go_enter Tryd.func10, Tryd.ntmps10
  go_wp2
  refine bodyPost_ret (v := V 4 0 0 (wkS i) 0) (by simp [results, go_sem]) rfl ⟨rfl, ?_⟩
  exact ((Below.refl _ _).alloc (Nat.le_refl _) _).alloc (by simp) _
end Go.Proofs.YtglcaejddckleaaDoor
namespace Go.Proofs.YtglcaejddckleaaDoor
open Go.RowKit Go.Shelf
set_option linter.unusedVariables false
attribute [local go_sem] run_store_float run_equalIn_float Oper.semAt_some

/-- The pairs that have come. -/
def preF (d : Dc) (pre : List (Liv d)) (j : Nat) : Pr := d.L ((pre.map (·.1)).getD j 0)
theorem pL_congr {f g : Nat → Pr} {n : Nat} (h : ∀ j, j < n → f j = g j) : pL f n = pL g n := by
  induction n with
  | zero => rfl
  | succ n ih => show pL f n ++ prL (f n) = pL g n ++ prL (g n); rw [ih (fun j hj => h j (by omega)), h n (by omega)]
theorem preF_snoc (d : Dc) (pre : List (Liv d)) (x : Liv d) : pL (preF d pre) pre.length ++ prL (d.L x.1) = pL (preF d (pre ++ [x])) (pre.length + 1) := by
  show _ = pL (preF d (pre ++ [x])) pre.length ++ prL (preF d (pre ++ [x]) pre.length)
  rw [pL_congr (f := preF d (pre ++ [x])) (g := preF d pre) (fun j hj => by
    unfold preF
    rw [List.map_append, List.getD_eq_getElem?_getD, List.getD_eq_getElem?_getD, List.getElem?_append_left (by simpa using hj)])]
  congr 2
  unfold preF
  rw [List.map_append]
  simp [List.getD]
theorem preF_all {d : Dc} {pre : List (Liv d)} (h : pre.map (·.1) = livL d d.n) : preF d pre = lvF d := by
  funext j
  unfold preF lvF
  rw [h]

/-- Between two rounds. -/
def PrI (w u : World) (p n0 : Nat) (d : Dc) (pre : List (Liv d)) (W : World) : Prop :=
  ∃ v, W.rowIs p 25 1 (fun _ => v) ∧ POwn W n0 v pre.length (preF d pre) ∧ KpB p n0 u W ∧ Below w.heap.size w W
theorem PrI.own (w u : World) (p n0 D : Nat) (d : Dc) (hn : n0 ≤ D) (hu : n0 ≤ u.heap.size) (hw : w.heap.size ≤ D) : OwnFrom D (PrI w u p n0 d) := by
  rintro pre A B row ⟨v, h1, h2, h3, h4⟩ hg hr
  refine ⟨v, ?_, own_keptO h2 hg hr, ⟨Nat.le_trans h3.size hg.size, fun b hb hp => ?_⟩, h4.grown hg h4.size (fun k e => Nat.le_trans hw (hr k e).1)⟩
  · obtain ⟨c, hb, hc⟩ := h1
    exact World.rowIs.of_block ⟨c, hb, hc⟩ (kept_cells hb hg hr)
  · have hl : b < A.heap.size := Nat.lt_of_lt_of_le hb (Nat.le_trans hu h3.size)
    exact (hg.block b hl (fun e => by have := (hr b e.symm).1; omega)).trans (h3.block b hb hp)

theorem grown_fromP {W w3 : World} {o : Obj} {row : Option Nat} (h : (W.drew.alloc o).grownBy w3 row) : W.grownBy w3 row :=
  ⟨h.os, h.tape, h.output, by have := h.size; simp at this; omega, fun b hb hr => (h.block b (by simp; omega) hr).trans (Deep.blk_alloc_lt _ _ _ hb)⟩

set_option maxRecDepth 100000 in
set_option maxHeartbeats 4000000 in
theorem implPairs (la : Option Addr) (lc : Nat) (ia : Option Addr) (ic : Nat) (xa : Option Addr) (xc : Nat) (d : Dc) (w : World) (hT : Tabs w) (hA : DAt w la ia xa d) (hS : Small d) (hW : WfD d) :
    Calls Tryd.prog 11 #[Dv la lc ia ic xa xc d] w fun e w' => (∃ v, e = .returned v ∧ POwn w' w.heap.size v (prsN d) (lvF d)) ∧ Below w.heap.size w w' := by
  obtain ⟨i0, hi0, hz0, hz1, hz2⟩ := info_parts infoPair
  have hdn := hS.n
  have HA := hide hA
  have HS := hide hS
  have HW := hide hW
  have HT := hide hT
  clear hA hS hW hT
  have hb0 : Below w.heap.size w (w.alloc (.cells #[.slice la d.n lc, .slice ia d.m ic, .slice xa d.x xc, .int .i64 d.used, .int .i64 d.live, .int .i64 d.turns] 28)) := (Below.refl _ _).alloc (Nat.le_refl _) _
  have HB0 := hide hb0
  clear hb0
  refine (callsIn_wide (n := 20)).1 ?_
  refine callsIn_of_wp_marks Tryd.func11 rfl trivial ?_ rfl
  simp only [Tryd.ntmps11, List.size_toArray, List.length_cons, List.length_nil, Nat.reduceAdd, Nat.reduceSub, Array.replicate_succ, Array.replicate_zero, List.push_toArray, List.append_toArray, List.nil_append, List.cons_append]
  gi_wp2_with fail
  refine ⟨trivial, ?_⟩
  refine (callsIn_wide.2 (implOk la lc ia ic xa xc d _ (lastsT _ _ (unhide HT) (unhide HB0)) ((unhide HA).below (unhide HB0)) (unhide HS) (unhide HW))).mono ?_
  rintro e w1 ⟨rfl, hb1⟩
  obtain ⟨hc1, hf1⟩ := bcell hb1
  have hz1' := hb1.size
  simp at hz1'
  have y0 : w.heap.size < w1.heap.size := by omega
  have q0 : w1.cell? ⟨w.heap.size, 0, none⟩ = some (.slice la d.n lc) := by rw [hc1 _ _ (by simp)]; simp [go_sem]
  have q1 : w1.cell? ⟨w.heap.size, 1, none⟩ = some (.slice ia d.m ic) := by rw [hc1 _ _ (by simp)]; simp [go_sem]
  have q2 : w1.cell? ⟨w.heap.size, 2, none⟩ = some (.slice xa d.x xc) := by rw [hc1 _ _ (by simp)]; simp [go_sem]
  have q3 : w1.cell? ⟨w.heap.size, 3, none⟩ = some (.int .i64 d.used) := by rw [hc1 _ _ (by simp)]; simp [go_sem]
  have q4 : w1.cell? ⟨w.heap.size, 4, none⟩ = some (.int .i64 d.live) := by rw [hc1 _ _ (by simp)]; simp [go_sem]
  have q5 : w1.cell? ⟨w.heap.size, 5, none⟩ = some (.int .i64 d.turns) := by rw [hc1 _ _ (by simp)]; simp [go_sem]
  have HB1 := hide ((unhide HB0).trans (hb1.mono (unhide HB0).size))
  clear hb1 hc1 hf1 hz1'
  by_cases hk : dictOk d (hD d) = 0
  case neg =>
    have HR : Hid (prsN d = 0) := hide (if_neg hk)
    have hk' : (dictOk d (hD d) != 0) = true := by simp [hk]
    clear hk
    generalize dictOk d (hD d) = ok at hk'
    gi_wp2
    refine ⟨.slice none 0 0, ?_, ⟨_, rfl, by rw [unhide HR]; exact World.ownsRow_nil _ _ _ _⟩, unhide HB1⟩
    simp [results, Tryd.f11]
  have HR : Hid (prsN d = lvN d) := hide (if_pos hk)
  have HSd := hide (sound_of hk)
  rw [hk]
  clear hk
  have HBs : Hid (∀ o, Below w.heap.size w (w1.alloc o)) := hide (fun o => (unhide HB1).alloc (by omega) _)
  gi_wp2_with fail
  refine ⟨trivial, ?_⟩
  refine (callsIn_wide.2 (openBook_any la lc ia ic xa xc d _ ((unhide HA).below (unhide HBs _)) (unhide HS) (unhide HSd).d3 (unhide HSd).d4)).mono ?_
  rintro e w2 ⟨⟨bk, R0, R1, R2, E, S, rfl, hBk⟩, hb2⟩
  have hz2' := hb2.size
  simp at hz2'
  have yp : w1.heap.size < w2.heap.size := by omega
  have hp2 : w2.rowIs w1.heap.size 25 1 (fun _ => .slice none 0 0) := World.rowIs.of_block (World.rowIs_alloc w1 #[.slice none 0 0] 25 (fun _ => .slice none 0 0) (fun i hi => by
      have : i = 0 := by simpa using hi
      subst this
      rfl)) (hb2.block _ (by simp))
  have HB2 := hide ((unhide HBs _).trans (hb2.mono (unhide HBs _).size))
  have HBk := hide hBk
  have HP2 := hide hp2
  clear hb2 hBk hp2
  gi_wp2_with fail
  refine ⟨trivial, ?_⟩
  refine (callsIn_wide.2 (living_any bk _)).mono ?_
  rintro e w4 ⟨rfl, rfl⟩
  gi_wp2_with fail
  obtain ⟨u, hu⟩ : ∃ u, u = w2.alloc (.cells #[.pointer (some ⟨bk, 0, none⟩)] 42) := ⟨_, rfl⟩
  rw [← hu]
  have zu : u.heap.size = w2.heap.size + 1 := by rw [hu]; simp
  have b2u : Below w2.heap.size w2 u := by rw [hu]; exact (Below.refl _ _).alloc (Nat.le_refl _) _
  have mb0 : u.cell? ⟨w2.heap.size, 0, none⟩ = some (.pointer (some ⟨bk, 0, none⟩)) := by rw [hu]; simp [go_sem]
  clear hu
  have hBu := (unhide HBk).below b2u
  have hpu : u.rowIs w1.heap.size 25 1 (fun _ => .slice none 0 0) := (unhide HP2).of_block (b2u.block _ yp)
  have bwu : Below w.heap.size w u := (unhide HB2).trans (b2u.mono (unhide HB2).size)
  have ypu : w1.heap.size < u.heap.size := by omega
  have c0u : u.cell? ⟨w1.heap.size, 0, none⟩ = some (.slice none 0 0) := hpu.cell (i := 0) (by omega)
  have hRp : 0 < d.n → R0 < u.heap.size ∧ R0 ≠ w1.heap.size := fun h0 => ⟨hBu.l0, fun e => by
    have := hBu.r0 0 h0
    rw [e, c0u] at this
    cases this⟩
  have hEp : ∀ i, i < d.n → E i < u.heap.size ∧ E i ≠ w1.heap.size := fun i hi => ⟨(hBu.ent i hi).lt, fun e => by
    have := (hBu.ent i hi).k0
    rw [e, c0u] at this
    cases this⟩
  have hwu : w.heap.size ≤ u.heap.size := bwu.size
  clear zu HBk b2u q0 q1 q2 q3 q4 q5 c0u
  refine wpIn_rangeFunc_ownF rfl (by decide) (gf := 36) (lb := #[.pointer (some ⟨w2.heap.size, 0, none⟩)]) rfl trivial (enters_of Tryd.func36 (by kernel_rfl) rfl)
    (living_stopsP 19 (by decide) bk R0 R1 R2 w2.heap.size w1.heap.size u.heap.size E S d u hBu (unhide HS) hRp hEp mb0) KpB.trans (KpB.put (Nat.le_refl _)) (Below.refl _ _) (fun _ => rfl)
    (PrI w u w1.heap.size u.heap.size d)
    (fun c pre W => False)
    (PrI.own w u w1.heap.size u.heap.size u.heap.size d (Nat.le_refl _) (Nat.le_refl _) hwu)
    (fun c _ _ _ _ h => h.elim)
    ⟨.slice none 0 0, hpu, World.ownsRow_nil _ _ _ _, KpB.refl _ _ _, bwu⟩
    ?a1 ?assign ?body ?done ?stop
  case assign =>
    intro l x W K hK
    gi_wp2
    exact hK
  case body =>
    rintro l pre ⟨i, hi, ht⟩ W ⟨v, hp, hown, hkp, hbw⟩ hlen
    have hblk := hkp.block (E i) (hEp i hi).1 (hEp i hi).2
    obtain ⟨hel, k0, k1, k2, k3, k4, v0, v1, v2, v3, v4, tn, _, _⟩ := (hBu.ent i hi).keep hkp.size hblk
    have x0 := hp.cell (i := 0) (by omega)
    have fx := hp.frozen 0
    have hpl := hp.lt
    have hln := hown.lt
    have HOW := hide hown
    have HKP := hide hkp
    have HBW := hide hbw
    have HP := hide hp
    have hpre : pre.length ≤ d.n := by omega
    have hWs : u.heap.size ≤ W.heap.size := (unhide HKP).size
    have HOWd : Hid (POwn W.drew u.heap.size v pre.length (preF d pre)) := hide (unhide HOW).drew
    have HSN := hide (preF_snoc d pre ⟨i, hi, ht⟩)
    have HAPP : Hid (∀ (g3 cp3 : Nat) (w3 : World), w3.ownsRow u.heap.size 55 11 (.slice (some ⟨g3, 0, none⟩) (pre.length + 1) cp3) (pre.length + 1) (pL (preF d pre) pre.length ++ prL (d.L i)) → W.grownBy w3 v.ownBlock → (w3.cell? ⟨w1.heap.size, 0, none⟩ = some v ∧ w3.frozen? ⟨w1.heap.size, 0, none⟩ = false) ∧ KeepsOthers W (w3.setCell ⟨w1.heap.size, 0, none⟩ (.slice (some ⟨g3, 0, none⟩) (pre.length + 1) cp3)) ∧ KpB w1.heap.size u.heap.size W (w3.setCell ⟨w1.heap.size, 0, none⟩ (.slice (some ⟨g3, 0, none⟩) (pre.length + 1) cp3)) ∧
        PrI w u w1.heap.size u.heap.size d (pre ++ [⟨i, hi, ht⟩]) (w3.setCell ⟨w1.heap.size, 0, none⟩ (.slice (some ⟨g3, 0, none⟩) (pre.length + 1) cp3))) := hide (fun g3 cp3 w3 h1 h2 => by
      have hp1 : w3.rowIs w1.heap.size 25 1 (fun _ => v) := (unhide HP).of_block (h2.block _ hpl (fun e => by have := ((unhide HOW).lt _ e.symm).1; omega))
      have hg3 := (World.ownsRow.lt h1 g3 rfl).1
      have hkp : KpB w1.heap.size u.heap.size W (w3.setCell ⟨w1.heap.size, 0, none⟩ (.slice (some ⟨g3, 0, none⟩) (pre.length + 1) cp3)) := ⟨by simpa using h2.size, fun b h1 h2' => (Deep.blk_setCell_other _ _ _ _ (by exact h2')).trans (h2.block b (by omega) (fun e => by have := ((unhide HOW).lt _ e.symm).1; omega))⟩
      have hko : KeepsOthers W w3 := ⟨h2.size, fun k o hk hc => (h2.block k (Array.getElem?_eq_some_iff.1 hk).1 (fun e => by
        obtain ⟨_, ⟨hv, _⟩ | ⟨g, cap, cur, hv, hb, hblk, _⟩⟩ := unhide HOW
        · rw [hv] at e; cases e
        · rw [hv] at e
          have e' : k = g := by simpa [Value.ownBlock] using e
          rw [e', hblk] at hk
          cases hk
          cases hc)).trans hk⟩
      refine ⟨⟨hp1.cell (i := 0) (by omega), hp1.frozen 0⟩, hko.trans (KeepsOthers.setCell _ _ _), hkp, .slice (some ⟨g3, 0, none⟩) (pre.length + 1) cp3, (hp1.set 0 _).congr (fun q hq => by simp [show q = 0 by omega]), ?_, (unhide HKP).trans hkp, ?_⟩
      · have hl : (pre ++ [⟨i, hi, ht⟩] : List (Liv d)).length = pre.length + 1 := by simp
        rw [hl]
        refine World.ownsRow.kept (w := w3) ?_ (grown_setCell w3 _ _) (.inr (by simp [Value.ownBlock]; omega))
        rw [unhide HSN] at h1
        exact h1
      · exact ((unhide HBW).grown h2 (unhide HBW).size (fun k e => by have := ((unhide HOW).lt _ e).1; omega)).setCell (by show w.heap.size ≤ w1.heap.size; omega) _)
    clear hblk hown hkp hbw hp mb0
    gi_wp2
    refine wpIn_region_any (by kernel_rfl) ?_
    change wpAnyIn _ _ _ _ _ _ _ _ _ (World.drew _)
    refine wpAnyIn_ready (rs := [0, 1]) (by kernel_rfl) (by simp) ?_
    refine AllReadyIn.cons rfl (fun K hK => ?_) (AllReadyIn.cons rfl (fun K hK => ?_) AllReadyIn.nil)
    · go_simp
      refine hK _ _ ?_
      clear hK K
      refine wpAnyIn_ready (rs := [1]) (by kernel_rfl) (by simp) ?_
      refine AllReadyIn.cons rfl (fun K hK => ?_) AllReadyIn.nil
      go_simp
      refine hK _ _ ?_
      clear hK K
      refine wpAnyIn_ready (rs := [2]) (by kernel_rfl) (by simp) ?_
      refine AllReadyIn.cons rfl (fun K hK => ?_) AllReadyIn.nil
      go_simp
      refine hK _ _ ?_
      clear hK K
      refine wpAnyIn_ready (rs := [3]) (by kernel_rfl) (by simp) ?_
      refine AllReadyIn.cons rfl (fun K hK => ?_) AllReadyIn.nil
      go_simp
      refine hK _ _ ?_
      clear hK K
      refine wpAnyIn_ready (rs := [4]) (by kernel_rfl) (by simp) ?_
      refine AllReadyIn.cons rfl (fun K hK => ?_) AllReadyIn.nil
      go_simp
      refine hK _ _ ?_
      clear hK K
      refine wpAnyIn_ready (rs := [5]) (by kernel_rfl) (by simp) ?_
      refine AllReadyIn.cons rfl (fun K hK => ?_) AllReadyIn.nil
      go_simp
      refine hK _ _ ?_
      clear hK K
      refine wpAnyIn_ready (rs := [6]) (by kernel_rfl) (by simp) ?_
      refine AllReadyIn.cons rfl (fun K hK => ?_) AllReadyIn.nil
      rw [if_pos (by rfl)]
      refine wpIn_append_lies _ (.tmp 12) (.tmp 17) 25 rfl u.heap.size 55 i0 PZ 11 104 Tryd.underlying25 hi0 hz0 hz1 hz2 rfl (by decide) v pre.length (pL (preF d pre) pre.length) (by simp [Act.eval]) ((unhide HOWd).alloc _) ⟨W.heap.size, 0, none⟩ 1 1 (prL (d.L i)) (by simp [Act.eval]) rfl (World.news_of_block (Deep.blk_alloc_new _ _)) (prL_one _) (by decide) (by unfold maxLen; omega) (by omega) (by simp; omega) _ rfl ?_
      intro g3 cp3 w3 hown3 hgr3 hloc3 hlt3
      obtain ⟨⟨x3, f3⟩, HN3⟩ := unhide HAPP g3 cp3 w3 hown3 (grown_fromP hgr3)
      clear hown3 hgr3 hloc3
      refine hK _ _ ?_
      clear hK K
      refine wpAnyIn_ready (rs := [7]) (by kernel_rfl) (by simp) ?_
      refine AllReadyIn.cons rfl (fun K hK => ?_) AllReadyIn.nil
      go_simp
      refine hK _ _ ?_
      clear hK K
      refine wpAnyIn_done (by kernel_rfl) ?_ _
      gi_wp2
      exact HN3
    · go_simp
      refine hK _ _ ?_
      clear hK K
      refine wpAnyIn_ready (rs := [0, 2]) (by kernel_rfl) (by simp) ?_
      refine AllReadyIn.cons rfl (fun K hK => ?_) (AllReadyIn.cons rfl (fun K hK => ?_) AllReadyIn.nil)
      · go_simp
        refine hK _ _ ?_
        clear hK K
        refine wpAnyIn_ready (rs := [2]) (by kernel_rfl) (by simp) ?_
        refine AllReadyIn.cons rfl (fun K hK => ?_) AllReadyIn.nil
        go_simp
        refine hK _ _ ?_
        clear hK K
        refine wpAnyIn_ready (rs := [3]) (by kernel_rfl) (by simp) ?_
        refine AllReadyIn.cons rfl (fun K hK => ?_) AllReadyIn.nil
        go_simp
        refine hK _ _ ?_
        clear hK K
        refine wpAnyIn_ready (rs := [4]) (by kernel_rfl) (by simp) ?_
        refine AllReadyIn.cons rfl (fun K hK => ?_) AllReadyIn.nil
        go_simp
        refine hK _ _ ?_
        clear hK K
        refine wpAnyIn_ready (rs := [5]) (by kernel_rfl) (by simp) ?_
        refine AllReadyIn.cons rfl (fun K hK => ?_) AllReadyIn.nil
        go_simp
        refine hK _ _ ?_
        clear hK K
        refine wpAnyIn_ready (rs := [6]) (by kernel_rfl) (by simp) ?_
        refine AllReadyIn.cons rfl (fun K hK => ?_) AllReadyIn.nil
        rw [if_pos (by rfl)]
        refine wpIn_append_lies _ (.tmp 12) (.tmp 17) 25 rfl u.heap.size 55 i0 PZ 11 104 Tryd.underlying25 hi0 hz0 hz1 hz2 rfl (by decide) v pre.length (pL (preF d pre) pre.length) (by simp [Act.eval]) ((unhide HOWd).alloc _) ⟨W.heap.size, 0, none⟩ 1 1 (prL (d.L i)) (by simp [Act.eval]) rfl (World.news_of_block (Deep.blk_alloc_new _ _)) (prL_one _) (by decide) (by unfold maxLen; omega) (by omega) (by simp; omega) _ rfl ?_
        intro g3 cp3 w3 hown3 hgr3 hloc3 hlt3
        obtain ⟨⟨x3, f3⟩, HN3⟩ := unhide HAPP g3 cp3 w3 hown3 (grown_fromP hgr3)
        clear hown3 hgr3 hloc3
        refine hK _ _ ?_
        clear hK K
        refine wpAnyIn_ready (rs := [7]) (by kernel_rfl) (by simp) ?_
        refine AllReadyIn.cons rfl (fun K hK => ?_) AllReadyIn.nil
        go_simp
        refine hK _ _ ?_
        clear hK K
        refine wpAnyIn_done (by kernel_rfl) ?_ _
        gi_wp2
        exact HN3
      · go_simp
        refine hK _ _ ?_
        clear hK K
        refine wpAnyIn_ready (rs := [0, 3]) (by kernel_rfl) (by simp) ?_
        refine AllReadyIn.cons rfl (fun K hK => ?_) (AllReadyIn.cons rfl (fun K hK => ?_) AllReadyIn.nil)
        · go_simp
          refine hK _ _ ?_
          clear hK K
          refine wpAnyIn_ready (rs := [3]) (by kernel_rfl) (by simp) ?_
          refine AllReadyIn.cons rfl (fun K hK => ?_) AllReadyIn.nil
          go_simp
          refine hK _ _ ?_
          clear hK K
          refine wpAnyIn_ready (rs := [4]) (by kernel_rfl) (by simp) ?_
          refine AllReadyIn.cons rfl (fun K hK => ?_) AllReadyIn.nil
          go_simp
          refine hK _ _ ?_
          clear hK K
          refine wpAnyIn_ready (rs := [5]) (by kernel_rfl) (by simp) ?_
          refine AllReadyIn.cons rfl (fun K hK => ?_) AllReadyIn.nil
          go_simp
          refine hK _ _ ?_
          clear hK K
          refine wpAnyIn_ready (rs := [6]) (by kernel_rfl) (by simp) ?_
          refine AllReadyIn.cons rfl (fun K hK => ?_) AllReadyIn.nil
          rw [if_pos (by rfl)]
          refine wpIn_append_lies _ (.tmp 12) (.tmp 17) 25 rfl u.heap.size 55 i0 PZ 11 104 Tryd.underlying25 hi0 hz0 hz1 hz2 rfl (by decide) v pre.length (pL (preF d pre) pre.length) (by simp [Act.eval]) ((unhide HOWd).alloc _) ⟨W.heap.size, 0, none⟩ 1 1 (prL (d.L i)) (by simp [Act.eval]) rfl (World.news_of_block (Deep.blk_alloc_new _ _)) (prL_one _) (by decide) (by unfold maxLen; omega) (by omega) (by simp; omega) _ rfl ?_
          intro g3 cp3 w3 hown3 hgr3 hloc3 hlt3
          obtain ⟨⟨x3, f3⟩, HN3⟩ := unhide HAPP g3 cp3 w3 hown3 (grown_fromP hgr3)
          clear hown3 hgr3 hloc3
          refine hK _ _ ?_
          clear hK K
          refine wpAnyIn_ready (rs := [7]) (by kernel_rfl) (by simp) ?_
          refine AllReadyIn.cons rfl (fun K hK => ?_) AllReadyIn.nil
          go_simp
          refine hK _ _ ?_
          clear hK K
          refine wpAnyIn_done (by kernel_rfl) ?_ _
          gi_wp2
          exact HN3
        · go_simp
          refine hK _ _ ?_
          clear hK K
          refine wpAnyIn_ready (rs := [0, 4]) (by kernel_rfl) (by simp) ?_
          refine AllReadyIn.cons rfl (fun K hK => ?_) (AllReadyIn.cons rfl (fun K hK => ?_) AllReadyIn.nil)
          · go_simp
            refine hK _ _ ?_
            clear hK K
            refine wpAnyIn_ready (rs := [4]) (by kernel_rfl) (by simp) ?_
            refine AllReadyIn.cons rfl (fun K hK => ?_) AllReadyIn.nil
            go_simp
            refine hK _ _ ?_
            clear hK K
            refine wpAnyIn_ready (rs := [5]) (by kernel_rfl) (by simp) ?_
            refine AllReadyIn.cons rfl (fun K hK => ?_) AllReadyIn.nil
            go_simp
            refine hK _ _ ?_
            clear hK K
            refine wpAnyIn_ready (rs := [6]) (by kernel_rfl) (by simp) ?_
            refine AllReadyIn.cons rfl (fun K hK => ?_) AllReadyIn.nil
            rw [if_pos (by rfl)]
            refine wpIn_append_lies _ (.tmp 12) (.tmp 17) 25 rfl u.heap.size 55 i0 PZ 11 104 Tryd.underlying25 hi0 hz0 hz1 hz2 rfl (by decide) v pre.length (pL (preF d pre) pre.length) (by simp [Act.eval]) ((unhide HOWd).alloc _) ⟨W.heap.size, 0, none⟩ 1 1 (prL (d.L i)) (by simp [Act.eval]) rfl (World.news_of_block (Deep.blk_alloc_new _ _)) (prL_one _) (by decide) (by unfold maxLen; omega) (by omega) (by simp; omega) _ rfl ?_
            intro g3 cp3 w3 hown3 hgr3 hloc3 hlt3
            obtain ⟨⟨x3, f3⟩, HN3⟩ := unhide HAPP g3 cp3 w3 hown3 (grown_fromP hgr3)
            clear hown3 hgr3 hloc3
            refine hK _ _ ?_
            clear hK K
            refine wpAnyIn_ready (rs := [7]) (by kernel_rfl) (by simp) ?_
            refine AllReadyIn.cons rfl (fun K hK => ?_) AllReadyIn.nil
            go_simp
            refine hK _ _ ?_
            clear hK K
            refine wpAnyIn_done (by kernel_rfl) ?_ _
            gi_wp2
            exact HN3
          · go_simp
            refine hK _ _ ?_
            clear hK K
            refine wpAnyIn_ready (rs := [0, 5]) (by kernel_rfl) (by simp) ?_
            refine AllReadyIn.cons rfl (fun K hK => ?_) (AllReadyIn.cons rfl (fun K hK => ?_) AllReadyIn.nil)
            · go_simp
              refine hK _ _ ?_
              clear hK K
              refine wpAnyIn_ready (rs := [5]) (by kernel_rfl) (by simp) ?_
              refine AllReadyIn.cons rfl (fun K hK => ?_) AllReadyIn.nil
              go_simp
              refine hK _ _ ?_
              clear hK K
              refine wpAnyIn_ready (rs := [6]) (by kernel_rfl) (by simp) ?_
              refine AllReadyIn.cons rfl (fun K hK => ?_) AllReadyIn.nil
              rw [if_pos (by rfl)]
              refine wpIn_append_lies _ (.tmp 12) (.tmp 17) 25 rfl u.heap.size 55 i0 PZ 11 104 Tryd.underlying25 hi0 hz0 hz1 hz2 rfl (by decide) v pre.length (pL (preF d pre) pre.length) (by simp [Act.eval]) ((unhide HOWd).alloc _) ⟨W.heap.size, 0, none⟩ 1 1 (prL (d.L i)) (by simp [Act.eval]) rfl (World.news_of_block (Deep.blk_alloc_new _ _)) (prL_one _) (by decide) (by unfold maxLen; omega) (by omega) (by simp; omega) _ rfl ?_
              intro g3 cp3 w3 hown3 hgr3 hloc3 hlt3
              obtain ⟨⟨x3, f3⟩, HN3⟩ := unhide HAPP g3 cp3 w3 hown3 (grown_fromP hgr3)
              clear hown3 hgr3 hloc3
              refine hK _ _ ?_
              clear hK K
              refine wpAnyIn_ready (rs := [7]) (by kernel_rfl) (by simp) ?_
              refine AllReadyIn.cons rfl (fun K hK => ?_) AllReadyIn.nil
              go_simp
              refine hK _ _ ?_
              clear hK K
              refine wpAnyIn_done (by kernel_rfl) ?_ _
              gi_wp2
              exact HN3
            · go_simp
              refine hK _ _ ?_
              clear hK K
              refine wpAnyIn_ready (rs := [0]) (by kernel_rfl) (by simp) ?_
              refine AllReadyIn.cons rfl (fun K hK => ?_) AllReadyIn.nil
              go_simp
              refine hK _ _ ?_
              clear hK K
              refine wpAnyIn_ready (rs := [6]) (by kernel_rfl) (by simp) ?_
              refine AllReadyIn.cons rfl (fun K hK => ?_) AllReadyIn.nil
              rw [if_pos (by rfl)]
              refine wpIn_append_lies _ (.tmp 12) (.tmp 17) 25 rfl u.heap.size 55 i0 PZ 11 104 Tryd.underlying25 hi0 hz0 hz1 hz2 rfl (by decide) v pre.length (pL (preF d pre) pre.length) (by simp [Act.eval]) ((unhide HOWd).alloc _) ⟨W.heap.size, 0, none⟩ 1 1 (prL (d.L i)) (by simp [Act.eval]) rfl (World.news_of_block (Deep.blk_alloc_new _ _)) (prL_one _) (by decide) (by unfold maxLen; omega) (by omega) (by simp; omega) _ rfl ?_
              intro g3 cp3 w3 hown3 hgr3 hloc3 hlt3
              obtain ⟨⟨x3, f3⟩, HN3⟩ := unhide HAPP g3 cp3 w3 hown3 (grown_fromP hgr3)
              clear hown3 hgr3 hloc3
              refine hK _ _ ?_
              clear hK K
              refine wpAnyIn_ready (rs := [7]) (by kernel_rfl) (by simp) ?_
              refine AllReadyIn.cons rfl (fun K hK => ?_) AllReadyIn.nil
              go_simp
              refine hK _ _ ?_
              clear hK K
              refine wpAnyIn_done (by kernel_rfl) ?_ _
              gi_wp2
              exact HN3
  case done =>
    rintro D ys W hD hlv ⟨v, hp, hown, hkp, hbw⟩ hK
    have hlv' : ys.map (·.1) = livL d d.n := hlv
    have hlen : ys.length = lvN d := by have := congrArg List.length hlv'; rwa [List.length_map] at this
    have hpre := preF_all hlv'
    rw [hlen, hpre] at hown
    have x0 := hp.cell (i := 0) (by omega)
    have HOW := hide hown
    have HBW := hide hbw
    have hpl := hp.lt
    clear hlv hlv' hlen hpre hp hown hkp hbw
    gi_wp2
    refine ⟨by simp, .inl ⟨_, _, rfl, run_takeDeferred hK, ?_⟩⟩
    refine ⟨v, ?_, ⟨v, rfl, ?_⟩, (unhide HBW).trans (belowK_b (w := w) (Nat.le_refl _) W D _ _ (by omega) hK rfl rfl)⟩
    · simp [results, Tryd.f11]
    · rw [unhide HR]
      exact own_mono (own_keptO (D := D) (unhide HOW) (grownBy_putObj' W D (.deferred none)) (fun r e => by cases e; exact ⟨Nat.le_refl _, _, hK, rfl⟩)) hwu
  case stop =>
    rintro D c pre W hD hpre h hK
    exact h.elim
end Go.Proofs.YtglcaejddckleaaDoor
namespace Go.Proofs.YtglcaejddckleaaDoor
open Go.RowKit Go.Shelf
set_option linter.unusedVariables false
attribute [local go_sem] run_store_float run_equalIn_float

/-- How many are not gone. -/
def ng (g : Nat → Bool) : Nat → Nat
  | 0 => 0
  | k + 1 => ng g k + (if g k = true then 0 else 1)
theorem ng_all : ∀ k, ng (fun _ => false) k = k
  | 0 => rfl
  | k + 1 => by
    show ng (fun _ => false) k + 1 = k + 1
    rw [ng_all k]
theorem ng_le (g : Nat → Bool) : ∀ k, ng g k ≤ k
  | 0 => Nat.le_refl _
  | k + 1 => by
    show ng g k + (if g k = true then 0 else 1) ≤ k + 1
    have := ng_le g k
    split <;> omega
theorem ng_put (g : Nat → Bool) (q : Nat) : ∀ k, ng (upd g q true) k + (if q < k ∧ g q = false then 1 else 0) = ng g k
  | 0 => by rw [if_neg (by omega)]; rfl
  | k + 1 => by
    have ih := ng_put g q k
    show ng (upd g q true) k + (if upd g q true k = true then 0 else 1) + _ = ng g k + (if g k = true then 0 else 1)
    by_cases e : k = q
    · subst e
      rw [upd_same]
      rw [if_neg (fun h => by omega)] at ih
      cases hg : g k
      · simp
        omega
      · simp
        omega
    · rw [upd_other _ _ e]
      by_cases h : q < k ∧ g q = false
      · rw [if_pos h] at ih
        have e1 : (if q < k + 1 ∧ g q = false then 1 else 0) = 1 := if_pos ⟨by omega, h.2⟩
        rw [e1]
        omega
      · rw [if_neg h] at ih
        have e1 : (if q < k + 1 ∧ g q = false then 1 else 0) = 0 := if_neg (fun h' => h ⟨by omega, h'.2⟩)
        rw [e1]
        omega
/-- A put whose answer is stored, with another row that is written beside it. -/
theorem DX.putG {w : World} {b G : Nat} {la : Option Addr} {lc : Nat} {ia : Option Addr} {ic : Nat} {xa : Option Addr} {xc : Nat} {d : Dc} (h : DX w b la lc ia ic xa xc d) (hG : G < w.heap.size) (hGb : b < G) (hm : d.m ≤ 4000000) {k v : Vl} (hk : Ky k) (hv : v.ok = true) (hvw : Wf v) (hB : 4 ≤ b) :
    Calls Tryd.prog 7 #[Dv la lc ia ic xa xc d, V k.kind k.num k.flt k.str k.ref, V v.kind v.num v.flt v.str v.ref] w fun e w' => (∃ la lc ia ic xa xc, e = .returned (Dv la lc ia ic xa xc (putD hN d k v)) ∧ (∀ W', Bt G (set6 w' b (.slice la (putD hN d k v).n lc) (.slice ia (putD hN d k v).m ic) (.slice xa (putD hN d k v).x xc) (putD hN d k v)) W' → DX W' b la lc ia ic xa xc (putD hN d k v)) ∧ (putD hN d k v).m ≤ d.m + 4002) ∧ Below w.heap.size w w' := by
  refine (implPut la lc ia ic xa xc d k v 0 k w h.t h.at' (h.inv.small (by omega)) h.wf hm (keyV_of hk) (fun _ => hk)).mono ?_
  rintro e w' ⟨⟨u0, u1, u2, rfl, hDV⟩, hb⟩
  have he : putO d 0 k v = putD hN d k v := if_pos ⟨ok_zero h.inv, rfl, hv⟩
  rw [he] at hDV ⊢
  obtain ⟨la', lc', ia', ic', xa', xc', rfl, rfl, rfl, hX⟩ := h.store hb hDV (putD_inv keyLaw h.inv hk hk.1 hv) (h.wf.put hk.2 hvw) hB
  refine ⟨⟨la', lc', ia', ic', xa', xc', rfl, fun W' hW' => ?_, putD_m keyLaw h.inv hk⟩, hb⟩
  have hs6 : (set6 w' b (.slice la' (putD hN d k v).n lc') (.slice ia' (putD hN d k v).m ic') (.slice xa' (putD hN d k v).x xc') (putD hN d k v)).heap.size = w'.heap.size := set6_size
  have hlt := hX.lt
  have hblk := hW'.block b hlt (by omega)
  have cb : ∀ o, W'.cell? ⟨b, o, none⟩ = (set6 w' b (.slice la' (putD hN d k v).n lc') (.slice ia' (putD hN d k v).m ic') (.slice xa' (putD hN d k v).x xc') (putD hN d k v)).cell? ⟨b, o, none⟩ := fun o => World.cell?_of_block hblk
  have fb : ∀ o, W'.frozen? ⟨b, o, none⟩ = (set6 w' b (.slice la' (putD hN d k v).n lc') (.slice ia' (putD hN d k v).m ic') (.slice xa' (putD hN d k v).x xc') (putD hN d k v)).frozen? ⟨b, o, none⟩ := fun o => World.frozen?_of_block hblk
  have hDV' : DV (putD hN d k v) W' (.slice la' (putD hN d k v).n lc') (.slice ia' (putD hN d k v).m ic') (.slice xa' (putD hN d k v).x xc') w.heap.size w'.heap.size := hDV.keep (fun q h1 h2 => (hW'.block q (by rw [hs6]; exact h2) (by omega)).trans (set6_other (by have := h.lt; omega)))
  obtain ⟨ra, rc, sa, sc, ta, tc, e0, e1, e2, hA⟩ := hDV'.at
  cases e0; cases e1; cases e2
  exact ⟨Nat.lt_of_lt_of_le hlt hW'.size, (cb _).trans hX.c0, (cb _).trans hX.c1, (cb _).trans hX.c2, (cb _).trans hX.c3, (cb _).trans hX.c4, (cb _).trans hX.c5, fun o => (fb o).trans (hX.fz o), hA, hX.t.below (hW'.below (by omega) (by rw [hs6]; have := hb.size; omega)) hB, hX.inv, hX.wf⟩
theorem infoBool : (Tryd.prog.info? 4).map (fun i => (i.zero, i.size, i.bytes)) = some (some (.bool false), 1, 1) := by kernel_rfl
theorem make_bools (n : Nat) (hn : n ≤ 4194304) (w : World) :
    (Instr.makeSlice 36 (.int .i64 (n : Int)) (.int .i64 (n : Int))).run Tryd.prog w = .ok (.slice (some ⟨w.heap.size, 0, none⟩) n n) (w.alloc (.cells (madeCells #[Value.bool false] n) 4)) :=
  run_make_row' (P := Tryd.prog) 36 4 (.bool false) 1 Tryd.underlying36 infoBool rfl .i64 .i64 n (by omega) (by omega) w
/-- The dict of the law behind i puts. -/
structure Ta (w0 w : World) (b : Nat) (la : Option Addr) (lc : Nat) (ia : Option Addr) (ic : Nat) (xa : Option Addr) (xc : Nat) (d : Dc) (i : Nat) : Prop where
  x : DX w b la lc ia ic xa xc d
  keys : KeysAre κW d (fun j => j < i)
  live : d.live = i
  turns : d.turns = i
  m : d.m ≤ 4002 * i
  bel : Below w0.heap.size w0 w
/-- The dict of the law behind N puts and i takings away. -/
structure Tb (w0 w : World) (b G : Nat) (la : Option Addr) (lc : Nat) (ia : Option Addr) (ic : Nat) (xa : Option Addr) (xc : Nat) (d : Dc) (g : Nat → Bool) (N i : Nat) : Prop where
  x : ∀ W', Bt G w W' → DX W' b la lc ia ic xa xc d
  keys : KeysAre κW d (fun j => j < N ∧ g j = false)
  live : d.live = (ng g N : Int)
  turns : d.turns = N
  m : d.m ≤ 4002 * (N + i)
  row : w.rowIs G 4 N (fun j => .bool (g j))
  bel : Below w0.heap.size w0 w

set_option maxRecDepth 100000 in
set_option maxHeartbeats 16000000 in
theorem law_tight (a : Option Addr) (len cap : Nat) (w : World) (hT : Tabs w) (hcode : CodeAt w w.heap.size a len) (hle : (len : Int) ≤ 1048576) :
    Calls Tryd.prog 4 #[.slice a len cap] w fun e w' => e = .returned (.bool true) ∧ Below w.heap.size w w' := by
  obtain ⟨z0, g0, g1, hw0⟩ := wByte_at a len cap 0 w hcode hle (by omega)
  obtain ⟨z1, g2, g3, hw1⟩ := wByte_at a len cap 1 w hcode hle (by omega)
  have HT := hide hT
  have HW0 := hide (hw0 w (fun _ _ => rfl))
  have HW1 := hide (hw1 w (fun _ _ => rfl))
  obtain ⟨N, hNn⟩ : ∃ N : Nat, 1 + z0 % 200 = (N : Int) := ⟨(1 + z0 % 200).toNat, by omega⟩
  have hN1 : 1 ≤ N := by omega
  have hN2 : N ≤ 200 := by omega
  have hNz : ¬ (N : Int) + 1 = 0 := by omega
  have hk0 : 0 ≤ z1 % ((N : Int) + 1) := Int.emod_nonneg _ hNz
  have hk1 : z1 % ((N : Int) + 1) < (N : Int) + 1 := Int.emod_lt_of_pos _ (by omega)
  obtain ⟨k, hk⟩ : ∃ k : Nat, z1 % ((N : Int) + 1) = (k : Int) := ⟨(z1 % ((N : Int) + 1)).toNat, by omega⟩
  have hkt : Int.tmod z1 ((N : Int) + 1) = (k : Int) := by rw [Int.tmod_eq_emod_of_nonneg g2]; exact hk
  have hkN : k ≤ N := by omega
  clear hcode hT hw0 hw1 hk0 hk1
  go_enter Tryd.func4, Tryd.ntmps4
  go_wp2_with fail
  refine (unhide HW0).mono ?_
  rintro e w' ⟨rfl, hw⟩
  subst hw
  go_wp2_with fail
  refine (unhide HW1).mono ?_
  rintro e w' ⟨rfl, hw⟩
  subst hw
  clear HW0 HW1
  obtain ⟨D, hD⟩ : ∃ D, D = w'.heap.size := ⟨_, rfl⟩
  obtain ⟨Y, hY⟩ : ∃ Y, Y = w'.alloc (.cells #[.slice none 0 0, .slice none 0 0, .slice none 0 0, .int .i64 0, .int .i64 0, .int .i64 0] 28) := ⟨_, rfl⟩
  have hbY : Below w'.heap.size w' Y := by rw [hY]; exact (Below.refl _ _).alloc (Nat.le_refl _) _
  have HS0 : Hid (Ta w' Y D none 0 none 0 none 0 noD 0) := hide ⟨⟨by rw [hY, hD]; simp, by rw [hY, hD]; simp [go_sem, noD], by rw [hY, hD]; simp [go_sem, noD], by rw [hY, hD]; simp [go_sem, noD], by rw [hY, hD]; simp [go_sem, noD], by rw [hY, hD]; simp [go_sem, noD], by rw [hY, hD]; simp [go_sem, noD], fun o => by rw [hY, hD]; simp [go_sem], noD_at _, (unhide HT).below hbY (unhide HT).sz, noD_inv, WfD.noD⟩, (KeysAre.none κW).congr (fun j => ⟨False.elim, fun h => by omega⟩), rfl, rfl, Nat.zero_le _, hbY⟩
  have HNG : Hid (4 ≤ D) := hide (by rw [hD]; exact (unhide HT).sz)
  have HDL : Hid (w'.heap.size ≤ D) := hide (by rw [hD]; exact Nat.le_refl _)
  clear hbY
  go_wp2_with fail
  rw [← hY, ← hD]
  clear hY hD hNn hk hkt g0 g1 g2 g3
  go_loopw [6] (fun v wr => ∃ (i : Nat) (la : Option Addr) (lc : Nat) (ia : Option Addr) (ic : Nat) (xa : Option Addr) (xc : Nat) (d : Dc), v = .int .i64 i ∧ i ≤ N ∧ Ta w' wr D la lc ia ic xa xc d i) (fun v _ => N - (intOf v).toNat)
  case atStart => exact ⟨0, none, 0, none, 0, none, 0, noD, rfl, by omega, unhide HS0⟩
  case round =>
    clear HS0
    obtain ⟨i, la, lc, ia, ic, xa, xc, d, rfl, hi, hS⟩ := hrel
    have hm0 := hS.m
    have HS := hide hS
    have HX0 : Hid (DX wr.drew D la lc ia ic xa xc d) := hide (hS.x.below (Below.refl _ _).drew)
    have HB0 : Hid (Below w'.heap.size w' wr.drew) := hide (hS.bel.trans ((Below.refl wr.heap.size wr).drew.mono hS.bel.size))
    have c0 := hS.x.c0
    have c1 := hS.x.c1
    have c2 := hS.x.c2
    have c3 := hS.x.c3
    have c4 := hS.x.c4
    have c5 := hS.x.c5
    have lD := hS.x.lt
    clear hS
    by_cases hlt : i < N
    · go_wp2_with fail
      refine wpN_held (fun _ => True) (by kernel_rfl) ?_
      change wpAnyH _ _ _ _ _ _ _ _ (World.drew _)
      have hTr : True := trivial
      refine tk 1 (v := ?_) rfl (by kernel_rfl) (by rfl) ?_ (by assumption) ?_
      rotate_left
      · intro w' ⟨⟩; go_simp; first | done | with_reducible rfl
      simp only [Act.put, List.setIfInBounds_toArray, List.set_cons_succ, List.set_cons_zero]
      refine tk 3 (v := ?_) rfl (by kernel_rfl) (by rfl) ?_ (by assumption) ?_
      rotate_left
      · intro w' ⟨⟩; go_simp; first | done | with_reducible rfl
      simp only [Act.put, List.setIfInBounds_toArray, List.set_cons_succ, List.set_cons_zero]
      refine tk 4 (v := ?_) rfl (by kernel_rfl) (by rfl) ?_ (by assumption) ?_
      rotate_left
      · intro w' ⟨⟩; go_simp; first | done | with_reducible rfl
      simp only [Act.put, List.setIfInBounds_toArray, List.set_cons_succ, List.set_cons_zero]
      refine wpAnyH_ready (rs := [0, 2]) (by kernel_rfl) (by simp) ?_
      refine AllReadyH.cons rfl (fun K hK => ?_) (AllReadyH.cons rfl (fun K hK => ?_) AllReadyH.nil)
      · go_simp
        refine hK.out _ _ trivial (fun _ => ?_)
        clear hK K
        refine wpAnyH_ready (rs := [2]) (by kernel_rfl) (by simp) ?_
        refine AllReadyH.cons rfl (fun K hK => ?_) AllReadyH.nil
        go_simp
        refine (wKey_any i (by omega) _).mono ?_
        rintro e w1 ⟨rfl, hb1⟩
        have HX1 := hide ((unhide HX0).below hb1)
        have HB1 := hide ((unhide HB0).trans (hb1.mono (unhide HB0).size))
        refine hK.out _ _ trivial (fun _ => ?_)
        clear hK K c0 c1 c2 c3 c4 c5 lD
        refine wpAnyH_ready (rs := [5]) (by kernel_rfl) (by simp) ?_
        refine AllReadyH.cons rfl (fun K hK => ?_) AllReadyH.nil
        go_simp
        refine ((unhide HX1).put (by omega) (k := κW i) (v := ⟨2, (i : Int), 0, ⟨#[]⟩, 0⟩) (wKeys.ky i (by omega)) (ok_intz _) (wf_intz _) (unhide HNG)).mono ?_
        rintro e w2 ⟨⟨la', lc', ia', ic', xa', xc', rfl, hX, hm⟩, hb⟩
        have fz := fun o => (hb.frozen (p := ⟨D, o, none⟩) (unhide HX1).lt).trans ((unhide HX1).fz o)
        have f0 := (hb.cell (p := ⟨D, 0, none⟩) (unhide HX1).lt).trans (unhide HX1).c0
        have f1 := (hb.cell (p := ⟨D, 1, none⟩) (unhide HX1).lt).trans (unhide HX1).c1
        have f2 := (hb.cell (p := ⟨D, 2, none⟩) (unhide HX1).lt).trans (unhide HX1).c2
        have f3 := (hb.cell (p := ⟨D, 3, none⟩) (unhide HX1).lt).trans (unhide HX1).c3
        have f4 := (hb.cell (p := ⟨D, 4, none⟩) (unhide HX1).lt).trans (unhide HX1).c4
        have f5 := (hb.cell (p := ⟨D, 5, none⟩) (unhide HX1).lt).trans (unhide HX1).c5
        have hkp := (unhide HS).keys.put wKeys (fun j hj => by omega) (i := i) (by omega) (unhide HS).x.inv (v := ⟨2, (i : Int), 0, ⟨#[]⟩, 0⟩) (ok_intz _) (by show (2 : Int) ≠ 0; decide) (by have := (unhide HS).live; omega) (by have := (unhide HS).turns; omega)
        have hnew := hkp.2.2.2 (by omega)
        have HS1 : Hid (Ta w' (set6 w2 D (.slice la' (putD hN d (κW i) ⟨2, (i : Int), 0, ⟨#[]⟩, 0⟩).n lc') (.slice ia' (putD hN d (κW i) ⟨2, (i : Int), 0, ⟨#[]⟩, 0⟩).m ic') (.slice xa' (putD hN d (κW i) ⟨2, (i : Int), 0, ⟨#[]⟩, 0⟩).x xc') (putD hN d (κW i) ⟨2, (i : Int), 0, ⟨#[]⟩, 0⟩)) D la' lc' ia' ic' xa' xc' (putD hN d (κW i) ⟨2, (i : Int), 0, ⟨#[]⟩, 0⟩) (i + 1)) := hide ⟨hX, hkp.1.congr (fun j => by omega), by have := hnew.1; have := (unhide HS).live; omega, by have := hnew.2; have := (unhide HS).turns; omega, by have := (unhide HS).m; omega, ((unhide HB1).trans (hb.mono (unhide HB1).size)).trans (set6_below (unhide HDL))⟩
        clear hX hm hkp hnew hb
        unfold set6 at HS1
        generalize (putD hN d (κW i) ⟨2, (i : Int), 0, ⟨#[]⟩, 0⟩) = e at HS1 ⊢
        refine hK.out _ _ trivial (fun _ => ?_)
        clear hK K
        refine wpAnyH_ready (rs := [6]) (by kernel_rfl) (by simp) ?_
        refine AllReadyH.cons rfl (fun K hK => ?_) AllReadyH.nil
        go_simp
        refine hK.out _ _ trivial (fun _ => ?_)
        clear hK K
        refine wpAnyH_done (by kernel_rfl) ?_ _
        refine QN.normal ?_
        clear fz f0 f1 f2 f3 f4 f5
        go_wp2
        go_roundw
        case rel => exact ⟨i + 1, la', lc', ia', ic', xa', xc', e, by go_num, by omega, unhide HS1⟩
        case measure => simp [intOf]; omega
      · go_simp
        refine (wKey_any i (by omega) _).mono ?_
        rintro e w1 ⟨rfl, hb1⟩
        have HX1 := hide ((unhide HX0).below hb1)
        have HB1 := hide ((unhide HB0).trans (hb1.mono (unhide HB0).size))
        refine hK.out _ _ trivial (fun _ => ?_)
        clear hK K c0 c1 c2 c3 c4 c5 lD
        have c0 := (unhide HX1).c0
        have c1 := (unhide HX1).c1
        have c2 := (unhide HX1).c2
        have c3 := (unhide HX1).c3
        have c4 := (unhide HX1).c4
        have c5 := (unhide HX1).c5
        have lD := (unhide HX1).lt
        refine wpAnyH_ready (rs := [0]) (by kernel_rfl) (by simp) ?_
        refine AllReadyH.cons rfl (fun K hK => ?_) AllReadyH.nil
        go_simp
        refine hK.out _ _ trivial (fun _ => ?_)
        clear hK K c0 c1 c2 c3 c4 c5 lD
        refine wpAnyH_ready (rs := [5]) (by kernel_rfl) (by simp) ?_
        refine AllReadyH.cons rfl (fun K hK => ?_) AllReadyH.nil
        go_simp
        refine ((unhide HX1).put (by omega) (k := κW i) (v := ⟨2, (i : Int), 0, ⟨#[]⟩, 0⟩) (wKeys.ky i (by omega)) (ok_intz _) (wf_intz _) (unhide HNG)).mono ?_
        rintro e w2 ⟨⟨la', lc', ia', ic', xa', xc', rfl, hX, hm⟩, hb⟩
        have fz := fun o => (hb.frozen (p := ⟨D, o, none⟩) (unhide HX1).lt).trans ((unhide HX1).fz o)
        have f0 := (hb.cell (p := ⟨D, 0, none⟩) (unhide HX1).lt).trans (unhide HX1).c0
        have f1 := (hb.cell (p := ⟨D, 1, none⟩) (unhide HX1).lt).trans (unhide HX1).c1
        have f2 := (hb.cell (p := ⟨D, 2, none⟩) (unhide HX1).lt).trans (unhide HX1).c2
        have f3 := (hb.cell (p := ⟨D, 3, none⟩) (unhide HX1).lt).trans (unhide HX1).c3
        have f4 := (hb.cell (p := ⟨D, 4, none⟩) (unhide HX1).lt).trans (unhide HX1).c4
        have f5 := (hb.cell (p := ⟨D, 5, none⟩) (unhide HX1).lt).trans (unhide HX1).c5
        have hkp := (unhide HS).keys.put wKeys (fun j hj => by omega) (i := i) (by omega) (unhide HS).x.inv (v := ⟨2, (i : Int), 0, ⟨#[]⟩, 0⟩) (ok_intz _) (by show (2 : Int) ≠ 0; decide) (by have := (unhide HS).live; omega) (by have := (unhide HS).turns; omega)
        have hnew := hkp.2.2.2 (by omega)
        have HS1 : Hid (Ta w' (set6 w2 D (.slice la' (putD hN d (κW i) ⟨2, (i : Int), 0, ⟨#[]⟩, 0⟩).n lc') (.slice ia' (putD hN d (κW i) ⟨2, (i : Int), 0, ⟨#[]⟩, 0⟩).m ic') (.slice xa' (putD hN d (κW i) ⟨2, (i : Int), 0, ⟨#[]⟩, 0⟩).x xc') (putD hN d (κW i) ⟨2, (i : Int), 0, ⟨#[]⟩, 0⟩)) D la' lc' ia' ic' xa' xc' (putD hN d (κW i) ⟨2, (i : Int), 0, ⟨#[]⟩, 0⟩) (i + 1)) := hide ⟨hX, hkp.1.congr (fun j => by omega), by have := hnew.1; have := (unhide HS).live; omega, by have := hnew.2; have := (unhide HS).turns; omega, by have := (unhide HS).m; omega, ((unhide HB1).trans (hb.mono (unhide HB1).size)).trans (set6_below (unhide HDL))⟩
        clear hX hm hkp hnew hb
        unfold set6 at HS1
        generalize (putD hN d (κW i) ⟨2, (i : Int), 0, ⟨#[]⟩, 0⟩) = e at HS1 ⊢
        refine hK.out _ _ trivial (fun _ => ?_)
        clear hK K
        refine wpAnyH_ready (rs := [6]) (by kernel_rfl) (by simp) ?_
        refine AllReadyH.cons rfl (fun K hK => ?_) AllReadyH.nil
        go_simp
        refine hK.out _ _ trivial (fun _ => ?_)
        clear hK K
        refine wpAnyH_done (by kernel_rfl) ?_ _
        refine QN.normal ?_
        clear fz f0 f1 f2 f3 f4 f5
        go_wp2
        go_roundw
        case rel => exact ⟨i + 1, la', lc', ia', ic', xa', xc', e, by go_num, by omega, unhide HS1⟩
        case measure => simp [intOf]; omega
    · have hiN : N = i := by omega
      subst hiN
      obtain ⟨G, hG⟩ : ∃ G, G = wr.heap.size := ⟨_, rfl⟩
      obtain ⟨Z, hZ⟩ : ∃ Z, Z = wr.alloc (.cells (madeCells #[Value.bool false] N) 4) := ⟨_, rfl⟩
      have hbZ : Below wr.heap.size wr Z := by rw [hZ]; exact (Below.refl _ _).alloc (Nat.le_refl _) _
      have HDG : Hid (D < G) := hide (by rw [hG]; exact (unhide HS).x.lt)
      have HB0' : Hid (Tb w' Z D G la lc ia ic xa xc d (fun _ => false) N 0) := hide ⟨fun W' hW' => (unhide HS).x.below (hbZ.trans (hW'.below (by omega) hbZ.size)), (unhide HS).keys.congr (fun j => by simp), by rw [ng_all]; exact (unhide HS).live, (unhide HS).turns, by omega, by rw [hZ, hG]; exact World.rowIs_made wr (.bool false) N 4, (unhide HS).bel.trans (hbZ.mono (unhide HS).bel.size)⟩
      have hmk := make_bools N (by omega)
      clear hbZ HX0 HB0 HS c0 c1 c2 c3 c4 c5 lD hm0
      go_wp2_with fail
      rw [← hZ, ← hG]
      clear hZ hG hmk
      go_loopw [8] (fun v wz => ∃ (i' : Nat) (la : Option Addr) (lc : Nat) (ia : Option Addr) (ic : Nat) (xa : Option Addr) (xc : Nat) (d : Dc) (g : Nat → Bool), v = .int .i64 i' ∧ i' ≤ N - k ∧ Tb w' wz D G la lc ia ic xa xc d g N i') (fun v _ => N - k - (intOf v).toNat)
      case atStart => exact ⟨0, la, lc, ia, ic, xa, xc, d, fun _ => false, rfl, by omega, unhide HB0'⟩
      case round =>
        clear HB0'
        obtain ⟨i, la, lc, ia, ic, xa, xc, d, g, rfl, hi', hS⟩ := hrel
        have HS := hide hS
        have HX0 : Hid (DX wr.drew D la lc ia ic xa xc d) := hide (hS.x _ (Bt.of (Below.refl _ _).drew))
        have HB0 : Hid (Below w'.heap.size w' wr.drew) := hide (hS.bel.trans ((Below.refl wr.heap.size wr).drew.mono hS.bel.size))
        have HGL : Hid (G < wr.heap.size) := hide hS.row.lt
        have HX00 : Hid (DX wr D la lc ia ic xa xc d) := hide (hS.x _ (Bt.refl _ _))
        have c0 := (unhide HX00).c0
        have c1 := (unhide HX00).c1
        have c2 := (unhide HX00).c2
        have c3 := (unhide HX00).c3
        have c4 := (unhide HX00).c4
        have c5 := (unhide HX00).c5
        have lD := (unhide HX00).lt
        clear hS
        by_cases hlt : i < N - k
        · have hlt2 : (i : Int) < (N : Int) - (k : Int) := by omega
          have hNz2 : ¬ (N : Int) = 0 := by omega
          have hNz3 : ¬ N = 0 := by omega
          have hwi7 : IntKind.i64.wrap ((i : Int) * 7) = (i : Int) * 7 := by rw [IntKind.wrap_i64]; omega
          obtain ⟨q, hq⟩ : ∃ q : Nat, q = (i * 7) % N := ⟨_, rfl⟩
          have hqN : q < N := by rw [hq]; exact Nat.mod_lt _ (by omega)
          have hq1 : ((i : Int) * 7) % (N : Int) = (q : Int) := by rw [hq]; simp [Int.natCast_emod]
          have hq2 : Int.tmod ((i : Int) * 7) (N : Int) = (q : Int) := by rw [Int.tmod_eq_emod_of_nonneg (by omega)]; exact hq1
          clear hq
          go_wp2_with fail
          refine wpN_held (fun _ => True) (by kernel_rfl) ?_
          change wpAnyH _ _ _ _ _ _ _ _ (World.drew _)
          have hTr : True := trivial
          refine tk 1 (v := ?_) rfl (by kernel_rfl) (by rfl) ?_ (by assumption) ?_
          rotate_left
          · intro w' ⟨⟩; go_simp; first | done | with_reducible rfl
          simp only [Act.put, List.setIfInBounds_toArray, List.set_cons_succ, List.set_cons_zero]
          refine tk 2 (v := ?_) rfl (by kernel_rfl) (by rfl) ?_ (by assumption) ?_
          rotate_left
          · intro w' ⟨⟩; go_simp; first | done | with_reducible rfl
          simp only [Act.put, List.setIfInBounds_toArray, List.set_cons_succ, List.set_cons_zero]
          refine tk 3 (v := ?_) rfl (by kernel_rfl) (by rfl) ?_ (by assumption) ?_
          rotate_left
          · intro w' ⟨⟩; go_simp; first | done | with_reducible rfl
          simp only [Act.put, List.setIfInBounds_toArray, List.set_cons_succ, List.set_cons_zero]
          refine tk 4 (v := ?_) rfl (by kernel_rfl) (by rfl) ?_ (by assumption) ?_
          rotate_left
          · intro w' ⟨⟩; go_simp; first | done | with_reducible rfl
          simp only [Act.put, List.setIfInBounds_toArray, List.set_cons_succ, List.set_cons_zero]
          refine tk 6 (v := ?_) rfl (by kernel_rfl) (by rfl) ?_ (by assumption) ?_
          rotate_left
          · intro w' ⟨⟩; go_simp; first | done | with_reducible rfl
          simp only [Act.put, List.setIfInBounds_toArray, List.set_cons_succ, List.set_cons_zero]
          refine wpAnyH_ready (rs := [0, 5]) (by kernel_rfl) (by simp) ?_
          refine AllReadyH.cons rfl (fun K hK => ?_) (AllReadyH.cons rfl (fun K hK => ?_) AllReadyH.nil)
          · go_simp
            refine hK.out _ _ trivial (fun _ => ?_)
            clear hK K
            refine wpAnyH_ready (rs := [5]) (by kernel_rfl) (by simp) ?_
            refine AllReadyH.cons rfl (fun K hK => ?_) AllReadyH.nil
            go_simp
            refine (wKey_any q (by omega) _).mono ?_
            rintro e w1 ⟨rfl, hb1⟩
            have HX1 := hide ((unhide HX0).below hb1)
            have HB1 := hide ((unhide HB0).trans (hb1.mono (unhide HB0).size))
            refine hK.out _ _ trivial (fun _ => ?_)
            clear hK K c0 c1 c2 c3 c4 c5 lD
            refine wpAnyH_ready (rs := [7]) (by kernel_rfl) (by simp) ?_
            refine AllReadyH.cons rfl (fun K hK => ?_) AllReadyH.nil
            go_simp
            refine ((unhide HX1).putG (G := G) (Nat.lt_of_lt_of_le (unhide HGL) hb1.size) (unhide HDG) (by have := (unhide HS).m; omega) (k := κW q) (v := ⟨0, 0, 0, ⟨#[]⟩, 0⟩) (wKeys.ky q (by omega)) ok_nilz wf_nilz (unhide HNG)).mono ?_
            rintro e w2 ⟨⟨la', lc', ia', ic', xa', xc', rfl, hX, hm⟩, hb⟩
            have fz := fun o => (hb.frozen (p := ⟨D, o, none⟩) (unhide HX1).lt).trans ((unhide HX1).fz o)
            have f0 := (hb.cell (p := ⟨D, 0, none⟩) (unhide HX1).lt).trans (unhide HX1).c0
            have f1 := (hb.cell (p := ⟨D, 1, none⟩) (unhide HX1).lt).trans (unhide HX1).c1
            have f2 := (hb.cell (p := ⟨D, 2, none⟩) (unhide HX1).lt).trans (unhide HX1).c2
            have f3 := (hb.cell (p := ⟨D, 3, none⟩) (unhide HX1).lt).trans (unhide HX1).c3
            have f4 := (hb.cell (p := ⟨D, 4, none⟩) (unhide HX1).lt).trans (unhide HX1).c4
            have f5 := (hb.cell (p := ⟨D, 5, none⟩) (unhide HX1).lt).trans (unhide HX1).c5
            have hkt := (unhide HS).keys.take wKeys (fun j hj => by omega) (i := q) (by omega) (unhide HX1).inv (v := ⟨0, 0, 0, ⟨#[]⟩, 0⟩) ok_nilz rfl
            have hrow : (set6 w2 D (.slice la' (putD hN d (κW q) ⟨0, 0, 0, ⟨#[]⟩, 0⟩).n lc') (.slice ia' (putD hN d (κW q) ⟨0, 0, 0, ⟨#[]⟩, 0⟩).m ic') (.slice xa' (putD hN d (κW q) ⟨0, 0, 0, ⟨#[]⟩, 0⟩).x xc') (putD hN d (κW q) ⟨0, 0, 0, ⟨#[]⟩, 0⟩)).rowIs G 4 N (fun j => .bool (g j)) := ((unhide HS).row.of_block (((hb1.trans (hb.mono hb1.size)).block G (unhide HGL)))).of_block (set6_other (by have := unhide HDG; omega))
            have hgc := hrow.cell hqN
            have hgf := hrow.frozen q
            have hbt : Below w'.heap.size w' (set6 w2 D (.slice la' (putD hN d (κW q) ⟨0, 0, 0, ⟨#[]⟩, 0⟩).n lc') (.slice ia' (putD hN d (κW q) ⟨0, 0, 0, ⟨#[]⟩, 0⟩).m ic') (.slice xa' (putD hN d (κW q) ⟨0, 0, 0, ⟨#[]⟩, 0⟩).x xc') (putD hN d (κW q) ⟨0, 0, 0, ⟨#[]⟩, 0⟩)) := ((unhide HB1).trans (hb.mono (unhide HB1).size)).trans (set6_below (unhide HDL))
            have hgl := hrow.lt
            have HS1 : Hid (Tb w' ((set6 w2 D (.slice la' (putD hN d (κW q) ⟨0, 0, 0, ⟨#[]⟩, 0⟩).n lc') (.slice ia' (putD hN d (κW q) ⟨0, 0, 0, ⟨#[]⟩, 0⟩).m ic') (.slice xa' (putD hN d (κW q) ⟨0, 0, 0, ⟨#[]⟩, 0⟩).x xc') (putD hN d (κW q) ⟨0, 0, 0, ⟨#[]⟩, 0⟩)).setCell ⟨G, q, none⟩ (.bool true)) D G la' lc' ia' ic' xa' xc' (putD hN d (κW q) ⟨0, 0, 0, ⟨#[]⟩, 0⟩) (upd g q true) N (i + 1)) := hide ⟨fun W' hW' => hX W' ((Bt.set G q _ _).trans hW'), hkt.1.congr (fun j => by
                constructor
                · rintro ⟨⟨h1, h2⟩, h3⟩; exact ⟨h1, by rw [upd_other _ _ h3]; exact h2⟩
                · rintro ⟨h1, h2⟩
                  by_cases e : j = q
                  · subst e; rw [upd_same] at h2; cases h2
                  · rw [upd_other _ _ e] at h2; exact ⟨⟨h1, h2⟩, e⟩), by
                have h1 := ng_put g q N
                have h2 := (unhide HS).live
                by_cases hgq : g q = false
                · rw [if_pos ⟨hqN, hgq⟩] at h1
                  have := hkt.2.2.1 ⟨hqN, hgq⟩
                  omega
                · rw [if_neg (fun h => hgq h.2)] at h1
                  have := hkt.2.2.2 (fun h => hgq h.2)
                  omega, hkt.2.1.trans (unhide HS).turns, by have := (unhide HS).m; omega, (hrow.set q (.bool true)).congr (fun j hj => by
                by_cases e : j = q
                · subst e; rw [if_pos rfl, upd_same]
                · rw [if_neg e, upd_other _ _ e]), hbt.setCell (by have := unhide HDG; have := unhide HDL; show w'.heap.size ≤ G; omega) _⟩
            clear hX hm hkt hb hrow hbt hb1
            unfold set6 at HS1 hgc hgf hgl
            generalize (putD hN d (κW q) ⟨0, 0, 0, ⟨#[]⟩, 0⟩) = e at HS1 hgc hgf hgl ⊢
            refine hK.out _ _ trivial (fun _ => ?_)
            clear hK K
            refine wpAnyH_ready (rs := [8]) (by kernel_rfl) (by simp) ?_
            refine AllReadyH.cons rfl (fun K hK => ?_) AllReadyH.nil
            go_simp
            refine hK.out _ _ trivial (fun _ => ?_)
            clear hK K
            refine wpAnyH_done (by kernel_rfl) ?_ _
            refine QN.normal ?_
            clear fz f0 f1 f2 f3 f4 f5
            go_wp2
            go_roundw
            case rel => exact ⟨i + 1, la', lc', ia', ic', xa', xc', e, upd g q true, by go_num, by omega, unhide HS1⟩
            case measure => simp [intOf]; omega
          · go_simp
            refine (wKey_any q (by omega) _).mono ?_
            rintro e w1 ⟨rfl, hb1⟩
            have HX1 := hide ((unhide HX0).below hb1)
            have HB1 := hide ((unhide HB0).trans (hb1.mono (unhide HB0).size))
            refine hK.out _ _ trivial (fun _ => ?_)
            clear hK K c0 c1 c2 c3 c4 c5 lD
            have c0 := (unhide HX1).c0
            have c1 := (unhide HX1).c1
            have c2 := (unhide HX1).c2
            have c3 := (unhide HX1).c3
            have c4 := (unhide HX1).c4
            have c5 := (unhide HX1).c5
            have lD := (unhide HX1).lt
            refine wpAnyH_ready (rs := [0]) (by kernel_rfl) (by simp) ?_
            refine AllReadyH.cons rfl (fun K hK => ?_) AllReadyH.nil
            go_simp
            refine hK.out _ _ trivial (fun _ => ?_)
            clear hK K c0 c1 c2 c3 c4 c5 lD
            refine wpAnyH_ready (rs := [7]) (by kernel_rfl) (by simp) ?_
            refine AllReadyH.cons rfl (fun K hK => ?_) AllReadyH.nil
            go_simp
            refine ((unhide HX1).putG (G := G) (Nat.lt_of_lt_of_le (unhide HGL) hb1.size) (unhide HDG) (by have := (unhide HS).m; omega) (k := κW q) (v := ⟨0, 0, 0, ⟨#[]⟩, 0⟩) (wKeys.ky q (by omega)) ok_nilz wf_nilz (unhide HNG)).mono ?_
            rintro e w2 ⟨⟨la', lc', ia', ic', xa', xc', rfl, hX, hm⟩, hb⟩
            have fz := fun o => (hb.frozen (p := ⟨D, o, none⟩) (unhide HX1).lt).trans ((unhide HX1).fz o)
            have f0 := (hb.cell (p := ⟨D, 0, none⟩) (unhide HX1).lt).trans (unhide HX1).c0
            have f1 := (hb.cell (p := ⟨D, 1, none⟩) (unhide HX1).lt).trans (unhide HX1).c1
            have f2 := (hb.cell (p := ⟨D, 2, none⟩) (unhide HX1).lt).trans (unhide HX1).c2
            have f3 := (hb.cell (p := ⟨D, 3, none⟩) (unhide HX1).lt).trans (unhide HX1).c3
            have f4 := (hb.cell (p := ⟨D, 4, none⟩) (unhide HX1).lt).trans (unhide HX1).c4
            have f5 := (hb.cell (p := ⟨D, 5, none⟩) (unhide HX1).lt).trans (unhide HX1).c5
            have hkt := (unhide HS).keys.take wKeys (fun j hj => by omega) (i := q) (by omega) (unhide HX1).inv (v := ⟨0, 0, 0, ⟨#[]⟩, 0⟩) ok_nilz rfl
            have hrow : (set6 w2 D (.slice la' (putD hN d (κW q) ⟨0, 0, 0, ⟨#[]⟩, 0⟩).n lc') (.slice ia' (putD hN d (κW q) ⟨0, 0, 0, ⟨#[]⟩, 0⟩).m ic') (.slice xa' (putD hN d (κW q) ⟨0, 0, 0, ⟨#[]⟩, 0⟩).x xc') (putD hN d (κW q) ⟨0, 0, 0, ⟨#[]⟩, 0⟩)).rowIs G 4 N (fun j => .bool (g j)) := ((unhide HS).row.of_block (((hb1.trans (hb.mono hb1.size)).block G (unhide HGL)))).of_block (set6_other (by have := unhide HDG; omega))
            have hgc := hrow.cell hqN
            have hgf := hrow.frozen q
            have hbt : Below w'.heap.size w' (set6 w2 D (.slice la' (putD hN d (κW q) ⟨0, 0, 0, ⟨#[]⟩, 0⟩).n lc') (.slice ia' (putD hN d (κW q) ⟨0, 0, 0, ⟨#[]⟩, 0⟩).m ic') (.slice xa' (putD hN d (κW q) ⟨0, 0, 0, ⟨#[]⟩, 0⟩).x xc') (putD hN d (κW q) ⟨0, 0, 0, ⟨#[]⟩, 0⟩)) := ((unhide HB1).trans (hb.mono (unhide HB1).size)).trans (set6_below (unhide HDL))
            have hgl := hrow.lt
            have HS1 : Hid (Tb w' ((set6 w2 D (.slice la' (putD hN d (κW q) ⟨0, 0, 0, ⟨#[]⟩, 0⟩).n lc') (.slice ia' (putD hN d (κW q) ⟨0, 0, 0, ⟨#[]⟩, 0⟩).m ic') (.slice xa' (putD hN d (κW q) ⟨0, 0, 0, ⟨#[]⟩, 0⟩).x xc') (putD hN d (κW q) ⟨0, 0, 0, ⟨#[]⟩, 0⟩)).setCell ⟨G, q, none⟩ (.bool true)) D G la' lc' ia' ic' xa' xc' (putD hN d (κW q) ⟨0, 0, 0, ⟨#[]⟩, 0⟩) (upd g q true) N (i + 1)) := hide ⟨fun W' hW' => hX W' ((Bt.set G q _ _).trans hW'), hkt.1.congr (fun j => by
                constructor
                · rintro ⟨⟨h1, h2⟩, h3⟩; exact ⟨h1, by rw [upd_other _ _ h3]; exact h2⟩
                · rintro ⟨h1, h2⟩
                  by_cases e : j = q
                  · subst e; rw [upd_same] at h2; cases h2
                  · rw [upd_other _ _ e] at h2; exact ⟨⟨h1, h2⟩, e⟩), by
                have h1 := ng_put g q N
                have h2 := (unhide HS).live
                by_cases hgq : g q = false
                · rw [if_pos ⟨hqN, hgq⟩] at h1
                  have := hkt.2.2.1 ⟨hqN, hgq⟩
                  omega
                · rw [if_neg (fun h => hgq h.2)] at h1
                  have := hkt.2.2.2 (fun h => hgq h.2)
                  omega, hkt.2.1.trans (unhide HS).turns, by have := (unhide HS).m; omega, (hrow.set q (.bool true)).congr (fun j hj => by
                by_cases e : j = q
                · subst e; rw [if_pos rfl, upd_same]
                · rw [if_neg e, upd_other _ _ e]), hbt.setCell (by have := unhide HDG; have := unhide HDL; show w'.heap.size ≤ G; omega) _⟩
            clear hX hm hkt hb hrow hbt hb1
            unfold set6 at HS1 hgc hgf hgl
            generalize (putD hN d (κW q) ⟨0, 0, 0, ⟨#[]⟩, 0⟩) = e at HS1 hgc hgf hgl ⊢
            refine hK.out _ _ trivial (fun _ => ?_)
            clear hK K
            refine wpAnyH_ready (rs := [8]) (by kernel_rfl) (by simp) ?_
            refine AllReadyH.cons rfl (fun K hK => ?_) AllReadyH.nil
            go_simp
            refine hK.out _ _ trivial (fun _ => ?_)
            clear hK K
            refine wpAnyH_done (by kernel_rfl) ?_ _
            refine QN.normal ?_
            clear fz f0 f1 f2 f3 f4 f5
            go_wp2
            go_roundw
            case rel => exact ⟨i + 1, la', lc', ia', ic', xa', xc', e, upd g q true, by go_num, by omega, unhide HS1⟩
            case measure => simp [intOf]; omega
        · have hge : ¬ (i : Int) < (N : Int) - (k : Int) := by omega
          have hSd : Small d := (unhide HX00).inv.small (by have := (unhide HS).m; omega)
          have HSd := hide hSd
          have hok := ok_zero (unhide HX00).inv
          have hpn : prsN d = lvN d := if_pos hok
          have hlv : ((lvN d : Nat) : Int) = ((ng g N : Nat) : Int) := (unhide HX00).inv.i0.log.cnt.trans (unhide HS).live
          have hng := ng_le g N
          have htd : (d.turns != (N : Int)) = false := by rw [(unhide HS).turns]; simp
          have hl0 : 0 ≤ d.live := by rw [(unhide HS).live]; omega
          have hl1 : d.live ≤ 500 := (unhide HX00).inv.i0.le
          have hus := (unhide HX00).inv.i0.used
          have hhf := (unhide HX00).inv.i0.half
          have hxs := hSd.x
          have hu0 : 0 ≤ d.used := by omega
          have hu1 : 2 * d.used ≤ (d.x : Int) := by omega
          have HTG : Hid ((d.n : Int) ≤ 8 ∨ (d.n : Int) ≤ 2 * d.live) := hide (unhide HX00).inv.tight
          have HOK := hide hok
          have HPN := hide hpn
          clear hSd hok hpn hus hhf
          go_wp2_with fail
          refine (implPairs la lc ia ic xa xc d _ (unhide HX00).t (unhide HX00).at' (unhide HSd) (unhide HX00).wf).mono ?_
          rintro e w5 ⟨⟨pv, rfl, hP⟩, hb5⟩
          rw [unhide HPN] at hP
          obtain ⟨pa, pc, rfl, -⟩ := hP.at
          have HX5 := hide ((unhide HX00).below hb5)
          have HB5 := hide ((unhide HS).bel.trans (hb5.mono (unhide HS).bel.size))
          have HR5 := hide ((unhide HS).row.of_block (hb5.block G (unhide HGL)))
          clear hP hb5 c0 c1 c2 c3 c4 c5 lD HX0 HB0 HX00 HS
          go_wp2_with fail
          go_loopw [64, 9] (fun u v wq => ∃ j : Nat, u = .int .i64 j ∧ v = .int .i64 (((ng g N : Nat) : Int) - ((ng g j : Nat) : Int)) ∧ j ≤ N ∧ wq = w5) (fun u _ _ => N - (intOf u).toNat)
          case atStart => exact ⟨0, rfl, by first | rfl | simp [ng] | (rw [hlv]; simp [ng]), by omega, rfl⟩
          case round =>
            obtain ⟨j, rfl, rfl, hj, hw5⟩ := hrel
            subst hw5
            by_cases hjN : j < N
            · have cg := (unhide HR5).cell hjN
              have lg := (unhide HR5).lt
              have hst : ng g (j + 1) = ng g j + (if g j = true then 0 else 1) := rfl
              have hnj := ng_le g j
              cases hgj : g j
              · rw [hgj] at cg hst
                have hst2 : ((ng g (j + 1) : Nat) : Int) = ((ng g j : Nat) : Int) + 1 := by rw [hst]; simp
                have HST := hide hst2
                clear hst hst2
                go_wp2
                go_roundw
                case rel => exact ⟨j + 1, by go_num, by rw [unhide HST]; congr 1; omega, by omega, by first | rfl | trivial⟩
                case measure => simp [intOf]; omega
              · rw [hgj] at cg hst
                have hst2 : ((ng g (j + 1) : Nat) : Int) = ((ng g j : Nat) : Int) := by rw [hst]; simp
                have HST := hide hst2
                clear hst hst2
                go_wp2
                go_roundw
                case rel => exact ⟨j + 1, by go_num, by rw [unhide HST], by omega, by first | rfl | trivial⟩
                case measure => simp [intOf]; omega
            · have hjn : j = N := by omega
              subst hjn
              have hz : (((ng g j : Nat) : Int) - ((ng g j : Nat) : Int) != 0) = false := by simp
              have c0 := (unhide HX5).c0
              have c1 := (unhide HX5).c1
              have c2 := (unhide HX5).c2
              have c3 := (unhide HX5).c3
              have c4 := (unhide HX5).c4
              have c5 := (unhide HX5).c5
              have lD := (unhide HX5).lt
              go_wp2_with fail
              refine (implOk la lc ia ic xa xc d _ (unhide HX5).t (unhide HX5).at' (unhide HSd) (unhide HX5).wf).mono ?_
              rintro e w6 ⟨rfl, hb6⟩
              rw [unhide HOK]
              have HX6 := hide ((unhide HX5).below hb6)
              have HB6 := hide ((unhide HB5).trans (hb6.mono (unhide HB5).size))
              clear hb6 c0 c1 c2 c3 c4 c5 lD HX5 HB5 HR5
              have c0 := (unhide HX6).c0
              have c1 := (unhide HX6).c1
              have c2 := (unhide HX6).c2
              have c3 := (unhide HX6).c3
              have c4 := (unhide HX6).c4
              have c5 := (unhide HX6).c5
              have lD := (unhide HX6).lt
              by_cases h8 : (d.n : Int) ≤ 8
              · go_wp2
                go_ret
                exact ⟨by first | rfl | simp, unhide HB6⟩
              · have h2 : (d.n : Int) ≤ 2 * d.live := (unhide HTG).resolve_left h8
                go_wp2
                go_ret
                exact ⟨by first | rfl | simp, unhide HB6⟩
end Go.Proofs.YtglcaejddckleaaDoor
