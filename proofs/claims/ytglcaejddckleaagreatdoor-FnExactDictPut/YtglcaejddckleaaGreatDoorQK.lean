/-
  DtX, DtY in one text.
-/
import Derived.Test.YtglcaejddckleaaGreatDoorQJ
import Derived.Test.YtglcaejddckleaaGreatDoorQF
namespace Go.Proofs.YtglcaejddckleaaGreatDoor
open Go.RowKit
set_option linter.unusedVariables false
attribute [local go_sem] run_store_float run_equalIn_float

structure PBox (w W : World) (la : Option Addr) (lc : Nat) (ia : Option Addr) (ic : Nat) (xa : Option Addr) (xc : Nat) (d : Dc) (v : Vl) : Prop where
  b0 : W.heap[w.heap.size]? = some (.cells #[.slice la d.n lc, .slice ia d.m ic, .slice xa d.x xc, .int .i64 d.used, .int .i64 d.live, .int .i64 d.turns] 26 (0, 0))
  b2 : W.heap[w.heap.size + 1 + 1]? = some (.cells #[.int .i64 v.kind, .int .i64 v.num, .float .f64 v.flt, .string v.str, .int .i64 v.ref] 30 (0, 0))
  b3 : W.heap[w.heap.size + 1 + 1 + 1]? = some (.cells #[.slice none 0 0, .slice none 0 0, .slice none 0 0, .int .i64 0, .int .i64 0, .int .i64 0] 26 (0, 0))
  bel : Below w.heap.size w W
section
variable {w W W' : World} {la ia xa : Option Addr} {lc ic xc : Nat} {d : Dc} {v : Vl}
theorem PBox.size (h : PBox w W la lc ia ic xa xc d v) : w.heap.size + 1 + 1 + 1 < W.heap.size := (Array.getElem?_eq_some_iff.1 h.b3).1
theorem PBox.keep (h : PBox w W la lc ia ic xa xc d v) {B : Nat} (hb : Below B W W') (hB : w.heap.size + 1 + 1 + 1 < B) : PBox w W' la lc ia ic xa xc d v :=
  ⟨(hb.block _ (by omega)).trans h.b0, (hb.block _ (by omega)).trans h.b2, (hb.block _ hB).trans h.b3, h.bel.trans (hb.mono (by omega))⟩
theorem PBox.dc (h : PBox w W la lc ia ic xa xc d v) : W.cell? ⟨w.heap.size, 0, none⟩ = some (.slice la d.n lc) ∧ W.cell? ⟨w.heap.size, 1, none⟩ = some (.slice ia d.m ic) ∧ W.cell? ⟨w.heap.size, 2, none⟩ = some (.slice xa d.x xc) ∧ W.cell? ⟨w.heap.size, 3, none⟩ = some (.int .i64 d.used) ∧ W.cell? ⟨w.heap.size, 4, none⟩ = some (.int .i64 d.live) ∧ W.cell? ⟨w.heap.size, 5, none⟩ = some (.int .i64 d.turns) :=
  ⟨by simp [World.cell?, h.b0], by simp [World.cell?, h.b0], by simp [World.cell?, h.b0], by simp [World.cell?, h.b0], by simp [World.cell?, h.b0], by simp [World.cell?, h.b0]⟩
theorem PBox.vc (h : PBox w W la lc ia ic xa xc d v) : W.cell? ⟨w.heap.size + 1 + 1, 0, none⟩ = some (.int .i64 v.kind) ∧ W.cell? ⟨w.heap.size + 1 + 1, 1, none⟩ = some (.int .i64 v.num) ∧ W.cell? ⟨w.heap.size + 1 + 1, 2, none⟩ = some (.float .f64 v.flt) ∧ W.cell? ⟨w.heap.size + 1 + 1, 3, none⟩ = some (.string v.str) ∧ W.cell? ⟨w.heap.size + 1 + 1, 4, none⟩ = some (.int .i64 v.ref) :=
  ⟨by simp [World.cell?, h.b2], by simp [World.cell?, h.b2], by simp [World.cell?, h.b2], by simp [World.cell?, h.b2], by simp [World.cell?, h.b2]⟩
theorem PBox.rc (h : PBox w W la lc ia ic xa xc d v) : W.cell? ⟨w.heap.size + 1 + 1 + 1, 0, none⟩ = some (.slice none 0 0) ∧ W.cell? ⟨w.heap.size + 1 + 1 + 1, 1, none⟩ = some (.slice none 0 0) ∧ W.cell? ⟨w.heap.size + 1 + 1 + 1, 2, none⟩ = some (.slice none 0 0) ∧ W.cell? ⟨w.heap.size + 1 + 1 + 1, 3, none⟩ = some (.int .i64 0) ∧ W.cell? ⟨w.heap.size + 1 + 1 + 1, 4, none⟩ = some (.int .i64 0) ∧ W.cell? ⟨w.heap.size + 1 + 1 + 1, 5, none⟩ = some (.int .i64 0) ∧ ∀ q, W.frozen? ⟨w.heap.size + 1 + 1 + 1, q, none⟩ = false :=
  ⟨by simp [World.cell?, h.b3], by simp [World.cell?, h.b3], by simp [World.cell?, h.b3], by simp [World.cell?, h.b3], by simp [World.cell?, h.b3], by simp [World.cell?, h.b3], fun q => by simp [World.frozen?, h.b3]⟩
end

theorem PrV.wide {f : Nat → Pr} {n : Nat} {w : World} {v : Value} {lo hi lo' hi' : Nat} (h : PrV f n w v lo hi) (h1 : lo' ≤ lo) (h2 : hi ≤ hi') : PrV f n w v lo' hi' := by
  rcases h with h | ⟨b, cp, N, g, e1, e2, e3, e4⟩
  · exact .inl h
  · exact .inr ⟨b, cp, N, g, e1, by omega, by omega, e4⟩
theorem InV.wide {f : Nat → Int} {n : Nat} {w : World} {v : Value} {lo hi lo' hi' : Nat} (h : InV f n w v lo hi) (h1 : lo' ≤ lo) (h2 : hi ≤ hi') : InV f n w v lo' hi' := by
  rcases h with h | ⟨b, cp, N, g, e1, e2, e3, e4⟩
  · exact .inl h
  · exact .inr ⟨b, cp, N, g, e1, by omega, by omega, e4⟩
theorem DV.wide {d : Dc} {w : World} {v0 v1 v2 : Value} {lo hi lo' hi' : Nat} (h : DV d w v0 v1 v2 lo hi) (h1 : lo' ≤ lo) (h2 : hi ≤ hi') : DV d w v0 v1 v2 lo' hi' := ⟨h.log.wide h1 h2, h.ints.wide h1 h2, h.index.wide h1 h2, h.a01, h.a02, h.a12⟩
/-! How many ints a put can leave. -/
theorem moveD_m (hf : Vl → Nat) : ∀ (f : Nat) (d : Dc), (moveD hf f d).m ≤ d.m + f := by
  intro f
  induction f with
  | zero => intro d; exact Nat.le_refl _
  | succ f ih =>
    intro d
    cases e : slotOf d (intV ((d.m : Int) + 1)) (hf (intV ((d.m : Int) + 1))) with
    | none => rw [moveD_none e]; omega
    | some s =>
      rw [moveD_some e]
      have := ih (moveS d s)
      have h2 : (moveS d s).m = d.m + 1 := rfl
      omega
theorem enter_m (hf : Vl → Nat) (c : Dc) (k' : Vl) (p : Nat) : (enterD hf c k' p).m = c.m := by
  unfold enterD
  cases freeSlot c.x c.X (hf k' % c.x) <;> rfl
theorem putD_m {K : Vl → Prop} {hf : Vl → Nat} {d : Dc} {k v : Vl} (KL : KeyLaw K hf) (h : Inv K hf d) (hk : K k) : (putD hf d k v).m ≤ d.m + 4002 := by
  rcases h.i0.place KL hk with ⟨i, h1, h2, h3, h4⟩ | ⟨h1, h2⟩
  · have hp : 0 ≤ placeI d k (hf k) := by omega
    have hi : (placeI d k (hf k)).toNat = i := by omega
    by_cases hv0 : v.kind = 0
    · rw [putD_go hp hv0, hi]
      have g := goC_inv KL h.i0 h.next h1 h2
      have e := (compactD_live (hf := hf) g.1.core).2.2.1
      show (compactD hf (goC hf d i)).m ≤ _
      rw [e]
      by_cases hs : smallK d.m (d.L i).key
      · rw [goC_small hs]
        have := (shrink_says (upd d.I ((d.L i).key.num - 1).toNat 0) d.m).1
        show shrink (upd d.I ((d.L i).key.num - 1).toNat 0) d.m ≤ _
        omega
      · obtain ⟨s, _, _, hs3⟩ := h.i0.found KL (h.i0.keys i h1 h2) ⟨h1, h2, hs⟩ (KL.refl _ (h.i0.keys i h1 h2))
        rw [goC_slot hs hs3]
        show d.m ≤ _
        omega
    · rw [putD_set hp hv0, hi]
      show d.m ≤ _
      omega
  · have hp : ¬ 0 ≤ placeI d k (hf k) := by omega
    by_cases hc : v.kind ≠ 0 ∧ d.live < 500 ∧ d.turns < 1000000000000
    · rw [putD_come hp hc]
      have e := (compactD_live (hf := hf) h.i0.core).2.2.1
      have hcl := (compactD_live (hf := hf) h.i0.core).1
      have hci := compactD_inv h.i0
      show (comeC hf (compactD hf d) k v).m ≤ _
      generalize compactD hf d = c at e hci hcl
      have hcl : c.live < 500 := by rw [hcl]; exact hc.2.1
      have hcx : c.x ≤ 4000 := by
        rcases hci.sz with h | h
        · omega
        · exact h.2.1
      unfold comeC
      split
      · show c.m ≤ _
        omega
      · split
        · have := moveD_m hf (c.x + 1) (addNext c k v)
          have h2 : (addNext c k v).m = c.m + 1 := rfl
          omega
        · rw [enter_m]
          have hr := (roomD_inv hci hcl).2.2.m
          show (roomD hf c).m ≤ _
          omega
    · rw [putD_not hp hc]; omega
theorem Inv.small {K : Vl → Prop} {hf : Vl → Nat} {d : Dc} (h : Inv K hf d) (hm : d.m ≤ 4194304) : Small d := by
  refine ⟨?_, hm, ?_⟩
  · have := h.i0.le
    have := h.i0.log.cnt
    rcases h.tight with h | h <;> omega
  · rcases h.i0.sz with h | h
    · omega
    · have := h.2.1; omega

set_option maxRecDepth 100000 in
set_option maxHeartbeats 8000000 in
theorem implPut (la : Option Addr) (lc : Nat) (ia : Option Addr) (ic : Nat) (xa : Option Addr) (xc : Nat) (d : Dc) (k v : Vl) (c : Int) (kv : Vl) (w : World) (hT : Tabs w) (hA : DAt w la ia xa d) (hS : Small d) (hW : WfD d) (hm : d.m ≤ 4000000) (hk : keyV k.kind k.num k.flt k.str k.ref = KV c kv.kind kv.num kv.flt kv.str kv.ref) (hh : c = 0 → Ky kv) :
    Calls Tryz.prog 15 #[Dv la lc ia ic xa xc d, V k.kind k.num k.flt k.str k.ref, V v.kind v.num v.flt v.str v.ref] w fun e w' => (∃ v0 v1 v2, e = .returned (DvV v0 v1 v2 (putO d c kv v)) ∧ DV (putO d c kv v) w' v0 v1 v2 w.heap.size w'.heap.size) ∧ Below w.heap.size w w' := by
  have HA := hide hA
  have HS := hide hS
  have HW := hide hW
  have HKV := hide hk
  have HH := hide hh
  have HT := hide hT
  clear hA hS hW hk hh hT
  have HP0 : Hid (PBox w ((((w.alloc (.cells #[.slice la d.n lc, .slice ia d.m ic, .slice xa d.x xc, .int .i64 d.used, .int .i64 d.live, .int .i64 d.turns] 26)).alloc (.cells #[.int .i64 k.kind, .int .i64 k.num, .float .f64 k.flt, .string k.str, .int .i64 k.ref] 30)).alloc (.cells #[.int .i64 v.kind, .int .i64 v.num, .float .f64 v.flt, .string v.str, .int .i64 v.ref] 30)).alloc (.cells #[.slice none 0 0, .slice none 0 0, .slice none 0 0, .int .i64 0, .int .i64 0, .int .i64 0] 26)) la lc ia ic xa xc d v) := hide (by
    refine ⟨?_, ?_, ?_, ((((Below.refl _ _).alloc (Nat.le_refl _) _).alloc (by simp) _).alloc (by simp; omega) _).alloc (by simp; omega) _⟩
    · iterate 3 (refine (Deep.blk_alloc_lt _ _ _ (by simp; try omega)).trans ?_)
      exact Deep.blk_alloc_new _ _
    · refine (Deep.blk_alloc_lt _ _ _ (by simp)).trans ?_
      have h1 := Deep.blk_alloc_new ((w.alloc (.cells #[.slice la d.n lc, .slice ia d.m ic, .slice xa d.x xc, .int .i64 d.used, .int .i64 d.live, .int .i64 d.turns] 26)).alloc (.cells #[.int .i64 k.kind, .int .i64 k.num, .float .f64 k.flt, .string k.str, .int .i64 k.ref] 30)) (.cells #[.int .i64 v.kind, .int .i64 v.num, .float .f64 v.flt, .string v.str, .int .i64 v.ref] 30)
      simpa using h1
    · have h1 := Deep.blk_alloc_new (((w.alloc (.cells #[.slice la d.n lc, .slice ia d.m ic, .slice xa d.x xc, .int .i64 d.used, .int .i64 d.live, .int .i64 d.turns] 26)).alloc (.cells #[.int .i64 k.kind, .int .i64 k.num, .float .f64 k.flt, .string k.str, .int .i64 k.ref] 30)).alloc (.cells #[.int .i64 v.kind, .int .i64 v.num, .float .f64 v.flt, .string v.str, .int .i64 v.ref] 30)) (.cells #[.slice none 0 0, .slice none 0 0, .slice none 0 0, .int .i64 0, .int .i64 0, .int .i64 0] 26)
      simpa using h1)
  go_enter Tryz.func15, Tryz.ntmps15
  go_wp2_with fail
  refine (ikey_any k.kind k.num k.flt k.str k.ref _).mono ?_
  rintro e w1 ⟨rfl, hb1⟩
  rw [unhide HKV]
  have hP1 := (unhide HP0).keep hb1 (unhide HP0).size
  have z1 := hP1.size
  have z1' : w.heap.size + 1 + 1 < w1.heap.size := by omega
  have z1'' : w.heap.size < w1.heap.size := by omega
  obtain ⟨W1, hW1⟩ : ∃ W1, W1 = w1.alloc (.cells #[.int .i64 c, .int .i64 kv.kind, .int .i64 kv.num, .float .f64 kv.flt, .string kv.str, .int .i64 kv.ref] 34) := ⟨_, rfl⟩
  have hP2 : PBox w W1 la lc ia ic xa xc d v := by rw [hW1]; exact hP1.keep ((Below.refl w1.heap.size w1).alloc (Nat.le_refl _) _) z1
  have zk : w1.heap.size < W1.heap.size := by rw [hW1]; simp
  clear hb1
  by_cases hc : c = 0
  case neg =>
    have HR : Hid (putO d c kv v = noD) := hide (if_neg (fun h => hc h.2.1))
    have hc' : (c != 0) = true := by simp [hc]
    obtain ⟨r0, r1, r2, r3, r4, r5, rf⟩ := hP1.rc
    have HB1 := hide hP1.bel
    clear hc hP1 hP2 hW1 zk HP0
    go_wp2
    refine bodyPost_ret (v := .agg #[.slice none 0 0, .slice none 0 0, .slice none 0 0, .int .i64 0, .int .i64 0, .int .i64 0]) (by simp [results, Tryz.results15, go_sem, r0, r1, r2, r3, r4, r5, z1]) rfl ⟨⟨.slice none 0 0, .slice none 0 0, .slice none 0 0, by rw [unhide HR]; rfl, by rw [unhide HR]; exact noD_dv _ _ _⟩, ?_⟩
    refine Below.alloc ?_ (by simp; omega) _
    iterate 6 (refine Below.setCell ?_ (by show w.heap.size ≤ w.heap.size + 1 + 1 + 1; omega) _)
    exact unhide HB1
  subst hc
  obtain ⟨v0, v1, v2, v3, v4⟩ := hP1.vc
  clear hP1 HP0
  have HP2 := hide hP2
  have HW1 : Hid (W1.cell? ⟨w1.heap.size, 1, none⟩ = some (.int .i64 kv.kind) ∧ W1.cell? ⟨w1.heap.size, 2, none⟩ = some (.int .i64 kv.num) ∧ W1.cell? ⟨w1.heap.size, 3, none⟩ = some (.float .f64 kv.flt) ∧ W1.cell? ⟨w1.heap.size, 4, none⟩ = some (.string kv.str) ∧ W1.cell? ⟨w1.heap.size, 5, none⟩ = some (.int .i64 kv.ref)) := hide (by rw [hW1]; refine ⟨?_, ?_, ?_, ?_, ?_⟩ <;> simp [go_sem])
  clear hP2
  go_wp2_with fail
  rw [← hW1]
  clear hW1 v0 v1 v2 v3 v4
  refine (isValid_any v.kind v.num v.flt v.str v.ref _).mono ?_
  rintro e w2 ⟨rfl, hb2⟩
  have hP3 := (unhide HP2).keep hb2 (unhide HP2).size
  have HKC : Hid (w2.cell? ⟨w1.heap.size, 1, none⟩ = some (.int .i64 kv.kind) ∧ w2.cell? ⟨w1.heap.size, 2, none⟩ = some (.int .i64 kv.num) ∧ w2.cell? ⟨w1.heap.size, 3, none⟩ = some (.float .f64 kv.flt) ∧ w2.cell? ⟨w1.heap.size, 4, none⟩ = some (.string kv.str) ∧ w2.cell? ⟨w1.heap.size, 5, none⟩ = some (.int .i64 kv.ref)) := hide ⟨(hb2.cell (p := ⟨w1.heap.size, 1, none⟩) zk).trans (unhide HW1).1, (hb2.cell (p := ⟨w1.heap.size, 2, none⟩) zk).trans (unhide HW1).2.1, (hb2.cell (p := ⟨w1.heap.size, 3, none⟩) zk).trans (unhide HW1).2.2.1, (hb2.cell (p := ⟨w1.heap.size, 4, none⟩) zk).trans (unhide HW1).2.2.2.1, (hb2.cell (p := ⟨w1.heap.size, 5, none⟩) zk).trans (unhide HW1).2.2.2.2⟩
  have zk2 := Nat.lt_of_lt_of_le zk hb2.size
  have z2 := hP3.size
  clear hb2 HP2 HW1
  by_cases hv : validB v.kind v.num v.flt v.str v.ref = true
  case neg =>
    have HR : Hid (putO d 0 kv v = noD) := hide (if_neg (fun h => hv h.2.2))
    have hv' : validB v.kind v.num v.flt v.str v.ref = false := by simpa using hv
    rw [hv']
    obtain ⟨r0, r1, r2, r3, r4, r5, rf⟩ := hP3.rc
    have HB := hide hP3.bel
    clear hv hv' hP3
    go_wp2
    refine bodyPost_ret (v := .agg #[.slice none 0 0, .slice none 0 0, .slice none 0 0, .int .i64 0, .int .i64 0, .int .i64 0]) (by simp [results, Tryz.results15, go_sem, r0, r1, r2, r3, r4, r5]) rfl ⟨⟨.slice none 0 0, .slice none 0 0, .slice none 0 0, by rw [unhide HR]; rfl, by rw [unhide HR]; exact noD_dv _ _ _⟩, ?_⟩
    iterate 6 (refine Below.setCell ?_ (by show w.heap.size ≤ w.heap.size + 1 + 1 + 1; omega) _)
    exact unhide HB
  rw [hv]
  obtain ⟨q0, q1, q2, q3, q4, q5⟩ := hP3.dc
  have HP3 := hide hP3
  have HV := hide hv
  clear hP3 hv
  go_wp2_with fail
  refine (implOk la lc ia ic xa xc d _ (lastsT _ _ (unhide HT) (unhide HP3).bel) ((unhide HA).below (unhide HP3).bel) (unhide HS) (unhide HW)).mono ?_
  rintro e w3 ⟨rfl, hb3⟩
  have hP4 := (unhide HP3).keep hb3 (unhide HP3).size
  have zk3 := Nat.lt_of_lt_of_le zk2 hb3.size
  have z3 := hP4.size
  have HKC3 : Hid (w3.cell? ⟨w1.heap.size, 1, none⟩ = some (.int .i64 kv.kind) ∧ w3.cell? ⟨w1.heap.size, 2, none⟩ = some (.int .i64 kv.num) ∧ w3.cell? ⟨w1.heap.size, 3, none⟩ = some (.float .f64 kv.flt) ∧ w3.cell? ⟨w1.heap.size, 4, none⟩ = some (.string kv.str) ∧ w3.cell? ⟨w1.heap.size, 5, none⟩ = some (.int .i64 kv.ref)) := hide ⟨(hb3.cell (p := ⟨w1.heap.size, 1, none⟩) zk2).trans (unhide HKC).1, (hb3.cell (p := ⟨w1.heap.size, 2, none⟩) zk2).trans (unhide HKC).2.1, (hb3.cell (p := ⟨w1.heap.size, 3, none⟩) zk2).trans (unhide HKC).2.2.1, (hb3.cell (p := ⟨w1.heap.size, 4, none⟩) zk2).trans (unhide HKC).2.2.2.1, (hb3.cell (p := ⟨w1.heap.size, 5, none⟩) zk2).trans (unhide HKC).2.2.2.2⟩
  clear hb3 HP3 HKC q0 q1 q2 q3 q4 q5 z2 zk2
  by_cases hok : dictOk d (hD d) = 0
  case neg =>
    have HR : Hid (putO d 0 kv v = noD) := hide (if_neg (fun h => hok h.1))
    have hk' : (dictOk d (hD d) != 0) = true := by simp [hok]
    obtain ⟨r0, r1, r2, r3, r4, r5, rf⟩ := hP4.rc
    have HB := hide hP4.bel
    clear hok hP4
    generalize dictOk d (hD d) = ok at hk'
    go_wp2
    refine bodyPost_ret (v := .agg #[.slice none 0 0, .slice none 0 0, .slice none 0 0, .int .i64 0, .int .i64 0, .int .i64 0]) (by simp [results, Tryz.results15, go_sem, r0, r1, r2, r3, r4, r5]) rfl ⟨⟨.slice none 0 0, .slice none 0 0, .slice none 0 0, by rw [unhide HR]; rfl, by rw [unhide HR]; exact noD_dv _ _ _⟩, ?_⟩
    iterate 6 (refine Below.setCell ?_ (by show w.heap.size ≤ w.heap.size + 1 + 1 + 1; omega) _)
    exact unhide HB
  have HR : Hid (putO d 0 kv v = putD hN d kv v) := hide (if_pos ⟨hok, rfl, unhide HV⟩)
  have hSd := sound_of hok
  have hInv := sound_inv hSd (unhide HW)
  have hKy := unhide HH trivial
  have HPI := hide (putD_inv keyLaw hInv hKy hKy.1 (unhide HV))
  have hpm := putD_m (v := v) keyLaw hInv hKy
  have HI := hide hInv
  have HSd := hide hSd
  have HKy := hide hKy
  rw [hok]
  obtain ⟨q0, q1, q2, q3, q4, q5⟩ := hP4.dc
  have HP4 := hide hP4
  clear hP4 hSd hInv hKy hok
  go_wp2_with fail
  refine (openBook_own la lc ia ic xa xc d _ ((unhide HA).below (unhide HP4).bel) (unhide HS) (unhide HSd).d3 (unhide HSd).d4).mono ?_
  rintro e w4 ⟨⟨bk, R0, R1, R2, E, S, rfl, hBk, hSt⟩, hb4⟩
  have hM4 := BMut.of_open hBk hSt (unhide HS)
  have hbk := hSt.gb
  have hP5 := (unhide HP4).keep hb4 (unhide HP4).size
  have z4 := hP5.size
  have zk4 := Nat.lt_of_lt_of_le zk3 hb4.size
  obtain ⟨v0, v1, v2, v3, v4⟩ := hP5.vc
  have k1 := (hb4.cell (p := ⟨w1.heap.size, 1, none⟩) zk3).trans (unhide HKC3).1
  have k2 := (hb4.cell (p := ⟨w1.heap.size, 2, none⟩) zk3).trans (unhide HKC3).2.1
  have k3 := (hb4.cell (p := ⟨w1.heap.size, 3, none⟩) zk3).trans (unhide HKC3).2.2.1
  have k4 := (hb4.cell (p := ⟨w1.heap.size, 4, none⟩) zk3).trans (unhide HKC3).2.2.2.1
  have k5 := (hb4.cell (p := ⟨w1.heap.size, 5, none⟩) zk3).trans (unhide HKC3).2.2.2.2
  have HP5 := hide hP5
  have HM4 := hide hM4
  clear hb4 hBk hSt hM4 hP5 HP4 HKC3 q0 q1 q2 q3 q4 q5
  go_wp2_with fail
  have hNG : 4 ≤ bk := by have := (unhide HT).sz; omega
  refine (put_any Tabs lastsT hN Ky keyLaw hsI_all bk (fun a b ha hb => ha.below hb hNG) _ _ R2 E S d kv v w4 (lastsT _ _ (unhide HT) (unhide HP5).bel) (unhide HM4) (unhide HS) hm (unhide HI) (unhide HKy) (unhide HKy).1 (unhide HV)).mono ?_
  rintro e w5 ⟨⟨⟨uu, rfl⟩, r0', r1', R2', E2, S2, hM5⟩, hb5⟩
  have hP6 := (unhide HP5).keep hb5 (by omega)
  have HM5 := hide hM5
  have HP6 := hide hP6
  have z5 := hP6.size
  clear hb5 hM5 hP6 HM4 HP5 v0 v1 v2 v3 v4 k1 k2 k3 k4 k5
  generalize hP : putD hN d kv v = P at *
  clear hP
  go_wp2_with fail
  refine (dict_any bk r0' r1' R2' E2 S2 P w5 (unhide HM5) ((unhide HPI).small (by omega)) (fun j hj => by
    rcases (unhide HPI).i0.ints j hj with e | e <;> omega) (fun j hj => by
    rcases (unhide HPI).i0.idx.range j hj with e | e | ⟨e1, e2, _⟩
    · exact .inl e
    · exact .inr (.inl e)
    · exact .inr (.inr ⟨e1, by omega⟩))).mono ?_
  rintro e w6 ⟨⟨u0, u1, u2, rfl, hDV⟩, hb6⟩
  have hP7 := (unhide HP6).keep hb6 z5
  obtain ⟨r0, r1, r2, r3, r4, r5, rf⟩ := hP7.rc
  have z6 := hP7.size
  have HB7 := hide hP7.bel
  have z56 := hb6.size
  obtain ⟨ua, uc, ub, ud, ue, uf, e0, e1, e2, -⟩ := hDV.at
  have HDV := hide hDV
  subst e0 e1 e2
  clear hDV hb6 hP7 HP6 HM5
  go_wp2
  refine bodyPost_ret (v := DvV (.slice ua P.n uc) (.slice ub P.m ud) (.slice ue P.x uf) P) (by simp [results, Tryz.results15, go_sem, r0, r1, r2, r3, r4, r5]) rfl ⟨⟨_, _, _, by rw [unhide HR], ?_⟩, ?_⟩
  · rw [unhide HR]
    refine DV.wide (DV.keep (unhide HDV) (fun b hb _ => ?_)) (by omega) (by simp)
    iterate 6 (refine (Deep.blk_setCell_other _ _ _ _ (by show b ≠ w.heap.size + 1 + 1 + 1; omega)).trans ?_)
    rfl
  · iterate 6 (refine Below.setCell ?_ (by show w.heap.size ≤ w.heap.size + 1 + 1 + 1; omega) _)
    exact unhide HB7
end Go.Proofs.YtglcaejddckleaaGreatDoor

namespace Go.Proofs.YtglcaejddckleaaGreatDoor
open Go.RowKit
set_option linter.unusedVariables false
attribute [local go_sem] run_store_float run_equalIn_float

set_option maxRecDepth 100000 in
set_option maxHeartbeats 1000000 in
theorem szDict_le (la : Option Addr) (lc : Nat) (ia : Option Addr) (ic : Nat) (xa : Option Addr) (xc : Nat) (d : Dc) (left : Int) (w : World) (hD : DAt w la ia xa d) (hL : Lens d) (h0 : 0 ≤ left) (h1 : left ≤ 1048576) :
    Calls Tryz.prog 28 #[Dv la lc ia ic xa xc d, .int .i64 left] w fun e w' => (∃ r : Int, e = .returned (.int .i64 r) ∧ (r = -1 ∨ 0 ≤ r ∧ r ≤ left ∧ Small d ∧ d.m ≤ 4000000)) ∧ Below w.heap.size w w' := by
  have HD := hide hD
  have HL := hide hL
  clear hD hL
  have hb0 : Below w.heap.size w (w.alloc (.cells #[.slice la d.n lc, .slice ia d.m ic, .slice xa d.x xc, .int .i64 d.used, .int .i64 d.live, .int .i64 d.turns] 53)) := (Below.refl _ _).alloc (Nat.le_refl _) _
  have HB0 := hide hb0
  clear hb0
  go_enter Tryz.func28, Tryz.ntmps28
  go_wp2_with fail
  refine (szPairS_any la d.n lc d.L left _ ((unhide HD).below (unhide HB0)).log (unhide HL).n (unhide HL).s h0 h1).mono ?_
  rintro e w1 ⟨⟨r, rfl, hr⟩, hb1⟩
  obtain ⟨hc1, hf1⟩ := bcell hb1
  have q1 : w1.cell? ⟨w.heap.size, 1, none⟩ = some (.slice ia d.m ic) := by rw [hc1 _ _ (by simp)]; simp [go_sem]
  have q2 : w1.cell? ⟨w.heap.size, 2, none⟩ = some (.slice xa d.x xc) := by rw [hc1 _ _ (by simp)]; simp [go_sem]
  have HB1 := hide ((unhide HB0).trans (hb1.mono (unhide HB0).size))
  clear hb1 hc1 hf1
  rcases hr with rfl | ⟨g0, g1, g2⟩
  · go_wp2_with fail
    go_ret
    exact ⟨⟨-1, rfl, .inl rfl⟩, unhide HB1⟩
  go_wp2_with fail
  refine (szIntS_any ia d.m ic r _ (unhide HL).m g0 (by omega)).mono ?_
  rintro e w2 ⟨⟨r2, rfl, hr2⟩, rfl⟩
  rcases hr2 with rfl | ⟨g3, g4, g5⟩
  · go_wp2_with fail
    go_ret
    exact ⟨⟨-1, rfl, .inl rfl⟩, unhide HB1⟩
  go_wp2_with fail
  refine (szIntS_any xa d.x xc r2 _ (unhide HL).x g3 (by omega)).mono ?_
  rintro e w3 ⟨⟨r3, rfl, hr3⟩, rfl⟩
  rcases hr3 with rfl | ⟨g6, g7, g8⟩
  · go_wp2_with fail
    go_ret
    exact ⟨⟨-1, rfl, .inl rfl⟩, unhide HB1⟩
  have HSM : Hid (Small d ∧ d.m ≤ 4000000) := hide ⟨⟨by omega, by omega, by omega⟩, by omega⟩
  go_wp2_with fail
  go_ret
  exact ⟨⟨r3, rfl, .inr ⟨g6, by omega, unhide HSM⟩⟩, unhide HB1⟩

structure LB (w W : World) (la : Option Addr) (lc : Nat) (ia : Option Addr) (ic : Nat) (xa : Option Addr) (xc : Nat) (d : Dc) (k v : Vl) : Prop where
  bD : W.heap[w.heap.size]? = some (.cells #[.slice la d.n lc, .slice ia d.m ic, .slice xa d.x xc, .int .i64 d.used, .int .i64 d.live, .int .i64 d.turns] 53 (0, 0))
  bK : W.heap[w.heap.size + 1]? = some (.cells #[.int .i64 k.kind, .int .i64 k.num, .float .f64 k.flt, .string k.str, .int .i64 k.ref] 57 (0, 0))
  bV : W.heap[w.heap.size + 1 + 1]? = some (.cells #[.int .i64 v.kind, .int .i64 v.num, .float .f64 v.flt, .string v.str, .int .i64 v.ref] 57 (0, 0))
  bel : Below w.heap.size w W
section
variable {w W W' : World} {la ia xa : Option Addr} {lc ic xc : Nat} {d : Dc} {k v : Vl}
theorem LB.size (h : LB w W la lc ia ic xa xc d k v) : w.heap.size + 1 + 1 < W.heap.size := (Array.getElem?_eq_some_iff.1 h.bV).1
theorem LB.keep (h : LB w W la lc ia ic xa xc d k v) {B : Nat} (hb : Below B W W') (hB : w.heap.size + 1 + 1 < B) : LB w W' la lc ia ic xa xc d k v := ⟨(hb.block _ (by omega)).trans h.bD, (hb.block _ (by omega)).trans h.bK, (hb.block _ hB).trans h.bV, h.bel.trans (hb.mono (by omega))⟩
theorem LB.dc (h : LB w W la lc ia ic xa xc d k v) : W.cell? ⟨w.heap.size, 0, none⟩ = some (.slice la d.n lc) ∧ W.cell? ⟨w.heap.size, 1, none⟩ = some (.slice ia d.m ic) ∧ W.cell? ⟨w.heap.size, 2, none⟩ = some (.slice xa d.x xc) ∧ W.cell? ⟨w.heap.size, 3, none⟩ = some (.int .i64 d.used) ∧ W.cell? ⟨w.heap.size, 4, none⟩ = some (.int .i64 d.live) ∧ W.cell? ⟨w.heap.size, 5, none⟩ = some (.int .i64 d.turns) := by
  refine ⟨?_, ?_, ?_, ?_, ?_, ?_⟩ <;> simp [World.cell?, h.bD]
theorem LB.kc (h : LB w W la lc ia ic xa xc d k v) : W.cell? ⟨w.heap.size + 1, 0, none⟩ = some (.int .i64 k.kind) ∧ W.cell? ⟨w.heap.size + 1, 1, none⟩ = some (.int .i64 k.num) ∧ W.cell? ⟨w.heap.size + 1, 2, none⟩ = some (.float .f64 k.flt) ∧ W.cell? ⟨w.heap.size + 1, 3, none⟩ = some (.string k.str) ∧ W.cell? ⟨w.heap.size + 1, 4, none⟩ = some (.int .i64 k.ref) := by
  refine ⟨?_, ?_, ?_, ?_, ?_⟩ <;> simp [World.cell?, h.bK]
theorem LB.vc (h : LB w W la lc ia ic xa xc d k v) : W.cell? ⟨w.heap.size + 1 + 1, 0, none⟩ = some (.int .i64 v.kind) ∧ W.cell? ⟨w.heap.size + 1 + 1, 1, none⟩ = some (.int .i64 v.num) ∧ W.cell? ⟨w.heap.size + 1 + 1, 2, none⟩ = some (.float .f64 v.flt) ∧ W.cell? ⟨w.heap.size + 1 + 1, 3, none⟩ = some (.string v.str) ∧ W.cell? ⟨w.heap.size + 1 + 1, 4, none⟩ = some (.int .i64 v.ref) := by
  refine ⟨?_, ?_, ?_, ?_, ?_⟩ <;> simp [World.cell?, h.bV]
end
abbrev dA (s0 s1 s2 : Value) (P : Dc) : Array Value := #[s0, s1, s2, .int .i64 P.used, .int .i64 P.live, .int .i64 P.turns]
abbrev zA : Array Value := #[.slice none 0 0, .slice none 0 0, .slice none 0 0, .int .i64 0, .int .i64 0, .int .i64 0]
def set6 (w : World) (b : Nat) (s0 s1 s2 : Value) (P : Dc) : World := (((((w.setCell ⟨b, 0, none⟩ s0).setCell ⟨b, 1, none⟩ s1).setCell ⟨b, 2, none⟩ s2).setCell ⟨b, 3, none⟩ (.int .i64 P.used)).setCell ⟨b, 4, none⟩ (.int .i64 P.live)).setCell ⟨b, 5, none⟩ (.int .i64 P.turns)
structure RR (W0 W' : World) (P : Dc) (bx : Nat) (s0 s1 s2 : Value) (lo hi : Nat) : Prop where
  bel : Below W0.heap.size W0 W'
  bx0 : W0.heap.size ≤ bx
  blk : W'.heap[bx]? = some (.cells (dA s0 s1 s2 P) 26 (0, 0))
  dv : DV P W' s0 s1 s2 lo hi
  lo0 : W0.heap.size ≤ lo
  lh : lo ≤ hi
  hi0 : hi ≤ W'.heap.size
  ap : bx < lo ∨ hi ≤ bx
theorem RR.of_alloc {W0 w5 : World} {P : Dc} {s0 s1 s2 : Value} {lo : Nat} (hb : Below W0.heap.size W0 w5) (hd : DV P w5 s0 s1 s2 lo w5.heap.size) (hl : W0.heap.size ≤ lo) (hlh : lo ≤ w5.heap.size) : RR W0 (w5.alloc (.cells (dA s0 s1 s2 P) 26)) P w5.heap.size s0 s1 s2 lo w5.heap.size :=
  ⟨hb.alloc hb.size _, hb.size, Deep.blk_alloc_new _ _, hd.keep (fun b _ h => Deep.blk_alloc_lt _ _ _ h), hl, hlh, by simp, .inr (Nat.le_refl _)⟩
theorem RR.of_set {W0 w5 : World} {P : Dc} {bx : Nat} {s0 s1 s2 : Value} {lo hi : Nat} (hb : Below W0.heap.size W0 w5) (hx : W0.heap.size ≤ bx) (hz : w5.heap[bx]? = some (.cells zA 26 (0, 0))) (hd : DV P w5 s0 s1 s2 lo hi) (hl : W0.heap.size ≤ lo) (hlh : lo ≤ hi) (hh : hi ≤ w5.heap.size) (hp : bx < lo) : RR W0 (set6 w5 bx s0 s1 s2 P) P bx s0 s1 s2 lo hi := by
  have h1 := heap_setCell_same w5 bx 0 _ _ s0 hz
  have h2 := heap_setCell_same _ bx 1 _ _ s1 h1
  have h3 := heap_setCell_same _ bx 2 _ _ s2 h2
  have h4 := heap_setCell_same _ bx 3 _ _ (.int .i64 P.used) h3
  have h5 := heap_setCell_same _ bx 4 _ _ (.int .i64 P.live) h4
  have h6 := heap_setCell_same _ bx 5 _ _ (.int .i64 P.turns) h5
  refine ⟨?_, hx, h6.trans (by simp), hd.keep (fun b h _ => ?_), hl, hlh, by unfold set6; simpa using hh, .inl hp⟩
  · unfold set6
    iterate 6 (refine Below.setCell ?_ (by exact hx) _)
    exact hb
  · unfold set6
    iterate 6 (refine (Deep.blk_setCell_other _ _ _ _ (by show b ≠ bx; omega)).trans ?_)
    rfl

theorem tkB {Pg : Program} {md : Region.Mode} {Q : Exit → Act → World → Prop} {S : World → Prop} {l rest : List Oper} (i : Nat) {oi : Oper} {v : Value} {fuel : Nat} {listed : Array Bool} {a : Act} {w : World} (hd : l.drop i = oi :: rest) (hc : (Region.noSelect l.toArray && Region.free md l.toArray listed i && (Region.ready md l.toArray listed).contains i) = true)
    (hw : Region.wanted oi (yielded l.toArray a.tmps) = true) (hy : ∀ w, S w → (execOp a.eval oi).run Pg w = .ok (.value v) w) (hS : S w) (h : wpAnyH Pg md l.toArray (QN Q) S fuel (listed.setIfInBounds i true) (a.put oi.dst v) w) : wpAnyH Pg md l.toArray (QN Q) S (fuel + 1) listed a w := by
  simp only [Bool.and_eq_true] at hc
  have hi : l.toArray[i]? = some oi := by
    have h1 : (l.drop i)[0]? = some oi := by rw [hd]; rfl
    rw [List.getElem?_drop] at h1
    simpa using h1
  exact wpAnyH_take hi hc.1.1 hc.1.2 hc.2 (fun _ _ _ h => h) (Or.inl ⟨hw, hy⟩) hS h
theorem zcells {w : World} {b : Nat} (h : w.heap[b]? = some (.cells zA 26 (0, 0))) : w.cell? ⟨b, 0, none⟩ = some (.slice none 0 0) ∧ w.cell? ⟨b, 1, none⟩ = some (.slice none 0 0) ∧ w.cell? ⟨b, 2, none⟩ = some (.slice none 0 0) ∧ w.cell? ⟨b, 3, none⟩ = some (.int .i64 0) ∧ w.cell? ⟨b, 4, none⟩ = some (.int .i64 0) ∧ w.cell? ⟨b, 5, none⟩ = some (.int .i64 0) ∧ ∀ q, w.frozen? ⟨b, q, none⟩ = false :=
  ⟨by simp [World.cell?, h], by simp [World.cell?, h], by simp [World.cell?, h], by simp [World.cell?, h], by simp [World.cell?, h], by simp [World.cell?, h], fun q => by simp [World.frozen?, h]⟩

theorem dcells {w : World} {b : Nat} {s0 s1 s2 : Value} {P : Dc} (h : w.heap[b]? = some (.cells (dA s0 s1 s2 P) 26 (0, 0))) : w.cell? ⟨b, 0, none⟩ = some s0 ∧ w.cell? ⟨b, 1, none⟩ = some s1 ∧ w.cell? ⟨b, 2, none⟩ = some s2 ∧ w.cell? ⟨b, 3, none⟩ = some (.int .i64 P.used) ∧ w.cell? ⟨b, 4, none⟩ = some (.int .i64 P.live) ∧ w.cell? ⟨b, 5, none⟩ = some (.int .i64 P.turns) ∧ b < w.heap.size :=
  ⟨by simp [World.cell?, h], by simp [World.cell?, h], by simp [World.cell?, h], by simp [World.cell?, h], by simp [World.cell?, h], by simp [World.cell?, h], (Array.getElem?_eq_some_iff.1 h).1⟩
abbrev dX (p0 p1 p2 : Nat) (d : Dc) : Array Value := dA (.slice (some ⟨p0, 0, none⟩) d.n d.n) (.slice (some ⟨p1, 0, none⟩) d.m d.m) (.slice (some ⟨p2, 0, none⟩) d.x d.x) d
theorem putO_small {d : Dc} {c : Int} {kv v : Vl} (hS : Small d) (hW : WfD d) (hm : d.m ≤ 4000000) (hh : c = 0 → Ky kv) : Small (putO d c kv v) := by
  unfold putO
  split
  · rename_i h
    have hI := sound_inv (sound_of h.1) hW
    have hK := hh h.2.1
    have hp := putD_m (v := v) keyLaw hI hK
    exact (putD_inv keyLaw hI hK hK.1 h.2.2).small (by omega)
  · exact ⟨Nat.zero_le _, Nat.zero_le _, Nat.zero_le _⟩
structure LS (w W : World) (la : Option Addr) (lc : Nat) (ia : Option Addr) (ic : Nat) (xa : Option Addr) (xc : Nat) (d : Dc) (k v : Vl) (P G : Dc) (b8 b9 b10 : Nat) (s0 s1 s2 u0 u1 u2 : Value) (p0 p1 p2 lo hi lo2 hi2 : Nat) : Prop where
  lb : LB w W la lc ia ic xa xc d k v
  x8 : W.heap[b8]? = some (.cells (dA s0 s1 s2 P) 26 (0, 0))
  x9 : W.heap[b9]? = some (.cells (dX p0 p1 p2 d) 26 (0, 0))
  x10 : W.heap[b10]? = some (.cells (dA u0 u1 u2 P) 26 (0, 0))
  dv0 : DV P W s0 s1 s2 lo hi
  dv1 : DV G W u0 u1 u2 lo2 hi2
  h0 : hi ≤ W.heap.size
  h2 : hi2 ≤ W.heap.size
theorem LS.keepB {w W W' : World} {la ia xa : Option Addr} {lc ic xc : Nat} {d P G : Dc} {k v : Vl} {b8 b9 b10 : Nat} {s0 s1 s2 u0 u1 u2 : Value} {p0 p1 p2 lo hi lo2 hi2 : Nat} (h : LS w W la lc ia ic xa xc d k v P G b8 b9 b10 s0 s1 s2 u0 u1 u2 p0 p1 p2 lo hi lo2 hi2) (hz : W.heap.size ≤ W'.heap.size) (hB : Below w.heap.size w W') (bad : Nat → Prop) (hb : ∀ b, b < W.heap.size → ¬ bad b → W'.heap[b]? = W.heap[b]?)
    (n0 : ¬ bad w.heap.size) (n1 : ¬ bad (w.heap.size + 1)) (n2 : ¬ bad (w.heap.size + 1 + 1)) (n8 : ¬ bad b8) (n9 : ¬ bad b9) (n10 : ¬ bad b10) (m0 : ∀ b, lo ≤ b → b < hi → ¬ bad b) {G' : Dc} (m1 : DV G' W' u0 u1 u2 lo2 hi2) : LS w W' la lc ia ic xa xc d k v P G' b8 b9 b10 s0 s1 s2 u0 u1 u2 p0 p1 p2 lo hi lo2 hi2 := by
  have zl := h.lb.size
  have hlt : ∀ {b : Nat} {o : Obj}, W.heap[b]? = some o → b < W.heap.size := fun e => (Array.getElem?_eq_some_iff.1 e).1
  have hh := h.h0
  exact ⟨⟨(hb _ (by omega) n0).trans h.lb.bD, (hb _ (by omega) n1).trans h.lb.bK, (hb _ (by omega) n2).trans h.lb.bV, hB⟩, (hb _ (hlt h.x8) n8).trans h.x8, (hb _ (hlt h.x9) n9).trans h.x9, (hb _ (hlt h.x10) n10).trans h.x10, h.dv0.keep (fun b h1 h2' => hb b (by omega) (m0 b h1 h2')), m1, by omega, by have := h.h2; omega⟩
theorem LS.keep {w W W' : World} {la ia xa : Option Addr} {lc ic xc : Nat} {d P G : Dc} {k v : Vl} {b8 b9 b10 : Nat} {s0 s1 s2 u0 u1 u2 : Value} {p0 p1 p2 lo hi lo2 hi2 : Nat} (h : LS w W la lc ia ic xa xc d k v P G b8 b9 b10 s0 s1 s2 u0 u1 u2 p0 p1 p2 lo hi lo2 hi2) (hb : Below W.heap.size W W') : LS w W' la lc ia ic xa xc d k v P G b8 b9 b10 s0 s1 s2 u0 u1 u2 p0 p1 p2 lo hi lo2 hi2 :=
  h.keepB hb.size (h.lb.bel.trans (hb.mono h.lb.bel.size)) (fun _ => False) (fun b hb' _ => hb.block b hb') id id id id id id (fun _ _ _ => id) (h.dv1.keep (fun b _ h' => hb.block b (by have := h.h2; omega)))

set_option maxRecDepth 100000 in
set_option maxHeartbeats 16000000 in
theorem law_dictPut (la : Option Addr) (lc : Nat) (ia : Option Addr) (ic : Nat) (xa : Option Addr) (xc : Nat) (d : Dc) (k v : Vl) (hkw : Wf k) (hvw : Wf v) (w : World) (hA : DAt w la ia xa d) (hL : Lens d) (hW : WfD d) (hT : Tabs w) :
    Calls Tryz.prog 7 #[Dv la lc ia ic xa xc d, V k.kind k.num k.flt k.str k.ref, V v.kind v.num v.flt v.str v.ref] w fun e w' => e = .returned (.bool true) ∧ Below w.heap.size w w' := by
  obtain ⟨c, kv, hk, hh⟩ := keyedK k hkw
  obtain ⟨P, hP⟩ : ∃ P, P = putO d c kv v := ⟨_, rfl⟩
  have hks := hkw.str
  have hvs := hvw.str
  have HP0 : Hid (LB w (((w.alloc (.cells #[.slice la d.n lc, .slice ia d.m ic, .slice xa d.x xc, .int .i64 d.used, .int .i64 d.live, .int .i64 d.turns] 53)).alloc (.cells #[.int .i64 k.kind, .int .i64 k.num, .float .f64 k.flt, .string k.str, .int .i64 k.ref] 57)).alloc (.cells #[.int .i64 v.kind, .int .i64 v.num, .float .f64 v.flt, .string v.str, .int .i64 v.ref] 57)) la lc ia ic xa xc d k v) := hide (by
    refine ⟨(Deep.blk_alloc_lt _ _ _ (by simp; omega)).trans ((Deep.blk_alloc_lt _ _ _ (by simp)).trans (Deep.blk_alloc_new _ _)), (Deep.blk_alloc_lt _ _ _ (by simp)).trans ?_, ?_, (((Below.refl _ _).alloc (Nat.le_refl _) _).alloc (by simp) _).alloc (by simp; omega) _⟩
    · have h1 := Deep.blk_alloc_new (w.alloc (.cells #[.slice la d.n lc, .slice ia d.m ic, .slice xa d.x xc, .int .i64 d.used, .int .i64 d.live, .int .i64 d.turns] 53)) (.cells #[.int .i64 k.kind, .int .i64 k.num, .float .f64 k.flt, .string k.str, .int .i64 k.ref] 57)
      simpa using h1
    · have h1 := Deep.blk_alloc_new ((w.alloc (.cells #[.slice la d.n lc, .slice ia d.m ic, .slice xa d.x xc, .int .i64 d.used, .int .i64 d.live, .int .i64 d.turns] 53)).alloc (.cells #[.int .i64 k.kind, .int .i64 k.num, .float .f64 k.flt, .string k.str, .int .i64 k.ref] 57)) (.cells #[.int .i64 v.kind, .int .i64 v.num, .float .f64 v.flt, .string v.str, .int .i64 v.ref] 57)
      simpa using h1)
  have HA := hide hA
  have HL := hide hL
  have HW := hide hW
  have HT := hide hT
  have HPQ := hide hP
  have HKK := hide hk
  have HHH := hide hh
  clear hA hL hW hT hP hk hh
  go_enter Tryz.func7, Tryz.ntmps7
  go_wp2_with fail
  refine (szDict_le la lc ia ic xa xc d 1048576 _ ((unhide HA).below (unhide HP0).bel) (unhide HL) (by omega) (by omega)).mono ?_
  rintro e w1 ⟨⟨r, rfl, hr⟩, hb1⟩
  have hB1 := (unhide HP0).keep hb1 (unhide HP0).size
  have z1 := hB1.size
  obtain ⟨k0, k1, k2, k3, k4⟩ := hB1.kc
  have l1 : w.heap.size + 1 < w1.heap.size := by omega
  have HB1 := hide hB1
  clear hb1 hB1 HP0
  rcases hr with rfl | ⟨hr0, hr1, hS, hm4⟩
  · clear k0 k1 k2 k3 k4
    go_wp2_with fail
    go_ret
    exact ⟨rfl, (unhide HB1).bel⟩
  have HS := hide hS
  clear hS
  go_wp2_with fail
  refine (sz_any k.kind k.num k.flt k.str k.ref r _ hks (by omega) (by omega)).mono ?_
  rintro e w2 ⟨rfl, hb2⟩
  have hB2 := (unhide HB1).keep hb2 (unhide HB1).size
  have z2 := hB2.size
  obtain ⟨v0, v1, v2, v3, v4⟩ := hB2.vc
  have HB2 := hide hB2
  clear hb2 hB2 HB1 k0 k1 k2 k3 k4 z1 l1
  by_cases hneg : r < k.str.size
  · rw [if_pos hneg]
    clear v0 v1 v2 v3 v4
    go_wp2_with fail
    go_ret
    exact ⟨rfl, (unhide HB2).bel⟩
  rw [if_neg hneg]
  have hge : ¬ (r - k.str.size < 0) := by omega
  obtain ⟨r2, hr2⟩ : ∃ r2 : Int, r2 = r - k.str.size := ⟨_, rfl⟩
  have hr20 : 0 ≤ r2 := by omega
  have hr21 : r2 ≤ 1048576 := by omega
  rw [← hr2] at hge ⊢
  clear hr2 hneg hr0 hr1
  go_wp2_with fail
  refine (sz_any v.kind v.num v.flt v.str v.ref r2 _ hvs (by omega) (by omega)).mono ?_
  rintro e W ⟨rfl, hb3⟩
  have hBW := (unhide HB2).keep hb3 (unhide HB2).size
  have zW := hBW.size
  have HBW := hide hBW
  clear hb3 HB2 v0 v1 v2 v3 v4 z2 hBW
  by_cases hneg : r2 < v.str.size
  · rw [if_pos hneg]
    go_wp2_with fail
    go_ret
    exact ⟨rfl, (unhide HBW).bel⟩
  rw [if_neg hneg]
  have hge3 : ¬ (r2 - v.str.size < 0) := by omega
  obtain ⟨r3, hr3⟩ : ∃ r3 : Int, r3 = r2 - v.str.size := ⟨_, rfl⟩
  rw [← hr3] at hge3 ⊢
  clear hr3 hneg
  go_wp2_with fail
  refine Code.wp_mono (Q := fun e a' w' => e = .normal ∧ ∃ (bx : Nat) (s0 s1 s2 : Value) (lo hi t0 t1 t2 : Nat), a' = { tmps := #[Dv la lc ia ic xa xc d, V k.kind k.num k.flt k.str k.ref, V v.kind v.num v.flt v.str v.ref, .pointer (some ⟨w.heap.size, 0, none⟩), .pointer (some ⟨w.heap.size + 1, 0, none⟩), .pointer (some ⟨w.heap.size + 1 + 1, 0, none⟩), .bool false, .int .i64 r3, .pointer (some ⟨bx, 0, none⟩), undef, undef, undef, undef, undef, undef, Dv la lc ia ic xa xc d, .int .i64 1048576, .int .i64 r, .int .i64 r, .bool (decide (r < 0)), V k.kind k.num k.flt k.str k.ref, .int .i64 r, .int .i64 r2, .int .i64 r2, .bool (decide (r2 < 0)), V v.kind v.num v.flt v.str v.ref, .int .i64 r2, .int .i64 r3, .int .i64 r3, .bool (decide (r3 < 0)), Dv la lc ia ic xa xc d, Dv (some ⟨t0, 0, none⟩) d.n (some ⟨t1, 0, none⟩) d.m (some ⟨t2, 0, none⟩) d.x d, V k.kind k.num k.flt k.str k.ref, V k.kind k.num k.flt k.str k.ref, V v.kind v.num v.flt v.str v.ref, V v.kind v.num v.flt v.str v.ref, DvV s0 s1 s2 P, undef, undef, undef, undef, undef, undef, undef, undef, undef, undef, undef, undef, undef, undef, undef, undef, undef, undef, undef, undef, undef, undef, undef, undef, undef, undef, undef, undef, undef, undef, undef, undef, undef, undef, undef, undef, undef, undef, undef, undef, undef, undef, undef, undef, undef, undef, undef, undef, undef, undef, undef, undef, undef, undef, undef, undef, undef, undef], defers := [] } ∧ RR W.drew w' P bx s0 s1 s2 lo hi) ?cont ?reg
  case reg =>
    have hBW := unhide HBW
    obtain ⟨q0, q1, q2, q3, q4, q5⟩ := hBW.dc
    obtain ⟨k0, k1, k2, k3, k4⟩ := hBW.kc
    obtain ⟨v0, v1, v2, v3, v4⟩ := hBW.vc
    have lW0 : w.heap.size < W.heap.size := by omega
    have lW1 : w.heap.size + 1 < W.heap.size := by omega
    obtain ⟨D, hD⟩ : ∃ D, D = W.drew := ⟨_, rfl⟩
    have HTD : Hid (∀ W', Below D.heap.size D W' → Calls Tryz.prog 30 #[Dv la lc ia ic xa xc d] W' fun e w' => (∃ t0 t1 t2, e = .returned (Dv (some ⟨t0, 0, none⟩) d.n (some ⟨t1, 0, none⟩) d.m (some ⟨t2, 0, none⟩) d.x d) ∧ DAt w' (some ⟨t0, 0, none⟩) (some ⟨t1, 0, none⟩) (some ⟨t2, 0, none⟩) d) ∧ Below W'.heap.size W' w') := hide (fun W' hB => toDict_any la lc ia ic xa xc d W' ((unhide HA).below (hBW.bel.trans (by rw [hD] at hB; exact ((Below.refl W.heap.size W).drew.trans hB).mono (by omega)))) (unhide HS))
    have HPT : Hid (∀ W' (t0 t1 t2 : Nat), DAt W' (some ⟨t0, 0, none⟩) (some ⟨t1, 0, none⟩) (some ⟨t2, 0, none⟩) d → Below D.heap.size D W' → Calls Tryz.prog 19 #[Dv (some ⟨t0, 0, none⟩) d.n (some ⟨t1, 0, none⟩) d.m (some ⟨t2, 0, none⟩) d.x d, V k.kind k.num k.flt k.str k.ref, V v.kind v.num v.flt v.str v.ref] W' fun e w' => (∃ s0 s1 s2, e = .returned (DvV s0 s1 s2 P) ∧ DV P w' s0 s1 s2 W'.heap.size w'.heap.size) ∧ Below W'.heap.size W' w') := hide (fun W' t0 t1 t2 hD' _ => by rw [unhide HPQ]; exact specPut _ _ _ _ _ _ d k v c kv W' hD' (unhide HS) (unhide HW) hm4 (unhide HKK) (unhide HHH))
    have hBD : Below D.heap.size D D := Below.refl _ _
    have q0' : D.cell? ⟨w.heap.size, 0, none⟩ = some (.slice la d.n lc) := by rw [hD]; exact q0
    have q1' : D.cell? ⟨w.heap.size, 1, none⟩ = some (.slice ia d.m ic) := by rw [hD]; exact q1
    have q2' : D.cell? ⟨w.heap.size, 2, none⟩ = some (.slice xa d.x xc) := by rw [hD]; exact q2
    have q3' : D.cell? ⟨w.heap.size, 3, none⟩ = some (.int .i64 d.used) := by rw [hD]; exact q3
    have q4' : D.cell? ⟨w.heap.size, 4, none⟩ = some (.int .i64 d.live) := by rw [hD]; exact q4
    have q5' : D.cell? ⟨w.heap.size, 5, none⟩ = some (.int .i64 d.turns) := by rw [hD]; exact q5
    have k0' : D.cell? ⟨w.heap.size + 1, 0, none⟩ = some (.int .i64 k.kind) := by rw [hD]; exact k0
    have k1' : D.cell? ⟨w.heap.size + 1, 1, none⟩ = some (.int .i64 k.num) := by rw [hD]; exact k1
    have k2' : D.cell? ⟨w.heap.size + 1, 2, none⟩ = some (.float .f64 k.flt) := by rw [hD]; exact k2
    have k3' : D.cell? ⟨w.heap.size + 1, 3, none⟩ = some (.string k.str) := by rw [hD]; exact k3
    have k4' : D.cell? ⟨w.heap.size + 1, 4, none⟩ = some (.int .i64 k.ref) := by rw [hD]; exact k4
    have v0' : D.cell? ⟨w.heap.size + 1 + 1, 0, none⟩ = some (.int .i64 v.kind) := by rw [hD]; exact v0
    have v1' : D.cell? ⟨w.heap.size + 1 + 1, 1, none⟩ = some (.int .i64 v.num) := by rw [hD]; exact v1
    have v2' : D.cell? ⟨w.heap.size + 1 + 1, 2, none⟩ = some (.float .f64 v.flt) := by rw [hD]; exact v2
    have v3' : D.cell? ⟨w.heap.size + 1 + 1, 3, none⟩ = some (.string v.str) := by rw [hD]; exact v3
    have v4' : D.cell? ⟨w.heap.size + 1 + 1, 4, none⟩ = some (.int .i64 v.ref) := by rw [hD]; exact v4
    have lD0 : w.heap.size < D.heap.size := by rw [hD]; exact lW0
    have lD1 : w.heap.size + 1 < D.heap.size := by rw [hD]; exact lW1
    have lD2 : w.heap.size + 1 + 1 < D.heap.size := by rw [hD]; exact zW
    refine wpN_held (Below D.heap.size D) (by kernel_rfl) ?_
    change wpAnyH _ _ _ _ _ _ _ _ (World.drew _)
    rw [← hD]
    clear hD hBW q0 q1 q2 q3 q4 q5 k0 k1 k2 k3 k4 v0 v1 v2 v3 v4 HBW
    refine tkB 0 (v := ?_) rfl (by kernel_rfl) (by rfl) ?_ (by assumption) ?_
    rotate_left
    · intro w' hSw'
      obtain ⟨hc', hf'⟩ := bcell hSw'
      go_simp
      first | done | with_reducible rfl
    simp only [Act.put, List.setIfInBounds_toArray, List.set_cons_succ, List.set_cons_zero]
    refine tkB 2 (v := ?_) rfl (by kernel_rfl) (by rfl) ?_ (by assumption) ?_
    rotate_left
    · intro w' hSw'
      obtain ⟨hc', hf'⟩ := bcell hSw'
      go_simp
      first | done | with_reducible rfl
    simp only [Act.put, List.setIfInBounds_toArray, List.set_cons_succ, List.set_cons_zero]
    refine tkB 4 (v := ?_) rfl (by kernel_rfl) (by rfl) ?_ (by assumption) ?_
    rotate_left
    · intro w' hSw'
      obtain ⟨hc', hf'⟩ := bcell hSw'
      go_simp
      first | done | with_reducible rfl
    simp only [Act.put, List.setIfInBounds_toArray, List.set_cons_succ, List.set_cons_zero]
    clear q0' q1' q2' q3' q4' q5' k0' k1' k2' k3' k4' v0' v1' v2' v3' v4'
    refine wpAnyH_ready (rs := [1, 7]) (by kernel_rfl) (by simp) ?_
    refine AllReadyH.cons rfl (fun K hK => ?_) (AllReadyH.cons rfl (fun K hK => ?_) AllReadyH.nil)
    · go_simp
      refine (unhide HTD D hBD).mono ?_
      rintro e x0 ⟨⟨t0, t1, t2, rfl, hDA⟩, hb⟩
      have hBx0 := hBD.trans (hb.mono hBD.size)
      refine hK.out _ _ hBx0 (fun _ => ?_)
      clear hK K hb
      refine wpAnyH_ready (rs := [3, 7]) (by kernel_rfl) (by simp) ?_
      refine AllReadyH.cons rfl (fun K hK => ?_) (AllReadyH.cons rfl (fun K hK => ?_) AllReadyH.nil)
      · go_simp
        refine (toValue_any k.kind k.num k.flt k.str k.ref _).mono ?_
        rintro e x1 ⟨rfl, hb⟩
        have hDA := hDA.below hb
        have hBx1 := hBx0.trans (hb.mono hBx0.size)
        refine hK.out _ _ hBx1 (fun _ => ?_)
        clear hK K hb
        refine wpAnyH_ready (rs := [5, 7]) (by kernel_rfl) (by simp) ?_
        refine AllReadyH.cons rfl (fun K hK => ?_) (AllReadyH.cons rfl (fun K hK => ?_) AllReadyH.nil)
        · go_simp
          refine (toValue_any v.kind v.num v.flt v.str v.ref _).mono ?_
          rintro e x2 ⟨rfl, hb⟩
          have hDA := hDA.below hb
          have hBx2 := hBx1.trans (hb.mono hBx1.size)
          refine hK.out _ _ hBx2 (fun _ => ?_)
          clear hK K hb
          refine wpAnyH_ready (rs := [6, 7]) (by kernel_rfl) (by simp) ?_
          refine AllReadyH.cons rfl (fun K hK => ?_) (AllReadyH.cons rfl (fun K hK => ?_) AllReadyH.nil)
          · go_simp
            refine (unhide HPT x2 t0 t1 t2 hDA hBx2).mono ?_
            rintro e x3 ⟨⟨s0, s1, s2, rfl, hDV⟩, hb⟩
            obtain ⟨ua, uc, ub, ud, ue, uf, e0, e1, e2, -⟩ := hDV.at
            subst e0 e1 e2
            have hlo : D.heap.size ≤ x2.heap.size := hBx2.size
            have hlh : x2.heap.size ≤ x3.heap.size := hb.size
            have hBx3 := hBx2.trans (hb.mono hBx2.size)
            refine hK.out _ _ hBx3 (fun _ => ?_)
            clear hK K hb
            refine wpAnyH_ready (rs := [7]) (by kernel_rfl) (by simp) ?_
            refine AllReadyH.cons rfl (fun K hK => ?_) AllReadyH.nil
            go_simp
            refine hK.out _ _ (hBx3.alloc hBx3.size _) (fun _ => ?_)
            clear hK K
            refine wpAnyH_ready (rs := [8]) (by kernel_rfl) (by simp) ?_
            refine AllReadyH.cons rfl (fun K hK => ?_) AllReadyH.nil
            go_simp
            refine hK.out _ _ (hBx3.alloc hBx3.size _) (fun _ => ?_)
            clear hK K
            refine wpAnyH_done (by kernel_rfl) ?_ _
            exact ⟨rfl, _, _, _, _, _, _, t0, t1, t2, rfl, RR.of_alloc hBx3 hDV (by omega) hlh⟩
          · go_simp
            refine hK.out _ _ (hBx2.alloc hBx2.size _) (fun _ => ?_)
            clear hK K
            obtain ⟨yx2, he⟩ : ∃ y, y = x2.alloc (.cells zA 26) := ⟨_, rfl⟩
            rw [← he]
            have hb : Below x2.heap.size x2 yx2 := by rw [he]; exact (Below.refl _ _).alloc (Nat.le_refl _) _
            have hzyx2 : yx2.heap[x2.heap.size]? = some (.cells zA 26 (0, 0)) := by rw [he]; exact Deep.blk_alloc_new _ _
            have hsz : yx2.heap.size = x2.heap.size + 1 := by rw [he]; simp
            have hxl : D.heap.size ≤ x2.heap.size := hBx2.size
            have hByx2 := hBx2.trans (hb.mono hBx2.size)
            have hDA := hDA.below hb
            clear he hb
            refine wpAnyH_ready (rs := [6]) (by kernel_rfl) (by simp) ?_
            refine AllReadyH.cons rfl (fun K hK => ?_) AllReadyH.nil
            go_simp
            refine (unhide HPT yx2 t0 t1 t2 hDA hByx2).mono ?_
            rintro e x3a ⟨⟨s0, s1, s2, rfl, hDV⟩, hb⟩
            obtain ⟨ua, uc, ub, ud, ue, uf, e0, e1, e2, -⟩ := hDV.at
            subst e0 e1 e2
            have hlo : D.heap.size ≤ yx2.heap.size := hByx2.size
            have hlh : yx2.heap.size ≤ x3a.heap.size := hb.size
            have hlx : x2.heap.size < yx2.heap.size := (Array.getElem?_eq_some_iff.1 hzyx2).1
            have hBx3a := hByx2.trans (hb.mono hByx2.size)
            have hzx3a := (hb.block _ (Array.getElem?_eq_some_iff.1 hzyx2).1).trans hzyx2
            refine hK.out _ _ hBx3a (fun _ => ?_)
            clear hK K hb
            have hzc := zcells hzx3a
            obtain ⟨y0, y1, y2, y3, y4, y5, yf⟩ := hzc
            refine wpAnyH_ready (rs := [8]) (by kernel_rfl) (by simp) ?_
            refine AllReadyH.cons rfl (fun K hK => ?_) AllReadyH.nil
            go_simp
            have hRR := RR.of_set (P := P) hBx3a hxl hzx3a hDV (by omega) hlh (Nat.le_refl _) (by omega)
            unfold set6 at hRR
            refine hK.out _ _ hRR.bel (fun _ => ?_)
            clear hK K
            refine wpAnyH_done (by kernel_rfl) ?_ _
            exact ⟨rfl, _, _, _, _, _, _, t0, t1, t2, rfl, hRR⟩
        · go_simp
          refine hK.out _ _ (hBx1.alloc hBx1.size _) (fun _ => ?_)
          clear hK K
          obtain ⟨yx1, he⟩ : ∃ y, y = x1.alloc (.cells zA 26) := ⟨_, rfl⟩
          rw [← he]
          have hb : Below x1.heap.size x1 yx1 := by rw [he]; exact (Below.refl _ _).alloc (Nat.le_refl _) _
          have hzyx1 : yx1.heap[x1.heap.size]? = some (.cells zA 26 (0, 0)) := by rw [he]; exact Deep.blk_alloc_new _ _
          have hsz : yx1.heap.size = x1.heap.size + 1 := by rw [he]; simp
          have hxl : D.heap.size ≤ x1.heap.size := hBx1.size
          have hByx1 := hBx1.trans (hb.mono hBx1.size)
          have hDA := hDA.below hb
          clear he hb
          refine wpAnyH_ready (rs := [5]) (by kernel_rfl) (by simp) ?_
          refine AllReadyH.cons rfl (fun K hK => ?_) AllReadyH.nil
          go_simp
          refine (toValue_any v.kind v.num v.flt v.str v.ref _).mono ?_
          rintro e x2a ⟨rfl, hb⟩
          have hDA := hDA.below hb
          have hBx2a := hByx1.trans (hb.mono hByx1.size)
          have hzx2a := (hb.block _ (Array.getElem?_eq_some_iff.1 hzyx1).1).trans hzyx1
          refine hK.out _ _ hBx2a (fun _ => ?_)
          clear hK K hb
          refine wpAnyH_ready (rs := [6]) (by kernel_rfl) (by simp) ?_
          refine AllReadyH.cons rfl (fun K hK => ?_) AllReadyH.nil
          go_simp
          refine (unhide HPT x2a t0 t1 t2 hDA hBx2a).mono ?_
          rintro e x3a ⟨⟨s0, s1, s2, rfl, hDV⟩, hb⟩
          obtain ⟨ua, uc, ub, ud, ue, uf, e0, e1, e2, -⟩ := hDV.at
          subst e0 e1 e2
          have hlo : D.heap.size ≤ x2a.heap.size := hBx2a.size
          have hlh : x2a.heap.size ≤ x3a.heap.size := hb.size
          have hlx : x1.heap.size < x2a.heap.size := (Array.getElem?_eq_some_iff.1 hzx2a).1
          have hBx3a := hBx2a.trans (hb.mono hBx2a.size)
          have hzx3a := (hb.block _ (Array.getElem?_eq_some_iff.1 hzx2a).1).trans hzx2a
          refine hK.out _ _ hBx3a (fun _ => ?_)
          clear hK K hb
          have hzc := zcells hzx3a
          obtain ⟨y0, y1, y2, y3, y4, y5, yf⟩ := hzc
          refine wpAnyH_ready (rs := [8]) (by kernel_rfl) (by simp) ?_
          refine AllReadyH.cons rfl (fun K hK => ?_) AllReadyH.nil
          go_simp
          have hRR := RR.of_set (P := P) hBx3a hxl hzx3a hDV (by omega) hlh (Nat.le_refl _) (by omega)
          unfold set6 at hRR
          refine hK.out _ _ hRR.bel (fun _ => ?_)
          clear hK K
          refine wpAnyH_done (by kernel_rfl) ?_ _
          exact ⟨rfl, _, _, _, _, _, _, t0, t1, t2, rfl, hRR⟩
      · go_simp
        refine hK.out _ _ (hBx0.alloc hBx0.size _) (fun _ => ?_)
        clear hK K
        obtain ⟨yx0, he⟩ : ∃ y, y = x0.alloc (.cells zA 26) := ⟨_, rfl⟩
        rw [← he]
        have hb : Below x0.heap.size x0 yx0 := by rw [he]; exact (Below.refl _ _).alloc (Nat.le_refl _) _
        have hzyx0 : yx0.heap[x0.heap.size]? = some (.cells zA 26 (0, 0)) := by rw [he]; exact Deep.blk_alloc_new _ _
        have hsz : yx0.heap.size = x0.heap.size + 1 := by rw [he]; simp
        have hxl : D.heap.size ≤ x0.heap.size := hBx0.size
        have hByx0 := hBx0.trans (hb.mono hBx0.size)
        have hDA := hDA.below hb
        clear he hb
        refine wpAnyH_ready (rs := [3]) (by kernel_rfl) (by simp) ?_
        refine AllReadyH.cons rfl (fun K hK => ?_) AllReadyH.nil
        go_simp
        refine (toValue_any k.kind k.num k.flt k.str k.ref _).mono ?_
        rintro e x1a ⟨rfl, hb⟩
        have hDA := hDA.below hb
        have hBx1a := hByx0.trans (hb.mono hByx0.size)
        have hzx1a := (hb.block _ (Array.getElem?_eq_some_iff.1 hzyx0).1).trans hzyx0
        refine hK.out _ _ hBx1a (fun _ => ?_)
        clear hK K hb
        refine wpAnyH_ready (rs := [5]) (by kernel_rfl) (by simp) ?_
        refine AllReadyH.cons rfl (fun K hK => ?_) AllReadyH.nil
        go_simp
        refine (toValue_any v.kind v.num v.flt v.str v.ref _).mono ?_
        rintro e x2a ⟨rfl, hb⟩
        have hDA := hDA.below hb
        have hBx2a := hBx1a.trans (hb.mono hBx1a.size)
        have hzx2a := (hb.block _ (Array.getElem?_eq_some_iff.1 hzx1a).1).trans hzx1a
        refine hK.out _ _ hBx2a (fun _ => ?_)
        clear hK K hb
        refine wpAnyH_ready (rs := [6]) (by kernel_rfl) (by simp) ?_
        refine AllReadyH.cons rfl (fun K hK => ?_) AllReadyH.nil
        go_simp
        refine (unhide HPT x2a t0 t1 t2 hDA hBx2a).mono ?_
        rintro e x3a ⟨⟨s0, s1, s2, rfl, hDV⟩, hb⟩
        obtain ⟨ua, uc, ub, ud, ue, uf, e0, e1, e2, -⟩ := hDV.at
        subst e0 e1 e2
        have hlo : D.heap.size ≤ x2a.heap.size := hBx2a.size
        have hlh : x2a.heap.size ≤ x3a.heap.size := hb.size
        have hlx : x0.heap.size < x2a.heap.size := (Array.getElem?_eq_some_iff.1 hzx2a).1
        have hBx3a := hBx2a.trans (hb.mono hBx2a.size)
        have hzx3a := (hb.block _ (Array.getElem?_eq_some_iff.1 hzx2a).1).trans hzx2a
        refine hK.out _ _ hBx3a (fun _ => ?_)
        clear hK K hb
        have hzc := zcells hzx3a
        obtain ⟨y0, y1, y2, y3, y4, y5, yf⟩ := hzc
        refine wpAnyH_ready (rs := [8]) (by kernel_rfl) (by simp) ?_
        refine AllReadyH.cons rfl (fun K hK => ?_) AllReadyH.nil
        go_simp
        have hRR := RR.of_set (P := P) hBx3a hxl hzx3a hDV (by omega) hlh (Nat.le_refl _) (by omega)
        unfold set6 at hRR
        refine hK.out _ _ hRR.bel (fun _ => ?_)
        clear hK K
        refine wpAnyH_done (by kernel_rfl) ?_ _
        exact ⟨rfl, _, _, _, _, _, _, t0, t1, t2, rfl, hRR⟩
    · go_simp
      refine hK.out _ _ (hBD.alloc hBD.size _) (fun _ => ?_)
      clear hK K
      obtain ⟨yD, he⟩ : ∃ y, y = D.alloc (.cells zA 26) := ⟨_, rfl⟩
      rw [← he]
      have hb : Below D.heap.size D yD := by rw [he]; exact (Below.refl _ _).alloc (Nat.le_refl _) _
      have hzyD : yD.heap[D.heap.size]? = some (.cells zA 26 (0, 0)) := by rw [he]; exact Deep.blk_alloc_new _ _
      have hsz : yD.heap.size = D.heap.size + 1 := by rw [he]; simp
      have hxl : D.heap.size ≤ D.heap.size := hBD.size
      have hByD := hBD.trans (hb.mono hBD.size)
      clear he hb
      refine wpAnyH_ready (rs := [1]) (by kernel_rfl) (by simp) ?_
      refine AllReadyH.cons rfl (fun K hK => ?_) AllReadyH.nil
      go_simp
      refine (unhide HTD yD hByD).mono ?_
      rintro e x0a ⟨⟨t0, t1, t2, rfl, hDA⟩, hb⟩
      have hBx0a := hByD.trans (hb.mono hByD.size)
      have hzx0a := (hb.block _ (Array.getElem?_eq_some_iff.1 hzyD).1).trans hzyD
      refine hK.out _ _ hBx0a (fun _ => ?_)
      clear hK K hb
      refine wpAnyH_ready (rs := [3]) (by kernel_rfl) (by simp) ?_
      refine AllReadyH.cons rfl (fun K hK => ?_) AllReadyH.nil
      go_simp
      refine (toValue_any k.kind k.num k.flt k.str k.ref _).mono ?_
      rintro e x1a ⟨rfl, hb⟩
      have hDA := hDA.below hb
      have hBx1a := hBx0a.trans (hb.mono hBx0a.size)
      have hzx1a := (hb.block _ (Array.getElem?_eq_some_iff.1 hzx0a).1).trans hzx0a
      refine hK.out _ _ hBx1a (fun _ => ?_)
      clear hK K hb
      refine wpAnyH_ready (rs := [5]) (by kernel_rfl) (by simp) ?_
      refine AllReadyH.cons rfl (fun K hK => ?_) AllReadyH.nil
      go_simp
      refine (toValue_any v.kind v.num v.flt v.str v.ref _).mono ?_
      rintro e x2a ⟨rfl, hb⟩
      have hDA := hDA.below hb
      have hBx2a := hBx1a.trans (hb.mono hBx1a.size)
      have hzx2a := (hb.block _ (Array.getElem?_eq_some_iff.1 hzx1a).1).trans hzx1a
      refine hK.out _ _ hBx2a (fun _ => ?_)
      clear hK K hb
      refine wpAnyH_ready (rs := [6]) (by kernel_rfl) (by simp) ?_
      refine AllReadyH.cons rfl (fun K hK => ?_) AllReadyH.nil
      go_simp
      refine (unhide HPT x2a t0 t1 t2 hDA hBx2a).mono ?_
      rintro e x3a ⟨⟨s0, s1, s2, rfl, hDV⟩, hb⟩
      obtain ⟨ua, uc, ub, ud, ue, uf, e0, e1, e2, -⟩ := hDV.at
      subst e0 e1 e2
      have hlo : D.heap.size ≤ x2a.heap.size := hBx2a.size
      have hlh : x2a.heap.size ≤ x3a.heap.size := hb.size
      have hlx : D.heap.size < x2a.heap.size := (Array.getElem?_eq_some_iff.1 hzx2a).1
      have hBx3a := hBx2a.trans (hb.mono hBx2a.size)
      have hzx3a := (hb.block _ (Array.getElem?_eq_some_iff.1 hzx2a).1).trans hzx2a
      refine hK.out _ _ hBx3a (fun _ => ?_)
      clear hK K hb
      have hzc := zcells hzx3a
      obtain ⟨y0, y1, y2, y3, y4, y5, yf⟩ := hzc
      refine wpAnyH_ready (rs := [8]) (by kernel_rfl) (by simp) ?_
      refine AllReadyH.cons rfl (fun K hK => ?_) AllReadyH.nil
      go_simp
      have hRR := RR.of_set (P := P) hBx3a hxl hzx3a hDV (by omega) hlh (Nat.le_refl _) (by omega)
      unfold set6 at hRR
      refine hK.out _ _ hRR.bel (fun _ => ?_)
      clear hK K
      refine wpAnyH_done (by kernel_rfl) ?_ _
      exact ⟨rfl, _, _, _, _, _, _, t0, t1, t2, rfl, hRR⟩
  case cont =>
    rintro e a' W1 ⟨rfl, b8, s0, s1, s2, lo, hi, t0, t1, t2, rfl, hR⟩
    dsimp only
    have hBW1 : LB w W1 la lc ia ic xa xc d k v := (unhide HBW).keep ((Below.refl W.heap.size W).drew.trans hR.bel) zW
    have z1 := hBW1.size
    obtain ⟨q0, q1, q2, q3, q4, q5⟩ := hBW1.dc
    have l10 : w.heap.size < W1.heap.size := by omega
    have HBW1 := hide hBW1
    have HR := hide hR
    clear hBW1 hR
    go_wp2_with fail
    refine (toDict_row la lc ia ic xa xc d _ ((unhide HA).below (unhide HBW1).bel) (unhide HS)).mono ?_
    rintro e w2 ⟨⟨p0, p1, p2, rfl, hDA2, hTR⟩, hb2⟩
    have hBW2 := (unhide HBW1).keep hb2 z1
    have z2 := hBW2.size
    obtain ⟨pl0, pl1, pl2⟩ := hTR.lt
    have pb0 := hTR.b0
    have pb1 := hTR.b1
    have pb2 := hTR.b2
    have z12 := hb2.size
    have hl8 := (Array.getElem?_eq_some_iff.1 (unhide HR).blk).1
    have hhi := (unhide HR).hi0
    have HBW2 := hide hBW2
    have HDA2 := hide hDA2
    have HTR := hide hTR
    have HB12 := hide hb2
    clear hBW2 hDA2 hTR hb2 q0 q1 q2 q3 q4 q5 l10
    go_wp2_with fail
    obtain ⟨X, hX⟩ : ∃ X, X = w2.alloc (.cells (dX p0 p1 p2 d) 26) := ⟨_, rfl⟩
    rw [← hX]
    have hbX : Below w2.heap.size w2 X := by rw [hX]; exact (Below.refl _ _).alloc (Nat.le_refl _) _
    have hX9 : X.heap[w2.heap.size]? = some (.cells (dX p0 p1 p2 d) 26 (0, 0)) := by rw [hX]; exact Deep.blk_alloc_new _ _
    have hzX : X.heap.size = w2.heap.size + 1 := by rw [hX]; simp
    have HBX : Hid (LB w X la lc ia ic xa xc d k v) := hide ((unhide HBW2).keep hbX z2)
    clear hX
    refine Code.wp_mono (Q := fun e a' w' => e = .normal ∧ ∃ (bx : Nat) (u0 u1 u2 : Value) (lo2 hi2 : Nat), a' = { tmps := #[Dv la lc ia ic xa xc d, V k.kind k.num k.flt k.str k.ref, V v.kind v.num v.flt v.str v.ref, .pointer (some ⟨w.heap.size, 0, none⟩), .pointer (some ⟨w.heap.size + 1, 0, none⟩), .pointer (some ⟨w.heap.size + 1 + 1, 0, none⟩), .bool false, .int .i64 r3, .pointer (some ⟨b8, 0, none⟩), .pointer (some ⟨w2.heap.size, 0, none⟩), .pointer (some ⟨bx, 0, none⟩), undef, undef, undef, undef, Dv la lc ia ic xa xc d, .int .i64 1048576, .int .i64 r, .int .i64 r, .bool (decide (r < 0)), V k.kind k.num k.flt k.str k.ref, .int .i64 r, .int .i64 r2, .int .i64 r2, .bool (decide (r2 < 0)), V v.kind v.num v.flt v.str v.ref, .int .i64 r2, .int .i64 r3, .int .i64 r3, .bool (decide (r3 < 0)), Dv la lc ia ic xa xc d, Dv (some ⟨t0, 0, none⟩) d.n (some ⟨t1, 0, none⟩) d.m (some ⟨t2, 0, none⟩) d.x d, V k.kind k.num k.flt k.str k.ref, V k.kind k.num k.flt k.str k.ref, V v.kind v.num v.flt v.str v.ref, V v.kind v.num v.flt v.str v.ref, DvV s0 s1 s2 P, Dv la lc ia ic xa xc d, Dv (some ⟨p0, 0, none⟩) d.n (some ⟨p1, 0, none⟩) d.m (some ⟨p2, 0, none⟩) d.x d, Dv (some ⟨p0, 0, none⟩) d.n (some ⟨p1, 0, none⟩) d.m (some ⟨p2, 0, none⟩) d.x d, V k.kind k.num k.flt k.str k.ref, V k.kind k.num k.flt k.str k.ref, V v.kind v.num v.flt v.str v.ref, V v.kind v.num v.flt v.str v.ref, DvV u0 u1 u2 P, undef, undef, undef, undef, undef, undef, undef, undef, undef, undef, undef, undef, undef, undef, undef, undef, undef, undef, undef, undef, undef, undef, undef, undef, undef, undef, undef, undef, undef, undef, undef, undef, undef, undef, undef, undef, undef, undef, undef, undef, undef, undef, undef, undef, undef, undef, undef, undef, undef, undef], defers := [] } ∧ RR X.drew w' P bx u0 u1 u2 lo2 hi2) ?cont ?reg
    case reg =>
      have hBX := unhide HBX
      obtain ⟨k0, k1, k2, k3, k4⟩ := hBX.kc
      obtain ⟨v0, v1, v2, v3, v4⟩ := hBX.vc
      obtain ⟨q0, q1, q2, q3, q4, q5, lX9⟩ := dcells hX9
      have lX1 : w.heap.size + 1 < X.heap.size := by omega
      have lX2 : w.heap.size + 1 + 1 < X.heap.size := by omega
      obtain ⟨D, hD⟩ : ∃ D, D = X.drew := ⟨_, rfl⟩
      have HPT : Hid (∀ W' (t0 t1 t2 : Nat), DAt W' (some ⟨t0, 0, none⟩) (some ⟨t1, 0, none⟩) (some ⟨t2, 0, none⟩) d → Below D.heap.size D W' → Calls Tryz.prog 15 #[Dv (some ⟨t0, 0, none⟩) d.n (some ⟨t1, 0, none⟩) d.m (some ⟨t2, 0, none⟩) d.x d, V k.kind k.num k.flt k.str k.ref, V v.kind v.num v.flt v.str v.ref] W' fun e w' => (∃ s0 s1 s2, e = .returned (DvV s0 s1 s2 P) ∧ DV P w' s0 s1 s2 W'.heap.size w'.heap.size) ∧ Below W'.heap.size W' w') := hide (fun W' t0 t1 t2 hD' hB => by
        rw [unhide HPQ]
        exact implPut _ _ _ _ _ _ d k v c kv W' (lastsT _ _ (unhide HT) (hBX.bel.trans (by rw [hD] at hB; exact ((Below.refl X.heap.size X).drew.trans hB).mono (by omega)))) hD' (unhide HS) (unhide HW) hm4 (unhide HKK) (unhide HHH))
      have hBD : Below D.heap.size D D := Below.refl _ _
      have hDA : DAt D (some ⟨p0, 0, none⟩) (some ⟨p1, 0, none⟩) (some ⟨p2, 0, none⟩) d := by rw [hD]; exact (unhide HDA2).below hbX.drew
      have q0' : D.cell? ⟨w2.heap.size, 0, none⟩ = some (.slice (some ⟨p0, 0, none⟩) d.n d.n) := by rw [hD]; exact q0
      have q1' : D.cell? ⟨w2.heap.size, 1, none⟩ = some (.slice (some ⟨p1, 0, none⟩) d.m d.m) := by rw [hD]; exact q1
      have q2' : D.cell? ⟨w2.heap.size, 2, none⟩ = some (.slice (some ⟨p2, 0, none⟩) d.x d.x) := by rw [hD]; exact q2
      have q3' : D.cell? ⟨w2.heap.size, 3, none⟩ = some (.int .i64 d.used) := by rw [hD]; exact q3
      have q4' : D.cell? ⟨w2.heap.size, 4, none⟩ = some (.int .i64 d.live) := by rw [hD]; exact q4
      have q5' : D.cell? ⟨w2.heap.size, 5, none⟩ = some (.int .i64 d.turns) := by rw [hD]; exact q5
      have k0' : D.cell? ⟨w.heap.size + 1, 0, none⟩ = some (.int .i64 k.kind) := by rw [hD]; exact k0
      have k1' : D.cell? ⟨w.heap.size + 1, 1, none⟩ = some (.int .i64 k.num) := by rw [hD]; exact k1
      have k2' : D.cell? ⟨w.heap.size + 1, 2, none⟩ = some (.float .f64 k.flt) := by rw [hD]; exact k2
      have k3' : D.cell? ⟨w.heap.size + 1, 3, none⟩ = some (.string k.str) := by rw [hD]; exact k3
      have k4' : D.cell? ⟨w.heap.size + 1, 4, none⟩ = some (.int .i64 k.ref) := by rw [hD]; exact k4
      have v0' : D.cell? ⟨w.heap.size + 1 + 1, 0, none⟩ = some (.int .i64 v.kind) := by rw [hD]; exact v0
      have v1' : D.cell? ⟨w.heap.size + 1 + 1, 1, none⟩ = some (.int .i64 v.num) := by rw [hD]; exact v1
      have v2' : D.cell? ⟨w.heap.size + 1 + 1, 2, none⟩ = some (.float .f64 v.flt) := by rw [hD]; exact v2
      have v3' : D.cell? ⟨w.heap.size + 1 + 1, 3, none⟩ = some (.string v.str) := by rw [hD]; exact v3
      have v4' : D.cell? ⟨w.heap.size + 1 + 1, 4, none⟩ = some (.int .i64 v.ref) := by rw [hD]; exact v4
      have lD9 : w2.heap.size < D.heap.size := by rw [hD]; exact lX9
      have lD1 : w.heap.size + 1 < D.heap.size := by rw [hD]; exact lX1
      have lD2 : w.heap.size + 1 + 1 < D.heap.size := by rw [hD]; exact lX2
      refine wpN_held (Below D.heap.size D) (by kernel_rfl) ?_
      change wpAnyH _ _ _ _ _ _ _ _ (World.drew _)
      rw [← hD]
      clear hD hBX q0 q1 q2 q3 q4 q5 k0 k1 k2 k3 k4 v0 v1 v2 v3 v4 hX9 hbX hzX lX9 lX1 lX2
      refine tkB 0 (v := ?_) rfl (by kernel_rfl) (by rfl) ?_ (by assumption) ?_
      rotate_left
      · intro w' hSw'
        obtain ⟨hc', hf'⟩ := bcell hSw'
        go_simp
        first | done | with_reducible rfl
      simp only [Act.put, List.setIfInBounds_toArray, List.set_cons_succ, List.set_cons_zero]
      refine tkB 1 (v := ?_) rfl (by kernel_rfl) (by rfl) ?_ (by assumption) ?_
      rotate_left
      · intro w' hSw'
        obtain ⟨hc', hf'⟩ := bcell hSw'
        go_simp
        first | done | with_reducible rfl
      simp only [Act.put, List.setIfInBounds_toArray, List.set_cons_succ, List.set_cons_zero]
      refine tkB 3 (v := ?_) rfl (by kernel_rfl) (by rfl) ?_ (by assumption) ?_
      rotate_left
      · intro w' hSw'
        obtain ⟨hc', hf'⟩ := bcell hSw'
        go_simp
        first | done | with_reducible rfl
      simp only [Act.put, List.setIfInBounds_toArray, List.set_cons_succ, List.set_cons_zero]
      clear q0' q1' q2' q3' q4' q5' k0' k1' k2' k3' k4' v0' v1' v2' v3' v4'
      refine wpAnyH_ready (rs := [2, 6]) (by kernel_rfl) (by simp) ?_
      refine AllReadyH.cons rfl (fun K hK => ?_) (AllReadyH.cons rfl (fun K hK => ?_) AllReadyH.nil)
      · go_simp
        refine (toValue_any k.kind k.num k.flt k.str k.ref _).mono ?_
        rintro e x0 ⟨rfl, hb⟩
        have hDA := hDA.below hb
        have hBx0 := hBD.trans (hb.mono hBD.size)
        refine hK.out _ _ hBx0 (fun _ => ?_)
        clear hK K hb
        refine wpAnyH_ready (rs := [4, 6]) (by kernel_rfl) (by simp) ?_
        refine AllReadyH.cons rfl (fun K hK => ?_) (AllReadyH.cons rfl (fun K hK => ?_) AllReadyH.nil)
        · go_simp
          refine (toValue_any v.kind v.num v.flt v.str v.ref _).mono ?_
          rintro e x1 ⟨rfl, hb⟩
          have hDA := hDA.below hb
          have hBx1 := hBx0.trans (hb.mono hBx0.size)
          refine hK.out _ _ hBx1 (fun _ => ?_)
          clear hK K hb
          refine wpAnyH_ready (rs := [5, 6]) (by kernel_rfl) (by simp) ?_
          refine AllReadyH.cons rfl (fun K hK => ?_) (AllReadyH.cons rfl (fun K hK => ?_) AllReadyH.nil)
          · go_simp
            refine (unhide HPT x1 p0 p1 p2 hDA hBx1).mono ?_
            rintro e x2 ⟨⟨s0, s1, s2, rfl, hDV⟩, hb⟩
            obtain ⟨ua, uc, ub, ud, ue, uf, e0, e1, e2, -⟩ := hDV.at
            subst e0 e1 e2
            have hlo : D.heap.size ≤ x1.heap.size := hBx1.size
            have hlh : x1.heap.size ≤ x2.heap.size := hb.size
            have hBx2 := hBx1.trans (hb.mono hBx1.size)
            refine hK.out _ _ hBx2 (fun _ => ?_)
            clear hK K hb
            refine wpAnyH_ready (rs := [6]) (by kernel_rfl) (by simp) ?_
            refine AllReadyH.cons rfl (fun K hK => ?_) AllReadyH.nil
            go_simp
            refine hK.out _ _ (hBx2.alloc hBx2.size _) (fun _ => ?_)
            clear hK K
            refine wpAnyH_ready (rs := [7]) (by kernel_rfl) (by simp) ?_
            refine AllReadyH.cons rfl (fun K hK => ?_) AllReadyH.nil
            go_simp
            refine hK.out _ _ (hBx2.alloc hBx2.size _) (fun _ => ?_)
            clear hK K
            refine wpAnyH_done (by kernel_rfl) ?_ _
            exact ⟨rfl, _, _, _, _, _, _, rfl, RR.of_alloc hBx2 hDV (by omega) hlh⟩
          · go_simp
            refine hK.out _ _ (hBx1.alloc hBx1.size _) (fun _ => ?_)
            clear hK K
            obtain ⟨yx1, he⟩ : ∃ y, y = x1.alloc (.cells zA 26) := ⟨_, rfl⟩
            rw [← he]
            have hb : Below x1.heap.size x1 yx1 := by rw [he]; exact (Below.refl _ _).alloc (Nat.le_refl _) _
            have hzyx1 : yx1.heap[x1.heap.size]? = some (.cells zA 26 (0, 0)) := by rw [he]; exact Deep.blk_alloc_new _ _
            have hsz : yx1.heap.size = x1.heap.size + 1 := by rw [he]; simp
            have hxl : D.heap.size ≤ x1.heap.size := hBx1.size
            have hByx1 := hBx1.trans (hb.mono hBx1.size)
            have hDA := hDA.below hb
            clear he hb
            refine wpAnyH_ready (rs := [5]) (by kernel_rfl) (by simp) ?_
            refine AllReadyH.cons rfl (fun K hK => ?_) AllReadyH.nil
            go_simp
            refine (unhide HPT yx1 p0 p1 p2 hDA hByx1).mono ?_
            rintro e x2a ⟨⟨s0, s1, s2, rfl, hDV⟩, hb⟩
            obtain ⟨ua, uc, ub, ud, ue, uf, e0, e1, e2, -⟩ := hDV.at
            subst e0 e1 e2
            have hlo : D.heap.size ≤ yx1.heap.size := hByx1.size
            have hlh : yx1.heap.size ≤ x2a.heap.size := hb.size
            have hlx : x1.heap.size < yx1.heap.size := (Array.getElem?_eq_some_iff.1 hzyx1).1
            have hBx2a := hByx1.trans (hb.mono hByx1.size)
            have hzx2a := (hb.block _ (Array.getElem?_eq_some_iff.1 hzyx1).1).trans hzyx1
            refine hK.out _ _ hBx2a (fun _ => ?_)
            clear hK K hb
            have hzc := zcells hzx2a
            obtain ⟨y0, y1, y2, y3, y4, y5, yf⟩ := hzc
            refine wpAnyH_ready (rs := [7]) (by kernel_rfl) (by simp) ?_
            refine AllReadyH.cons rfl (fun K hK => ?_) AllReadyH.nil
            go_simp
            have hRR := RR.of_set (P := P) hBx2a hxl hzx2a hDV (by omega) hlh (Nat.le_refl _) (by omega)
            unfold set6 at hRR
            refine hK.out _ _ hRR.bel (fun _ => ?_)
            clear hK K
            refine wpAnyH_done (by kernel_rfl) ?_ _
            exact ⟨rfl, _, _, _, _, _, _, rfl, hRR⟩
        · go_simp
          refine hK.out _ _ (hBx0.alloc hBx0.size _) (fun _ => ?_)
          clear hK K
          obtain ⟨yx0, he⟩ : ∃ y, y = x0.alloc (.cells zA 26) := ⟨_, rfl⟩
          rw [← he]
          have hb : Below x0.heap.size x0 yx0 := by rw [he]; exact (Below.refl _ _).alloc (Nat.le_refl _) _
          have hzyx0 : yx0.heap[x0.heap.size]? = some (.cells zA 26 (0, 0)) := by rw [he]; exact Deep.blk_alloc_new _ _
          have hsz : yx0.heap.size = x0.heap.size + 1 := by rw [he]; simp
          have hxl : D.heap.size ≤ x0.heap.size := hBx0.size
          have hByx0 := hBx0.trans (hb.mono hBx0.size)
          have hDA := hDA.below hb
          clear he hb
          refine wpAnyH_ready (rs := [4]) (by kernel_rfl) (by simp) ?_
          refine AllReadyH.cons rfl (fun K hK => ?_) AllReadyH.nil
          go_simp
          refine (toValue_any v.kind v.num v.flt v.str v.ref _).mono ?_
          rintro e x1a ⟨rfl, hb⟩
          have hDA := hDA.below hb
          have hBx1a := hByx0.trans (hb.mono hByx0.size)
          have hzx1a := (hb.block _ (Array.getElem?_eq_some_iff.1 hzyx0).1).trans hzyx0
          refine hK.out _ _ hBx1a (fun _ => ?_)
          clear hK K hb
          refine wpAnyH_ready (rs := [5]) (by kernel_rfl) (by simp) ?_
          refine AllReadyH.cons rfl (fun K hK => ?_) AllReadyH.nil
          go_simp
          refine (unhide HPT x1a p0 p1 p2 hDA hBx1a).mono ?_
          rintro e x2a ⟨⟨s0, s1, s2, rfl, hDV⟩, hb⟩
          obtain ⟨ua, uc, ub, ud, ue, uf, e0, e1, e2, -⟩ := hDV.at
          subst e0 e1 e2
          have hlo : D.heap.size ≤ x1a.heap.size := hBx1a.size
          have hlh : x1a.heap.size ≤ x2a.heap.size := hb.size
          have hlx : x0.heap.size < x1a.heap.size := (Array.getElem?_eq_some_iff.1 hzx1a).1
          have hBx2a := hBx1a.trans (hb.mono hBx1a.size)
          have hzx2a := (hb.block _ (Array.getElem?_eq_some_iff.1 hzx1a).1).trans hzx1a
          refine hK.out _ _ hBx2a (fun _ => ?_)
          clear hK K hb
          have hzc := zcells hzx2a
          obtain ⟨y0, y1, y2, y3, y4, y5, yf⟩ := hzc
          refine wpAnyH_ready (rs := [7]) (by kernel_rfl) (by simp) ?_
          refine AllReadyH.cons rfl (fun K hK => ?_) AllReadyH.nil
          go_simp
          have hRR := RR.of_set (P := P) hBx2a hxl hzx2a hDV (by omega) hlh (Nat.le_refl _) (by omega)
          unfold set6 at hRR
          refine hK.out _ _ hRR.bel (fun _ => ?_)
          clear hK K
          refine wpAnyH_done (by kernel_rfl) ?_ _
          exact ⟨rfl, _, _, _, _, _, _, rfl, hRR⟩
      · go_simp
        refine hK.out _ _ (hBD.alloc hBD.size _) (fun _ => ?_)
        clear hK K
        obtain ⟨yD, he⟩ : ∃ y, y = D.alloc (.cells zA 26) := ⟨_, rfl⟩
        rw [← he]
        have hb : Below D.heap.size D yD := by rw [he]; exact (Below.refl _ _).alloc (Nat.le_refl _) _
        have hzyD : yD.heap[D.heap.size]? = some (.cells zA 26 (0, 0)) := by rw [he]; exact Deep.blk_alloc_new _ _
        have hsz : yD.heap.size = D.heap.size + 1 := by rw [he]; simp
        have hxl : D.heap.size ≤ D.heap.size := hBD.size
        have hByD := hBD.trans (hb.mono hBD.size)
        have hDA := hDA.below hb
        clear he hb
        refine wpAnyH_ready (rs := [2]) (by kernel_rfl) (by simp) ?_
        refine AllReadyH.cons rfl (fun K hK => ?_) AllReadyH.nil
        go_simp
        refine (toValue_any k.kind k.num k.flt k.str k.ref _).mono ?_
        rintro e x0a ⟨rfl, hb⟩
        have hDA := hDA.below hb
        have hBx0a := hByD.trans (hb.mono hByD.size)
        have hzx0a := (hb.block _ (Array.getElem?_eq_some_iff.1 hzyD).1).trans hzyD
        refine hK.out _ _ hBx0a (fun _ => ?_)
        clear hK K hb
        refine wpAnyH_ready (rs := [4]) (by kernel_rfl) (by simp) ?_
        refine AllReadyH.cons rfl (fun K hK => ?_) AllReadyH.nil
        go_simp
        refine (toValue_any v.kind v.num v.flt v.str v.ref _).mono ?_
        rintro e x1a ⟨rfl, hb⟩
        have hDA := hDA.below hb
        have hBx1a := hBx0a.trans (hb.mono hBx0a.size)
        have hzx1a := (hb.block _ (Array.getElem?_eq_some_iff.1 hzx0a).1).trans hzx0a
        refine hK.out _ _ hBx1a (fun _ => ?_)
        clear hK K hb
        refine wpAnyH_ready (rs := [5]) (by kernel_rfl) (by simp) ?_
        refine AllReadyH.cons rfl (fun K hK => ?_) AllReadyH.nil
        go_simp
        refine (unhide HPT x1a p0 p1 p2 hDA hBx1a).mono ?_
        rintro e x2a ⟨⟨s0, s1, s2, rfl, hDV⟩, hb⟩
        obtain ⟨ua, uc, ub, ud, ue, uf, e0, e1, e2, -⟩ := hDV.at
        subst e0 e1 e2
        have hlo : D.heap.size ≤ x1a.heap.size := hBx1a.size
        have hlh : x1a.heap.size ≤ x2a.heap.size := hb.size
        have hlx : D.heap.size < x1a.heap.size := (Array.getElem?_eq_some_iff.1 hzx1a).1
        have hBx2a := hBx1a.trans (hb.mono hBx1a.size)
        have hzx2a := (hb.block _ (Array.getElem?_eq_some_iff.1 hzx1a).1).trans hzx1a
        refine hK.out _ _ hBx2a (fun _ => ?_)
        clear hK K hb
        have hzc := zcells hzx2a
        obtain ⟨y0, y1, y2, y3, y4, y5, yf⟩ := hzc
        refine wpAnyH_ready (rs := [7]) (by kernel_rfl) (by simp) ?_
        refine AllReadyH.cons rfl (fun K hK => ?_) AllReadyH.nil
        go_simp
        have hRR := RR.of_set (P := P) hBx2a hxl hzx2a hDV (by omega) hlh (Nat.le_refl _) (by omega)
        unfold set6 at hRR
        refine hK.out _ _ hRR.bel (fun _ => ?_)
        clear hK K
        refine wpAnyH_done (by kernel_rfl) ?_ _
        exact ⟨rfl, _, _, _, _, _, _, rfl, hRR⟩
    case cont =>
      rintro e a' W4 ⟨rfl, b10, u0, u1, u2, lo2, hi2, rfl, hR2⟩
      dsimp only
      have hz4 := hR2.bel.size
      have hzX' : X.drew.heap.size = w2.heap.size + 1 := hzX
      have hb14 : Below W1.heap.size W1 W4 := ((unhide HB12).trans (hbX.mono z12)).trans (((Below.refl X.heap.size X).drew.trans hR2.bel).mono (by omega))
      have hb24 : Below w2.heap.size w2 W4 := hbX.trans (((Below.refl X.heap.size X).drew.trans hR2.bel).mono (by omega))
      have hl10 := (Array.getElem?_eq_some_iff.1 hR2.blk).1
      have hx10 := hR2.bx0
      have hlo2 := hR2.lo0
      have hap := hR2.ap
      have hlh2 := hR2.lh
      have hhi2 := hR2.hi0
      rw [hzX'] at hz4 hx10 hlo2
      have hLS : LS w W4 la lc ia ic xa xc d k v P P b8 w2.heap.size b10 s0 s1 s2 u0 u1 u2 p0 p1 p2 lo hi lo2 hi2 := ⟨(unhide HBX).keep ((Below.refl X.heap.size X).drew.trans hR2.bel) (by omega), (hb14.block _ hl8).trans (unhide HR).blk, (((Below.refl X.heap.size X).drew.trans hR2.bel).block _ (by omega)).trans hX9, hR2.blk, (unhide HR).dv.keep (fun b _ h => hb14.block b (by omega)), hR2.dv, by omega, hhi2⟩
      have hSP : Small P := by rw [unhide HPQ]; exact putO_small (unhide HS) (unhide HW) hm4 (unhide HHH)
      have HLS := hide hLS
      have HB24 := hide hb24
      have HSP := hide hSP
      obtain ⟨g0, g1, g2, g3, g4, g5, lg⟩ := dcells hLS.x10
      obtain ⟨f0, f1, f2, f3, f4, f5, lf⟩ := dcells hLS.x8
      clear hR2 hb14 hb24 hLS hSP hX9 hbX HBX HBW2 HB12 HBW1 HR
      go_wp2_with fail
      refine (eqDV (unhide HLS).dv1 (unhide HLS).dv0 (unhide HSP)).mono ?_
      rintro e w5 ⟨rfl, hb5⟩
      have hLS5 := (unhide HLS).keep hb5
      have HB25 := hide ((unhide HB24).trans (hb5.mono (by omega)))
      have HLS5 := hide hLS5
      obtain ⟨y0, y1, y2, y3, y4, y5, ly⟩ := dcells hLS5.x9
      obtain ⟨q0, q1, q2, q3, q4, q5⟩ := hLS5.lb.dc
      have zq := hLS5.lb.size
      have lq : w.heap.size < w5.heap.size := by omega
      have hz5 := hb5.size
      clear hb5 hLS5 HLS HB24 g0 g1 g2 g3 g4 g5 f0 f1 f2 f3 f4 f5 lg lf
      go_wp2_with fail
      have hBd : Below w5.heap.size w5 w5.drew := (Below.refl _ _).drew
      refine wpN_held (Below w5.heap.size w5) (by kernel_rfl) ?_
      change wpAnyH _ _ _ _ _ _ _ _ (World.drew _)
      refine tkB 0 (v := ?_) rfl (by kernel_rfl) (by rfl) ?_ (by assumption) ?_
      rotate_left
      · intro w' hSw'
        obtain ⟨hc', hf'⟩ := bcell hSw'
        go_simp
        first | done | with_reducible rfl
      simp only [Act.put, List.setIfInBounds_toArray, List.set_cons_succ, List.set_cons_zero]
      refine tkB 1 (v := ?_) rfl (by kernel_rfl) (by rfl) ?_ (by assumption) ?_
      rotate_left
      · intro w' hSw'
        obtain ⟨hc', hf'⟩ := bcell hSw'
        go_simp
        first | done | with_reducible rfl
      simp only [Act.put, List.setIfInBounds_toArray, List.set_cons_succ, List.set_cons_zero]
      clear y0 y1 y2 y3 y4 y5 q0 q1 q2 q3 q4 q5
      refine wpAnyH_ready (rs := [2]) (by kernel_rfl) (by simp) ?_
      refine AllReadyH.cons rfl (fun K hK => ?_) AllReadyH.nil
      go_simp
      refine (toDict_any la lc ia ic xa xc d _ ((unhide HA).below ((unhide HLS5).lb.bel.drew)) (unhide HS)).mono ?_
      rintro e x2 ⟨⟨j0, j1, j2, rfl, hDAj⟩, hbx⟩
      have hBx2 : Below w5.heap.size w5 x2 := hBd.trans hbx
      refine hK.out _ _ hBx2 (fun _ => ?_)
      clear hK K hbx
      refine wpAnyH_ready (rs := [3]) (by kernel_rfl) (by simp) ?_
      refine AllReadyH.cons rfl (fun K hK => ?_) AllReadyH.nil
      go_simp
      refine (eqDict_same (some ⟨p0, 0, none⟩) (some ⟨j0, 0, none⟩) (some ⟨p1, 0, none⟩) (some ⟨j1, 0, none⟩) (some ⟨p2, 0, none⟩) (some ⟨j2, 0, none⟩) d.n d.n d.m d.m d.x d.x d _ ((unhide HDA2).below ((unhide HB25).trans (hBx2.mono (by omega)))) hDAj (unhide HS)).mono ?_
      rintro e w6 ⟨rfl, hb6⟩
      have hB6 : Below w5.heap.size w5 w6 := hBx2.trans (hb6.mono hBx2.size)
      refine hK.out _ _ hB6 (fun _ => ?_)
      clear hK K hb6
      refine tkB 4 (v := ?_) rfl (by kernel_rfl) (by rfl) ?_ (by assumption) ?_
      rotate_left
      · intro w' hSw'
        obtain ⟨hc', hf'⟩ := bcell hSw'
        go_simp
        first | done | with_reducible rfl
      simp only [Act.put, List.setIfInBounds_toArray, List.set_cons_succ, List.set_cons_zero]
      refine wpAnyH_done (by kernel_rfl) ?_ _
      refine QN.normal ?_
      have hLS6 := (unhide HLS5).keep hB6
      have HTR6 := hide ((unhide HTR).keep (fun q hq => ((unhide HB25).trans (hB6.mono (by omega))).block q hq))
      obtain ⟨y0, y1, y2, y3, y4, y5, ly⟩ := dcells hLS6.x9
      have HLS6 := hide hLS6
      have hz6 := hB6.size
      clear hB6 hBx2 hDAj hBd hLS6 HLS5 HB25 HTR HDA2
      go_wp2_with fail
      refine (markDict_any W1.heap.size p0 p1 p2 d.n d.m d.x d _ (unhide HTR6) (unhide HS)).mono ?_
      rintro e w7 ⟨⟨rr, rfl, hrr⟩, hb7⟩
      have hz7 := hb7.size
      have hLS7 : LS w w7 la lc ia ic xa xc d k v P P b8 w2.heap.size b10 s0 s1 s2 u0 u1 u2 p0 p1 p2 lo hi lo2 hi2 := (unhide HLS6).keepB hz7 ((unhide HLS6).lb.bel.trans (hb7.below (by omega) (by omega) (by omega) (unhide HLS6).lb.bel.size)) (fun b => b = p0 ∨ b = p1 ∨ b = p2) (fun b hb hn => hb7.block b hb (fun e => hn (.inl e)) (fun e => hn (.inr (.inl e))) (fun e => hn (.inr (.inr e)))) (by rintro (e | e | e) <;> omega) (by rintro (e | e | e) <;> omega) (by rintro (e | e | e) <;> omega) (by rintro (e | e | e) <;> omega) (by rintro (e | e | e) <;> omega) (by rintro (e | e | e) <;> omega) (fun b h1 h2 => by rintro (e | e | e) <;> omega) ((unhide HLS6).dv1.keep (fun b h1 h2 => hb7.block b (by have := (unhide HLS6).h2; omega) (by omega) (by omega) (by omega)))
      have HLS7 := hide hLS7
      obtain ⟨g0, g1, g2, g3, g4, g5, lg⟩ := dcells hLS7.x10
      obtain ⟨f0, f1, f2, f3, f4, f5, lf⟩ := dcells hLS7.x8
      have hrr' : decide (rr < 0) = false := by simp; omega
      clear hb7 hLS7 HLS6 HTR6 y0 y1 y2 y3 y4 y5
      go_wp2_with fail
      refine (eqDV (unhide HLS7).dv1 (unhide HLS7).dv0 (unhide HSP)).mono ?_
      rintro e w8 ⟨rfl, hb8⟩
      have hLS8 := (unhide HLS7).keep hb8
      have HLS8 := hide hLS8
      have hz8 := hb8.size
      clear g0 g1 g2 g3 g4 g5 lg f0 f1 f2 f3 f4 f5 lf
      obtain ⟨g0, g1, g2, g3, g4, g5, lg⟩ := dcells hLS8.x10
      clear hb8 hLS8 HLS7
      go_wp2_with fail
      refine (markDV (unhide HLS8).dv1 (by have := (unhide HLS8).h2; omega) (unhide HLS8).h2 (unhide HSP)).mono ?_
      rintro e w9 ⟨⟨rfl, hDV9⟩, hbl9, hbb9⟩
      generalize hnn : 1 + 11 * P.n + P.m + P.x = nn at *
      have hz9 := hbl9.size
      have hLS9 : LS w w9 la lc ia ic xa xc d k v P (mkD P) b8 w2.heap.size b10 s0 s1 s2 u0 u1 u2 p0 p1 p2 lo hi lo2 hi2 := (unhide HLS8).keepB hz9 ((unhide HLS8).lb.bel.trans (hbl9.mono (by omega))) (fun b => lo2 ≤ b ∧ b < hi2) (fun b hb hn => hbb9 b hb (by omega)) (by omega) (by omega) (by omega) (by omega) (by omega) (by omega) (fun b h1 h2 => by omega) hDV9
      have HLS9 := hide hLS9
      clear g0 g1 g2 g3 g4 g5 lg
      obtain ⟨g0, g1, g2, g3, g4, g5, lg⟩ := dcells hLS9.x10
      have HNN := hide hnn
      clear hDV9 hbl9 hbb9 hLS9 HLS8 hnn
      go_wp2_with fail
      have hHE := fun (W' : World) (h : DV (mkD P) W' u0 u1 u2 lo2 hi2) (hh : hi2 ≤ W'.heap.size) => heldDV h hh (unhide HSP)
      rw [unhide HNN] at hHE
      have HHE := hide hHE
      clear hHE
      refine (unhide HHE _ (unhide HLS9).dv1 (unhide HLS9).h2).mono ?_
      rintro e w10 ⟨rfl, hb10⟩
      have hLS10 := (unhide HLS9).keep hb10
      have hz10 := hb10.size
      have HLS10 := hide hLS10
      have zl10 := hLS10.lb.size
      clear hb10 hLS10 HLS9 g0 g1 g2 g3 g4 g5 lg
      go_wp2_with fail
      refine Code.wp_mono (Q := fun e a' w' => e = .normal ∧ ∃ (bx : Nat) (z0 z1 z2 : Value) (lo3 hi3 t0' t1' t2' : Nat), a' = { tmps := #[Dv la lc ia ic xa xc d, V k.kind k.num k.flt k.str k.ref, V v.kind v.num v.flt v.str v.ref, .pointer (some ⟨w.heap.size, 0, none⟩), .pointer (some ⟨w.heap.size + 1, 0, none⟩), .pointer (some ⟨w.heap.size + 1 + 1, 0, none⟩), .bool false, .int .i64 r3, .pointer (some ⟨b8, 0, none⟩), .pointer (some ⟨w2.heap.size, 0, none⟩), .pointer (some ⟨b10, 0, none⟩), .int .i64 rr, .int .i64 (nn : Int), .int .i64 (nn : Int), .pointer (some ⟨bx, 0, none⟩), Dv la lc ia ic xa xc d, .int .i64 1048576, .int .i64 r, .int .i64 r, .bool (decide (r < 0)), V k.kind k.num k.flt k.str k.ref, .int .i64 r, .int .i64 r2, .int .i64 r2, .bool (decide (r2 < 0)), V v.kind v.num v.flt v.str v.ref, .int .i64 r2, .int .i64 r3, .int .i64 r3, .bool (decide (r3 < 0)), Dv la lc ia ic xa xc d, Dv (some ⟨t0, 0, none⟩) d.n (some ⟨t1, 0, none⟩) d.m (some ⟨t2, 0, none⟩) d.x d, V k.kind k.num k.flt k.str k.ref, V k.kind k.num k.flt k.str k.ref, V v.kind v.num v.flt v.str v.ref, V v.kind v.num v.flt v.str v.ref, DvV s0 s1 s2 P, Dv la lc ia ic xa xc d, Dv (some ⟨p0, 0, none⟩) d.n (some ⟨p1, 0, none⟩) d.m (some ⟨p2, 0, none⟩) d.x d, Dv (some ⟨p0, 0, none⟩) d.n (some ⟨p1, 0, none⟩) d.m (some ⟨p2, 0, none⟩) d.x d, V k.kind k.num k.flt k.str k.ref, V k.kind k.num k.flt k.str k.ref, V v.kind v.num v.flt v.str v.ref, V v.kind v.num v.flt v.str v.ref, DvV u0 u1 u2 P, DvV u0 u1 u2 P, DvV s0 s1 s2 P, .bool true, .bool false, Dv (some ⟨p0, 0, none⟩) d.n (some ⟨p1, 0, none⟩) d.m (some ⟨p2, 0, none⟩) d.x d, Dv la lc ia ic xa xc d, Dv (some ⟨j0, 0, none⟩) d.n (some ⟨j1, 0, none⟩) d.m (some ⟨j2, 0, none⟩) d.x d, .bool true, .bool false, Dv (some ⟨p0, 0, none⟩) d.n (some ⟨p1, 0, none⟩) d.m (some ⟨p2, 0, none⟩) d.x d, .int .i64 1, .int .i64 rr, .int .i64 rr, .bool false, .bool false, DvV u0 u1 u2 P, DvV s0 s1 s2 P, .bool true, .bool false, .bool false, DvV u0 u1 u2 P, .int .i64 1, .int .i64 (nn : Int), DvV u0 u1 u2 P, .int .i64 1, .int .i64 (nn : Int), .int .i64 (nn : Int), .bool (decide ((nn : Int) < 0)), .int .i64 (nn : Int), .int .i64 (nn : Int), .bool false, Dv la lc ia ic xa xc d, Dv (some ⟨t0', 0, none⟩) d.n (some ⟨t1', 0, none⟩) d.m (some ⟨t2', 0, none⟩) d.x d, V k.kind k.num k.flt k.str k.ref, V k.kind k.num k.flt k.str k.ref, V v.kind v.num v.flt v.str v.ref, V v.kind v.num v.flt v.str v.ref, DvV z0 z1 z2 P, undef, undef, undef, undef, undef, undef, undef, undef, undef, undef, undef, undef], defers := [] } ∧ RR w10.drew w' P bx z0 z1 z2 lo3 hi3) ?cont ?reg
      case reg =>
        have hBX := (unhide HLS10).lb
        obtain ⟨q0, q1, q2, q3, q4, q5⟩ := hBX.dc
        obtain ⟨k0, k1, k2, k3, k4⟩ := hBX.kc
        obtain ⟨v0, v1, v2, v3, v4⟩ := hBX.vc
        have lX0 : w.heap.size < w10.heap.size := by omega
        have lX1 : w.heap.size + 1 < w10.heap.size := by omega
        obtain ⟨D, hD⟩ : ∃ D, D = w10.drew := ⟨_, rfl⟩
        have hBB : ∀ W', Below D.heap.size D W' → Below w.heap.size w W' := fun W' hB => hBX.bel.trans (by rw [hD] at hB; exact ((Below.refl w10.heap.size w10).drew.trans hB).mono (by omega))
        have HTD : Hid (∀ W', Below D.heap.size D W' → Calls Tryz.prog 30 #[Dv la lc ia ic xa xc d] W' fun e w' => (∃ t0 t1 t2, e = .returned (Dv (some ⟨t0, 0, none⟩) d.n (some ⟨t1, 0, none⟩) d.m (some ⟨t2, 0, none⟩) d.x d) ∧ DAt w' (some ⟨t0, 0, none⟩) (some ⟨t1, 0, none⟩) (some ⟨t2, 0, none⟩) d) ∧ Below W'.heap.size W' w') := hide (fun W' hB => toDict_any la lc ia ic xa xc d W' ((unhide HA).below (hBB W' hB)) (unhide HS))
        have HPT : Hid (∀ W' (t0 t1 t2 : Nat), DAt W' (some ⟨t0, 0, none⟩) (some ⟨t1, 0, none⟩) (some ⟨t2, 0, none⟩) d → Below D.heap.size D W' → Calls Tryz.prog 15 #[Dv (some ⟨t0, 0, none⟩) d.n (some ⟨t1, 0, none⟩) d.m (some ⟨t2, 0, none⟩) d.x d, V k.kind k.num k.flt k.str k.ref, V v.kind v.num v.flt v.str v.ref] W' fun e w' => (∃ s0 s1 s2, e = .returned (DvV s0 s1 s2 P) ∧ DV P w' s0 s1 s2 W'.heap.size w'.heap.size) ∧ Below W'.heap.size W' w') := hide (fun W' t0 t1 t2 hD' hB => by
          rw [unhide HPQ]
          exact implPut _ _ _ _ _ _ d k v c kv W' (lastsT _ _ (unhide HT) (hBB W' hB)) hD' (unhide HS) (unhide HW) hm4 (unhide HKK) (unhide HHH))
        have hBD : Below D.heap.size D D := Below.refl _ _
        have q0' : D.cell? ⟨w.heap.size, 0, none⟩ = some (.slice la d.n lc) := by rw [hD]; exact q0
        have q1' : D.cell? ⟨w.heap.size, 1, none⟩ = some (.slice ia d.m ic) := by rw [hD]; exact q1
        have q2' : D.cell? ⟨w.heap.size, 2, none⟩ = some (.slice xa d.x xc) := by rw [hD]; exact q2
        have q3' : D.cell? ⟨w.heap.size, 3, none⟩ = some (.int .i64 d.used) := by rw [hD]; exact q3
        have q4' : D.cell? ⟨w.heap.size, 4, none⟩ = some (.int .i64 d.live) := by rw [hD]; exact q4
        have q5' : D.cell? ⟨w.heap.size, 5, none⟩ = some (.int .i64 d.turns) := by rw [hD]; exact q5
        have k0' : D.cell? ⟨w.heap.size + 1, 0, none⟩ = some (.int .i64 k.kind) := by rw [hD]; exact k0
        have k1' : D.cell? ⟨w.heap.size + 1, 1, none⟩ = some (.int .i64 k.num) := by rw [hD]; exact k1
        have k2' : D.cell? ⟨w.heap.size + 1, 2, none⟩ = some (.float .f64 k.flt) := by rw [hD]; exact k2
        have k3' : D.cell? ⟨w.heap.size + 1, 3, none⟩ = some (.string k.str) := by rw [hD]; exact k3
        have k4' : D.cell? ⟨w.heap.size + 1, 4, none⟩ = some (.int .i64 k.ref) := by rw [hD]; exact k4
        have v0' : D.cell? ⟨w.heap.size + 1 + 1, 0, none⟩ = some (.int .i64 v.kind) := by rw [hD]; exact v0
        have v1' : D.cell? ⟨w.heap.size + 1 + 1, 1, none⟩ = some (.int .i64 v.num) := by rw [hD]; exact v1
        have v2' : D.cell? ⟨w.heap.size + 1 + 1, 2, none⟩ = some (.float .f64 v.flt) := by rw [hD]; exact v2
        have v3' : D.cell? ⟨w.heap.size + 1 + 1, 3, none⟩ = some (.string v.str) := by rw [hD]; exact v3
        have v4' : D.cell? ⟨w.heap.size + 1 + 1, 4, none⟩ = some (.int .i64 v.ref) := by rw [hD]; exact v4
        have lD0 : w.heap.size < D.heap.size := by rw [hD]; exact lX0
        have lD1 : w.heap.size + 1 < D.heap.size := by rw [hD]; exact lX1
        have lD2 : w.heap.size + 1 + 1 < D.heap.size := by rw [hD]; exact zl10
        refine wpN_held (Below D.heap.size D) (by kernel_rfl) ?_
        change wpAnyH _ _ _ _ _ _ _ _ (World.drew _)
        rw [← hD]
        clear hD hBX hBB q0 q1 q2 q3 q4 q5 k0 k1 k2 k3 k4 v0 v1 v2 v3 v4 lX0 lX1
        refine tkB 0 (v := ?_) rfl (by kernel_rfl) (by rfl) ?_ (by assumption) ?_
        rotate_left
        · intro w' hSw'
          obtain ⟨hc', hf'⟩ := bcell hSw'
          go_simp
          first | done | with_reducible rfl
        simp only [Act.put, List.setIfInBounds_toArray, List.set_cons_succ, List.set_cons_zero]
        refine tkB 2 (v := ?_) rfl (by kernel_rfl) (by rfl) ?_ (by assumption) ?_
        rotate_left
        · intro w' hSw'
          obtain ⟨hc', hf'⟩ := bcell hSw'
          go_simp
          first | done | with_reducible rfl
        simp only [Act.put, List.setIfInBounds_toArray, List.set_cons_succ, List.set_cons_zero]
        refine tkB 4 (v := ?_) rfl (by kernel_rfl) (by rfl) ?_ (by assumption) ?_
        rotate_left
        · intro w' hSw'
          obtain ⟨hc', hf'⟩ := bcell hSw'
          go_simp
          first | done | with_reducible rfl
        simp only [Act.put, List.setIfInBounds_toArray, List.set_cons_succ, List.set_cons_zero]
        clear q0' q1' q2' q3' q4' q5' k0' k1' k2' k3' k4' v0' v1' v2' v3' v4'
        refine wpAnyH_ready (rs := [1, 7]) (by kernel_rfl) (by simp) ?_
        refine AllReadyH.cons rfl (fun K hK => ?_) (AllReadyH.cons rfl (fun K hK => ?_) AllReadyH.nil)
        · go_simp
          refine (unhide HTD D hBD).mono ?_
          rintro e x0 ⟨⟨t0, t1, t2, rfl, hDA⟩, hb⟩
          have hBx0 := hBD.trans (hb.mono hBD.size)
          refine hK.out _ _ hBx0 (fun _ => ?_)
          clear hK K hb
          refine wpAnyH_ready (rs := [3, 7]) (by kernel_rfl) (by simp) ?_
          refine AllReadyH.cons rfl (fun K hK => ?_) (AllReadyH.cons rfl (fun K hK => ?_) AllReadyH.nil)
          · go_simp
            refine (toValue_any k.kind k.num k.flt k.str k.ref _).mono ?_
            rintro e x1 ⟨rfl, hb⟩
            have hDA := hDA.below hb
            have hBx1 := hBx0.trans (hb.mono hBx0.size)
            refine hK.out _ _ hBx1 (fun _ => ?_)
            clear hK K hb
            refine wpAnyH_ready (rs := [5, 7]) (by kernel_rfl) (by simp) ?_
            refine AllReadyH.cons rfl (fun K hK => ?_) (AllReadyH.cons rfl (fun K hK => ?_) AllReadyH.nil)
            · go_simp
              refine (toValue_any v.kind v.num v.flt v.str v.ref _).mono ?_
              rintro e x2 ⟨rfl, hb⟩
              have hDA := hDA.below hb
              have hBx2 := hBx1.trans (hb.mono hBx1.size)
              refine hK.out _ _ hBx2 (fun _ => ?_)
              clear hK K hb
              refine wpAnyH_ready (rs := [6, 7]) (by kernel_rfl) (by simp) ?_
              refine AllReadyH.cons rfl (fun K hK => ?_) (AllReadyH.cons rfl (fun K hK => ?_) AllReadyH.nil)
              · go_simp
                refine (unhide HPT x2 t0 t1 t2 hDA hBx2).mono ?_
                rintro e x3 ⟨⟨s0, s1, s2, rfl, hDV⟩, hb⟩
                obtain ⟨ua, uc, ub, ud, ue, uf, e0, e1, e2, -⟩ := hDV.at
                subst e0 e1 e2
                have hlo : D.heap.size ≤ x2.heap.size := hBx2.size
                have hlh : x2.heap.size ≤ x3.heap.size := hb.size
                have hBx3 := hBx2.trans (hb.mono hBx2.size)
                refine hK.out _ _ hBx3 (fun _ => ?_)
                clear hK K hb
                refine wpAnyH_ready (rs := [7]) (by kernel_rfl) (by simp) ?_
                refine AllReadyH.cons rfl (fun K hK => ?_) AllReadyH.nil
                go_simp
                refine hK.out _ _ (hBx3.alloc hBx3.size _) (fun _ => ?_)
                clear hK K
                refine wpAnyH_ready (rs := [8]) (by kernel_rfl) (by simp) ?_
                refine AllReadyH.cons rfl (fun K hK => ?_) AllReadyH.nil
                go_simp
                refine hK.out _ _ (hBx3.alloc hBx3.size _) (fun _ => ?_)
                clear hK K
                refine wpAnyH_done (by kernel_rfl) ?_ _
                exact ⟨rfl, _, _, _, _, _, _, t0, t1, t2, rfl, RR.of_alloc hBx3 hDV (by omega) hlh⟩
              · go_simp
                refine hK.out _ _ (hBx2.alloc hBx2.size _) (fun _ => ?_)
                clear hK K
                obtain ⟨yx2, he⟩ : ∃ y, y = x2.alloc (.cells zA 26) := ⟨_, rfl⟩
                rw [← he]
                have hb : Below x2.heap.size x2 yx2 := by rw [he]; exact (Below.refl _ _).alloc (Nat.le_refl _) _
                have hzyx2 : yx2.heap[x2.heap.size]? = some (.cells zA 26 (0, 0)) := by rw [he]; exact Deep.blk_alloc_new _ _
                have hsz : yx2.heap.size = x2.heap.size + 1 := by rw [he]; simp
                have hxl : D.heap.size ≤ x2.heap.size := hBx2.size
                have hByx2 := hBx2.trans (hb.mono hBx2.size)
                have hDA := hDA.below hb
                clear he hb
                refine wpAnyH_ready (rs := [6]) (by kernel_rfl) (by simp) ?_
                refine AllReadyH.cons rfl (fun K hK => ?_) AllReadyH.nil
                go_simp
                refine (unhide HPT yx2 t0 t1 t2 hDA hByx2).mono ?_
                rintro e x3a ⟨⟨s0, s1, s2, rfl, hDV⟩, hb⟩
                obtain ⟨ua, uc, ub, ud, ue, uf, e0, e1, e2, -⟩ := hDV.at
                subst e0 e1 e2
                have hlo : D.heap.size ≤ yx2.heap.size := hByx2.size
                have hlh : yx2.heap.size ≤ x3a.heap.size := hb.size
                have hlx : x2.heap.size < yx2.heap.size := (Array.getElem?_eq_some_iff.1 hzyx2).1
                have hBx3a := hByx2.trans (hb.mono hByx2.size)
                have hzx3a := (hb.block _ (Array.getElem?_eq_some_iff.1 hzyx2).1).trans hzyx2
                refine hK.out _ _ hBx3a (fun _ => ?_)
                clear hK K hb
                have hzc := zcells hzx3a
                obtain ⟨y0, y1, y2, y3, y4, y5, yf⟩ := hzc
                refine wpAnyH_ready (rs := [8]) (by kernel_rfl) (by simp) ?_
                refine AllReadyH.cons rfl (fun K hK => ?_) AllReadyH.nil
                go_simp
                have hRR := RR.of_set (P := P) hBx3a hxl hzx3a hDV (by omega) hlh (Nat.le_refl _) (by omega)
                unfold set6 at hRR
                refine hK.out _ _ hRR.bel (fun _ => ?_)
                clear hK K
                refine wpAnyH_done (by kernel_rfl) ?_ _
                exact ⟨rfl, _, _, _, _, _, _, t0, t1, t2, rfl, hRR⟩
            · go_simp
              refine hK.out _ _ (hBx1.alloc hBx1.size _) (fun _ => ?_)
              clear hK K
              obtain ⟨yx1, he⟩ : ∃ y, y = x1.alloc (.cells zA 26) := ⟨_, rfl⟩
              rw [← he]
              have hb : Below x1.heap.size x1 yx1 := by rw [he]; exact (Below.refl _ _).alloc (Nat.le_refl _) _
              have hzyx1 : yx1.heap[x1.heap.size]? = some (.cells zA 26 (0, 0)) := by rw [he]; exact Deep.blk_alloc_new _ _
              have hsz : yx1.heap.size = x1.heap.size + 1 := by rw [he]; simp
              have hxl : D.heap.size ≤ x1.heap.size := hBx1.size
              have hByx1 := hBx1.trans (hb.mono hBx1.size)
              have hDA := hDA.below hb
              clear he hb
              refine wpAnyH_ready (rs := [5]) (by kernel_rfl) (by simp) ?_
              refine AllReadyH.cons rfl (fun K hK => ?_) AllReadyH.nil
              go_simp
              refine (toValue_any v.kind v.num v.flt v.str v.ref _).mono ?_
              rintro e x2a ⟨rfl, hb⟩
              have hDA := hDA.below hb
              have hBx2a := hByx1.trans (hb.mono hByx1.size)
              have hzx2a := (hb.block _ (Array.getElem?_eq_some_iff.1 hzyx1).1).trans hzyx1
              refine hK.out _ _ hBx2a (fun _ => ?_)
              clear hK K hb
              refine wpAnyH_ready (rs := [6]) (by kernel_rfl) (by simp) ?_
              refine AllReadyH.cons rfl (fun K hK => ?_) AllReadyH.nil
              go_simp
              refine (unhide HPT x2a t0 t1 t2 hDA hBx2a).mono ?_
              rintro e x3a ⟨⟨s0, s1, s2, rfl, hDV⟩, hb⟩
              obtain ⟨ua, uc, ub, ud, ue, uf, e0, e1, e2, -⟩ := hDV.at
              subst e0 e1 e2
              have hlo : D.heap.size ≤ x2a.heap.size := hBx2a.size
              have hlh : x2a.heap.size ≤ x3a.heap.size := hb.size
              have hlx : x1.heap.size < x2a.heap.size := (Array.getElem?_eq_some_iff.1 hzx2a).1
              have hBx3a := hBx2a.trans (hb.mono hBx2a.size)
              have hzx3a := (hb.block _ (Array.getElem?_eq_some_iff.1 hzx2a).1).trans hzx2a
              refine hK.out _ _ hBx3a (fun _ => ?_)
              clear hK K hb
              have hzc := zcells hzx3a
              obtain ⟨y0, y1, y2, y3, y4, y5, yf⟩ := hzc
              refine wpAnyH_ready (rs := [8]) (by kernel_rfl) (by simp) ?_
              refine AllReadyH.cons rfl (fun K hK => ?_) AllReadyH.nil
              go_simp
              have hRR := RR.of_set (P := P) hBx3a hxl hzx3a hDV (by omega) hlh (Nat.le_refl _) (by omega)
              unfold set6 at hRR
              refine hK.out _ _ hRR.bel (fun _ => ?_)
              clear hK K
              refine wpAnyH_done (by kernel_rfl) ?_ _
              exact ⟨rfl, _, _, _, _, _, _, t0, t1, t2, rfl, hRR⟩
          · go_simp
            refine hK.out _ _ (hBx0.alloc hBx0.size _) (fun _ => ?_)
            clear hK K
            obtain ⟨yx0, he⟩ : ∃ y, y = x0.alloc (.cells zA 26) := ⟨_, rfl⟩
            rw [← he]
            have hb : Below x0.heap.size x0 yx0 := by rw [he]; exact (Below.refl _ _).alloc (Nat.le_refl _) _
            have hzyx0 : yx0.heap[x0.heap.size]? = some (.cells zA 26 (0, 0)) := by rw [he]; exact Deep.blk_alloc_new _ _
            have hsz : yx0.heap.size = x0.heap.size + 1 := by rw [he]; simp
            have hxl : D.heap.size ≤ x0.heap.size := hBx0.size
            have hByx0 := hBx0.trans (hb.mono hBx0.size)
            have hDA := hDA.below hb
            clear he hb
            refine wpAnyH_ready (rs := [3]) (by kernel_rfl) (by simp) ?_
            refine AllReadyH.cons rfl (fun K hK => ?_) AllReadyH.nil
            go_simp
            refine (toValue_any k.kind k.num k.flt k.str k.ref _).mono ?_
            rintro e x1a ⟨rfl, hb⟩
            have hDA := hDA.below hb
            have hBx1a := hByx0.trans (hb.mono hByx0.size)
            have hzx1a := (hb.block _ (Array.getElem?_eq_some_iff.1 hzyx0).1).trans hzyx0
            refine hK.out _ _ hBx1a (fun _ => ?_)
            clear hK K hb
            refine wpAnyH_ready (rs := [5]) (by kernel_rfl) (by simp) ?_
            refine AllReadyH.cons rfl (fun K hK => ?_) AllReadyH.nil
            go_simp
            refine (toValue_any v.kind v.num v.flt v.str v.ref _).mono ?_
            rintro e x2a ⟨rfl, hb⟩
            have hDA := hDA.below hb
            have hBx2a := hBx1a.trans (hb.mono hBx1a.size)
            have hzx2a := (hb.block _ (Array.getElem?_eq_some_iff.1 hzx1a).1).trans hzx1a
            refine hK.out _ _ hBx2a (fun _ => ?_)
            clear hK K hb
            refine wpAnyH_ready (rs := [6]) (by kernel_rfl) (by simp) ?_
            refine AllReadyH.cons rfl (fun K hK => ?_) AllReadyH.nil
            go_simp
            refine (unhide HPT x2a t0 t1 t2 hDA hBx2a).mono ?_
            rintro e x3a ⟨⟨s0, s1, s2, rfl, hDV⟩, hb⟩
            obtain ⟨ua, uc, ub, ud, ue, uf, e0, e1, e2, -⟩ := hDV.at
            subst e0 e1 e2
            have hlo : D.heap.size ≤ x2a.heap.size := hBx2a.size
            have hlh : x2a.heap.size ≤ x3a.heap.size := hb.size
            have hlx : x0.heap.size < x2a.heap.size := (Array.getElem?_eq_some_iff.1 hzx2a).1
            have hBx3a := hBx2a.trans (hb.mono hBx2a.size)
            have hzx3a := (hb.block _ (Array.getElem?_eq_some_iff.1 hzx2a).1).trans hzx2a
            refine hK.out _ _ hBx3a (fun _ => ?_)
            clear hK K hb
            have hzc := zcells hzx3a
            obtain ⟨y0, y1, y2, y3, y4, y5, yf⟩ := hzc
            refine wpAnyH_ready (rs := [8]) (by kernel_rfl) (by simp) ?_
            refine AllReadyH.cons rfl (fun K hK => ?_) AllReadyH.nil
            go_simp
            have hRR := RR.of_set (P := P) hBx3a hxl hzx3a hDV (by omega) hlh (Nat.le_refl _) (by omega)
            unfold set6 at hRR
            refine hK.out _ _ hRR.bel (fun _ => ?_)
            clear hK K
            refine wpAnyH_done (by kernel_rfl) ?_ _
            exact ⟨rfl, _, _, _, _, _, _, t0, t1, t2, rfl, hRR⟩
        · go_simp
          refine hK.out _ _ (hBD.alloc hBD.size _) (fun _ => ?_)
          clear hK K
          obtain ⟨yD, he⟩ : ∃ y, y = D.alloc (.cells zA 26) := ⟨_, rfl⟩
          rw [← he]
          have hb : Below D.heap.size D yD := by rw [he]; exact (Below.refl _ _).alloc (Nat.le_refl _) _
          have hzyD : yD.heap[D.heap.size]? = some (.cells zA 26 (0, 0)) := by rw [he]; exact Deep.blk_alloc_new _ _
          have hsz : yD.heap.size = D.heap.size + 1 := by rw [he]; simp
          have hxl : D.heap.size ≤ D.heap.size := hBD.size
          have hByD := hBD.trans (hb.mono hBD.size)
          clear he hb
          refine wpAnyH_ready (rs := [1]) (by kernel_rfl) (by simp) ?_
          refine AllReadyH.cons rfl (fun K hK => ?_) AllReadyH.nil
          go_simp
          refine (unhide HTD yD hByD).mono ?_
          rintro e x0a ⟨⟨t0, t1, t2, rfl, hDA⟩, hb⟩
          have hBx0a := hByD.trans (hb.mono hByD.size)
          have hzx0a := (hb.block _ (Array.getElem?_eq_some_iff.1 hzyD).1).trans hzyD
          refine hK.out _ _ hBx0a (fun _ => ?_)
          clear hK K hb
          refine wpAnyH_ready (rs := [3]) (by kernel_rfl) (by simp) ?_
          refine AllReadyH.cons rfl (fun K hK => ?_) AllReadyH.nil
          go_simp
          refine (toValue_any k.kind k.num k.flt k.str k.ref _).mono ?_
          rintro e x1a ⟨rfl, hb⟩
          have hDA := hDA.below hb
          have hBx1a := hBx0a.trans (hb.mono hBx0a.size)
          have hzx1a := (hb.block _ (Array.getElem?_eq_some_iff.1 hzx0a).1).trans hzx0a
          refine hK.out _ _ hBx1a (fun _ => ?_)
          clear hK K hb
          refine wpAnyH_ready (rs := [5]) (by kernel_rfl) (by simp) ?_
          refine AllReadyH.cons rfl (fun K hK => ?_) AllReadyH.nil
          go_simp
          refine (toValue_any v.kind v.num v.flt v.str v.ref _).mono ?_
          rintro e x2a ⟨rfl, hb⟩
          have hDA := hDA.below hb
          have hBx2a := hBx1a.trans (hb.mono hBx1a.size)
          have hzx2a := (hb.block _ (Array.getElem?_eq_some_iff.1 hzx1a).1).trans hzx1a
          refine hK.out _ _ hBx2a (fun _ => ?_)
          clear hK K hb
          refine wpAnyH_ready (rs := [6]) (by kernel_rfl) (by simp) ?_
          refine AllReadyH.cons rfl (fun K hK => ?_) AllReadyH.nil
          go_simp
          refine (unhide HPT x2a t0 t1 t2 hDA hBx2a).mono ?_
          rintro e x3a ⟨⟨s0, s1, s2, rfl, hDV⟩, hb⟩
          obtain ⟨ua, uc, ub, ud, ue, uf, e0, e1, e2, -⟩ := hDV.at
          subst e0 e1 e2
          have hlo : D.heap.size ≤ x2a.heap.size := hBx2a.size
          have hlh : x2a.heap.size ≤ x3a.heap.size := hb.size
          have hlx : D.heap.size < x2a.heap.size := (Array.getElem?_eq_some_iff.1 hzx2a).1
          have hBx3a := hBx2a.trans (hb.mono hBx2a.size)
          have hzx3a := (hb.block _ (Array.getElem?_eq_some_iff.1 hzx2a).1).trans hzx2a
          refine hK.out _ _ hBx3a (fun _ => ?_)
          clear hK K hb
          have hzc := zcells hzx3a
          obtain ⟨y0, y1, y2, y3, y4, y5, yf⟩ := hzc
          refine wpAnyH_ready (rs := [8]) (by kernel_rfl) (by simp) ?_
          refine AllReadyH.cons rfl (fun K hK => ?_) AllReadyH.nil
          go_simp
          have hRR := RR.of_set (P := P) hBx3a hxl hzx3a hDV (by omega) hlh (Nat.le_refl _) (by omega)
          unfold set6 at hRR
          refine hK.out _ _ hRR.bel (fun _ => ?_)
          clear hK K
          refine wpAnyH_done (by kernel_rfl) ?_ _
          exact ⟨rfl, _, _, _, _, _, _, t0, t1, t2, rfl, hRR⟩
      case cont =>
        rintro e a' W5 ⟨rfl, b14, z0, z1, z2, lo3, hi3, t0', t1', t2', rfl, hR3⟩
        dsimp only
        have hb5 : Below w10.heap.size w10 W5 := (Below.refl w10.heap.size w10).drew.trans hR3.bel
        have hLS11 := (unhide HLS10).keep hb5
        have HLS11 := hide hLS11
        obtain ⟨g0, g1, g2, g3, g4, g5, lg⟩ := dcells hR3.blk
        obtain ⟨f0, f1, f2, f3, f4, f5, lf⟩ := dcells hLS11.x8
        have HDV3 := hide hR3.dv
        clear hb5 hLS11 hR3 HLS10
        go_wp2_with fail
        refine (eqDV (unhide HDV3) (unhide HLS11).dv0 (unhide HSP)).mono ?_
        rintro e w12 ⟨rfl, hb12⟩
        have hLS12 := (unhide HLS11).keep hb12
        have HLS12 := hide hLS12
        clear g0 g1 g2 g3 g4 g5 lg f0 f1 f2 f3 f4 f5 lf
        obtain ⟨g0, g1, g2, g3, g4, g5, lg⟩ := dcells hLS12.x10
        clear hb12 hLS12 HLS11 HDV3
        go_wp2_with fail
        refine (unhide HHE _ (unhide HLS12).dv1 (unhide HLS12).h2).mono ?_
        rintro e w13 ⟨rfl, hb13⟩
        have HB13 := hide ((unhide HLS12).lb.bel.trans (hb13.mono (unhide HLS12).lb.bel.size))
        clear hb13 HLS12 g0 g1 g2 g3 g4 g5 lg
        go_wp2
        go_ret
        exact ⟨rfl, unhide HB13⟩
end Go.Proofs.YtglcaejddckleaaGreatDoor
