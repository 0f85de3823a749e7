/-
  DlA, DgM, DyI, DyE, DpB, DpC, DyF in one text.
-/
import Derived.Test.YtglcaejddckleaaGreatDoorBk1
import Derived.Test.YtglcaejddckleaaGreatDoorBk0
import Derived.Deep.RegionHeld3
import Derived.Test.YtglcaejddckleaaGreatDoorBk2
import Derived.Test.YtglcaejddckleaaGreatDoorBk4
import Derived.Stop.RegionWithIn
namespace Go.Proofs.YtglcaejddckleaaGreatDoor
open Go.RowKit
set_option linter.unusedVariables false
attribute [local go_sem] run_store_float run_equalIn_float

/-- The first zero from k on. -/
def fz0 (f : Nat → Int) (m : Nat) : Nat → Nat → Nat
  | k, 0 => k
  | k, g + 1 => if f k = 0 then k else fz0 f m (k + 1) g
def lenN (d : Dc) : Nat := fz0 d.I d.m 0 d.m
theorem fz0_stop {f : Nat → Int} {m k : Nat} (h : f k = 0) (hk : k < m) : fz0 f m k (m - k) = k := by
  obtain ⟨g, hg⟩ : ∃ g, m - k = g + 1 := ⟨m - k - 1, by omega⟩
  rw [hg]
  exact if_pos h
theorem fz0_next {f : Nat → Int} {m k : Nat} (h : f k ≠ 0) (hk : k < m) : fz0 f m k (m - k) = fz0 f m (k + 1) (m - (k + 1)) := by
  obtain ⟨g, hg⟩ : ∃ g, m - k = g + 1 := ⟨m - k - 1, by omega⟩
  rw [hg, show m - (k + 1) = g by omega]
  exact if_neg h
open Classical in
noncomputable def lenOut (d : Dc) : Int := if dictOk d (hD d) = 0 then (lenN d : Int) else 0

set_option maxRecDepth 100000 in
set_option maxHeartbeats 1000000 in
theorem l1len_any (c o : Nat) (la : Option Addr) (lc : Nat) (ia : Option Addr) (ic : Nat) (xa : Option Addr) (xc : Nat) (d : Dc) (w : World) (hD : DPtr w c o la lc ia ic xa xc d) (hS : Small d) :
    Calls Tryz.prog 86 #[Pc c o] w fun e w' => e = .returned (.int .i64 (lenN d : Int)) ∧ Below w.heap.size w w' := by
  have hm := hS.m
  have c1 := hD.c1
  have hlt := hD.lt
  have HI := hide hD.rows.ints
  clear hD hS
  go_enter Tryz.func86, Tryz.ntmps86
  go_wp2
  go_loopw [10] (fun i wr => ∃ k : Nat, k ≤ d.m ∧ i = .int .i64 k ∧ fz0 d.I d.m 0 d.m = fz0 d.I d.m k (d.m - k) ∧ wr = w) (fun i _ => d.m - (intOf i).toNat)
  case atStart => exact ⟨0, by omega, rfl, rfl, rfl⟩
  case round =>
    obtain ⟨k, hk, rfl, hz, hww⟩ := hrel
    rw [hww]
    clear hww
    have HZ := hide hz
    clear hz
    by_cases hkn : k < d.m
    · obtain ⟨b, off, rfl, hbl, hcs⟩ := (unhide HI).resolve_left (by omega)
      have e0 := hcs k hkn
      clear hcs
      by_cases h0 : d.I k = 0
      · have HR : Hid (lenN d = k) := hide ((unhide HZ).trans (fz0_stop h0 hkn))
        rw [h0] at e0
        clear h0
        go_wp2
        go_ret
        exact ⟨by rw [unhide HR]; rfl, Below.refl _ _⟩
      · have HN : Hid (fz0 d.I d.m 0 d.m = fz0 d.I d.m (k + 1) (d.m - (k + 1))) := hide ((unhide HZ).trans (fz0_next h0 hkn))
        have h0' : (d.I k == 0) = false := by simp [h0]
        clear h0
        go_wp2
        go_roundw
        case rel => exact ⟨k + 1, by omega, by go_num, unhide HN, trivial⟩
        case measure => simp [intOf]; omega
    · have hkn' : k = d.m := by omega
      have HR : Hid (lenN d = d.m) := hide ((unhide HZ).trans (by rw [hkn', Nat.sub_self]; rfl))
      clear hkn'
      go_wp2
      go_ret
      exact ⟨by rw [unhide HR]; rfl, Below.refl _ _⟩

set_option maxRecDepth 100000 in
set_option maxHeartbeats 2000000 in
theorem specLen (la : Option Addr) (lc : Nat) (ia : Option Addr) (ic : Nat) (xa : Option Addr) (xc : Nat) (d : Dc) (w : World) (hA : DAt w la ia xa d) (hS : Small d) (hW : WfD d) :
    Calls Tryz.prog 40 #[Dv la lc ia ic xa xc d] w fun e w' => e = .returned (.int .i64 (lenOut d)) ∧ Below w.heap.size w w' := by
  have HA := hide hA
  have HS := hide hS
  have HW := hide hW
  clear hA hS hW
  have hb0 : Below w.heap.size w (w.alloc (.cells #[.slice la d.n lc, .slice ia d.m ic, .slice xa d.x xc, .int .i64 d.used, .int .i64 d.live, .int .i64 d.turns] 26)) := (Below.refl _ _).alloc (Nat.le_refl _) _
  have HB0 := hide hb0
  clear hb0
  go_enter Tryz.func40, Tryz.ntmps40
  go_wp2_with fail
  refine (specOk la lc ia ic xa xc d _ ((unhide HA).below (unhide HB0)) (unhide HS) (unhide HW)).mono ?_
  rintro e w1 ⟨rfl, hb1⟩
  obtain ⟨hc1, hf1⟩ := bcell hb1
  have q0 : w1.cell? ⟨w.heap.size, 0, none⟩ = some (.slice la d.n lc) := by rw [hc1 _ _ (by simp)]; simp [go_sem]
  have q1 : w1.cell? ⟨w.heap.size, 1, none⟩ = some (.slice ia d.m ic) := by rw [hc1 _ _ (by simp)]; simp [go_sem]
  have q2 : w1.cell? ⟨w.heap.size, 2, none⟩ = some (.slice xa d.x xc) := by rw [hc1 _ _ (by simp)]; simp [go_sem]
  have q3 : w1.cell? ⟨w.heap.size, 3, none⟩ = some (.int .i64 d.used) := by rw [hc1 _ _ (by simp)]; simp [go_sem]
  have q4 : w1.cell? ⟨w.heap.size, 4, none⟩ = some (.int .i64 d.live) := by rw [hc1 _ _ (by simp)]; simp [go_sem]
  have q5 : w1.cell? ⟨w.heap.size, 5, none⟩ = some (.int .i64 d.turns) := by rw [hc1 _ _ (by simp)]; simp [go_sem]
  have HB1 := hide ((unhide HB0).trans (hb1.mono (unhide HB0).size))
  clear hb1 hc1 hf1
  by_cases hk : dictOk d (hD d) = 0
  case neg =>
    have HR : Hid (lenOut d = 0) := hide (if_neg hk)
    have hk' : (dictOk d (hD d) != 0) = true := by simp [hk]
    clear hk
    generalize dictOk d (hD d) = ok at hk'
    go_wp2
    go_ret
    exact ⟨by rw [unhide HR]; rfl, unhide HB1⟩
  have HR : Hid (lenOut d = (lenN d : Int)) := hide (if_pos hk)
  rw [hk]
  clear hk
  go_wp2_with fail
  refine (l1copy_any la lc ia ic xa xc d _ ((unhide HA).below (unhide HB1)) (unhide HS)).mono ?_
  rintro e w2 ⟨⟨c, v0, v1, v2, rfl, hceq, hown⟩, hb2⟩
  clear hceq
  obtain ⟨la', lc', ia', ic', xa', xc', rfl, rfl, rfl, hP⟩ := hown.ptr
  have HB2 := hide ((unhide HB1).trans (hb2.mono (unhide HB1).size))
  have HP2 := hide hP
  clear hb2 hown hP
  go_wp2_with fail
  refine (l1len_any c 0 la' lc' ia' ic' xa' xc' d _ (unhide HP2) (unhide HS)).mono ?_
  rintro e w3 ⟨rfl, hb3⟩
  have HB3 := hide ((unhide HB2).trans (hb3.mono (unhide HB2).size))
  clear hb3
  go_wp2
  go_ret
  exact ⟨by rw [unhide HR]; rfl, unhide HB3⟩

set_option maxRecDepth 100000 in
set_option maxHeartbeats 2000000 in
theorem implLen (la : Option Addr) (lc : Nat) (ia : Option Addr) (ic : Nat) (xa : Option Addr) (xc : Nat) (d : Dc) (w : World) (hT : Tabs w) (hA : DAt w la ia xa d) (hS : Small d) (hW : WfD d) :
    Calls Tryz.prog 27 #[Dv la lc ia ic xa xc d] w fun e w' => e = .returned (.int .i64 (lenOut d)) ∧ Below w.heap.size w w' := by
  have hm := hS.m
  have HA := hide hA
  have HS := hide hS
  have HW := hide hW
  have HT := hide hT
  clear hA hS hW hT
  have hb0 : Below w.heap.size w (w.alloc (.cells #[.slice la d.n lc, .slice ia d.m ic, .slice xa d.x xc, .int .i64 d.used, .int .i64 d.live, .int .i64 d.turns] 26)) := (Below.refl _ _).alloc (Nat.le_refl _) _
  have HB0 := hide hb0
  clear hb0
  go_enter Tryz.func27, Tryz.ntmps27
  go_wp2_with fail
  refine (implOk la lc ia ic xa xc d _ (lastsT _ _ (unhide HT) (unhide HB0)) ((unhide HA).below (unhide HB0)) (unhide HS) (unhide HW)).mono ?_
  rintro e w1 ⟨rfl, hb1⟩
  obtain ⟨hc1, hf1⟩ := bcell hb1
  have q1 : w1.cell? ⟨w.heap.size, 1, none⟩ = some (.slice ia d.m ic) := by rw [hc1 _ _ (by simp)]; simp [go_sem]
  have HB1 := hide ((unhide HB0).trans (hb1.mono (unhide HB0).size))
  clear hb1 hc1 hf1
  by_cases hk : dictOk d (hD d) = 0
  case neg =>
    have HR : Hid (lenOut d = 0) := hide (if_neg hk)
    have hk' : (dictOk d (hD d) != 0) = true := by simp [hk]
    clear hk
    generalize dictOk d (hD d) = ok at hk'
    go_wp2
    go_ret
    exact ⟨by rw [unhide HR]; rfl, unhide HB1⟩
  have HR : Hid (lenOut d = (lenN d : Int)) := hide (if_pos hk)
  rw [hk]
  clear hk
  have HI := hide ((unhide HA).below (unhide HB1)).ints
  go_wp2_with fail
  go_loopw [11] (fun i wr => ∃ k : Nat, k ≤ d.m ∧ i = .int .i64 k ∧ fz0 d.I d.m 0 d.m = fz0 d.I d.m k (d.m - k) ∧ wr = w1) (fun i _ => d.m - (intOf i).toNat)
  case atStart => exact ⟨0, by omega, rfl, rfl, rfl⟩
  case round =>
    obtain ⟨k, hk, rfl, hz, hww⟩ := hrel
    rw [hww]
    clear hww
    have HZ := hide hz
    clear hz
    by_cases hkn : k < d.m
    · obtain ⟨b, off, rfl, hbl, hcs⟩ := (unhide HI).resolve_left (by omega)
      have e0 := hcs k hkn
      clear hcs
      by_cases h0 : d.I k = 0
      · have HR2 : Hid (lenOut d = (k : Int)) := hide ((unhide HR).trans (congrArg Int.ofNat ((unhide HZ).trans (fz0_stop h0 hkn))))
        rw [h0] at e0
        clear h0
        go_wp2
        go_ret
        exact ⟨by rw [unhide HR2]; rfl, unhide HB1⟩
      · have HN : Hid (fz0 d.I d.m 0 d.m = fz0 d.I d.m (k + 1) (d.m - (k + 1))) := hide ((unhide HZ).trans (fz0_next h0 hkn))
        have h0' : (d.I k == 0) = false := by simp [h0]
        clear h0
        go_wp2
        go_roundw
        case rel => exact ⟨k + 1, by omega, by go_num, unhide HN, trivial⟩
        case measure => simp [intOf]; omega
    · have hkn' : k = d.m := by omega
      have HR2 : Hid (lenOut d = (d.m : Int)) := hide ((unhide HR).trans (congrArg Int.ofNat ((unhide HZ).trans (by rw [hkn', Nat.sub_self]; rfl))))
      clear hkn'
      go_wp2
      go_ret
      exact ⟨by rw [unhide HR2]; rfl, unhide HB1⟩
end Go.Proofs.YtglcaejddckleaaGreatDoor
namespace Go.Proofs.YtglcaejddckleaaGreatDoor
open Go.RowKit
set_option linter.unusedVariables false
attribute [local go_sem] run_store_float run_equalIn_float

abbrev VV (v : Vl) : Value := V v.kind v.num v.flt v.str v.ref
/-- KeyOf of a value: its code, and the key. -/
theorem keyed (v : Vl) (hw : Wf v) : ∃ (c : Int) (kv : Vl), keyV v.kind v.num v.flt v.str v.ref = KV c kv.kind kv.num kv.flt kv.str kv.ref ∧ (c = 0 → HsS kv (hN kv) ∧ HsI Tabs kv (hN kv)) := by
  obtain ⟨c, k, n, f, t, r, hk, hh⟩ := keyV_hash v.kind v.num v.flt v.str v.ref hw.str hw.flt
  refine ⟨c, ⟨k, n, f, t, r⟩, hk, fun hc => ?_⟩
  have hK := hh hc
  have hr := hashI_range k n f t r
  have he : ((hN ⟨k, n, f, t, r⟩ : Nat) : Int) = hashI k n f t r := hN_eq ⟨k, n, f, t, r⟩
  exact ⟨⟨by omega, fun w => by rw [he]; exact l1hash_any k n f t r w hK⟩, ⟨by omega, fun w hT => by rw [he]; exact hashKey_any k n f t r w hK hT⟩⟩
/-- What is at a place. -/
def atPlace (d : Dc) (p : Int) : Vl := if 0 ≤ p then (d.L p.toNat).val else default
open Classical in
noncomputable def getV (d : Dc) (c : Int) (kv : Vl) : Vl := if dictOk d (hD d) = 0 ∧ c = 0 then atPlace d (placeI d kv (hN kv)) else default

set_option maxRecDepth 100000 in
set_option maxHeartbeats 2000000 in
theorem specGet (la : Option Addr) (lc : Nat) (ia : Option Addr) (ic : Nat) (xa : Option Addr) (xc : Nat) (d : Dc) (v : Vl) (c : Int) (kv : Vl) (w : World) (hA : DAt w la ia xa d) (hS : Small d) (hW : WfD d) (hk : keyV v.kind v.num v.flt v.str v.ref = KV c kv.kind kv.num kv.flt kv.str kv.ref) (hh : c = 0 → HsS kv (hN kv)) :
    Calls Tryz.prog 33 #[Dv la lc ia ic xa xc d, VV v] w fun e w' => e = .returned (VV (getV d c kv)) ∧ Below w.heap.size w w' := by
  have HA := hide hA
  have HS := hide hS
  have HW := hide hW
  have HKV := hide hk
  have HH := hide hh
  clear hA hS hW hk hh
  have hb0 : Below w.heap.size w (((w.alloc (.cells #[.slice la d.n lc, .slice ia d.m ic, .slice xa d.x xc, .int .i64 d.used, .int .i64 d.live, .int .i64 d.turns] 26)).alloc (.cells #[.int .i64 v.kind, .int .i64 v.num, .float .f64 v.flt, .string v.str, .int .i64 v.ref] 30)).alloc (.cells #[.int .i64 0, .int .i64 0, .float .f64 0, .string ⟨#[]⟩, .int .i64 0] 30)) := (((Below.refl _ _).alloc (Nat.le_refl _) _).alloc (by simp) _).alloc (by simp; omega) _
  have HB0 := hide hb0
  clear hb0
  go_enter Tryz.func33, Tryz.ntmps33
  go_wp2_with fail
  refine (skey_any v.kind v.num v.flt v.str v.ref _).mono ?_
  rintro e w1 ⟨rfl, hb1⟩
  rw [unhide HKV]
  obtain ⟨hc1, hf1⟩ := bcell hb1
  have hz1 := hb1.size
  simp at hz1
  have y0 : w.heap.size < w1.heap.size := by omega
  have y2 : w.heap.size + 1 + 1 < w1.heap.size := by omega
  have q0 : w1.cell? ⟨w.heap.size, 0, none⟩ = some (.slice la d.n lc) := by rw [hc1 _ _ (by simp; omega)]; simp [go_sem]
  have q1 : w1.cell? ⟨w.heap.size, 1, none⟩ = some (.slice ia d.m ic) := by rw [hc1 _ _ (by simp; omega)]; simp [go_sem]
  have q2 : w1.cell? ⟨w.heap.size, 2, none⟩ = some (.slice xa d.x xc) := by rw [hc1 _ _ (by simp; omega)]; simp [go_sem]
  have q3 : w1.cell? ⟨w.heap.size, 3, none⟩ = some (.int .i64 d.used) := by rw [hc1 _ _ (by simp; omega)]; simp [go_sem]
  have q4 : w1.cell? ⟨w.heap.size, 4, none⟩ = some (.int .i64 d.live) := by rw [hc1 _ _ (by simp; omega)]; simp [go_sem]
  have q5 : w1.cell? ⟨w.heap.size, 5, none⟩ = some (.int .i64 d.turns) := by rw [hc1 _ _ (by simp; omega)]; simp [go_sem]
  have r0 : w1.cell? ⟨w.heap.size + 1 + 1, 0, none⟩ = some (.int .i64 0) := by rw [hc1 _ _ (by simp)]; simp [go_sem]
  have r1 : w1.cell? ⟨w.heap.size + 1 + 1, 1, none⟩ = some (.int .i64 0) := by rw [hc1 _ _ (by simp)]; simp [go_sem]
  have r2 : w1.cell? ⟨w.heap.size + 1 + 1, 2, none⟩ = some (.float .f64 0) := by rw [hc1 _ _ (by simp)]; simp [go_sem]
  have r3 : w1.cell? ⟨w.heap.size + 1 + 1, 3, none⟩ = some (.string ⟨#[]⟩) := by rw [hc1 _ _ (by simp)]; simp [go_sem]
  have r4 : w1.cell? ⟨w.heap.size + 1 + 1, 4, none⟩ = some (.int .i64 0) := by rw [hc1 _ _ (by simp)]; simp [go_sem]
  have fr : ∀ o, w1.frozen? ⟨w.heap.size + 1 + 1, o, none⟩ = false := fun o => by rw [hf1 _ _ (by simp)]; simp [go_sem]
  have HB1 := hide ((unhide HB0).trans (hb1.mono (unhide HB0).size))
  have HBs1 : Hid (∀ o, Below w.heap.size w (w1.alloc o)) := hide (fun o => (unhide HB1).alloc (by omega) _)
  clear hb1 hc1 hf1
  go_wp2_with fail
  refine (specOk la lc ia ic xa xc d _ ((unhide HA).below (unhide HBs1 _)) (unhide HS) (unhide HW)).mono ?_
  rintro e w2 ⟨rfl, hb2⟩
  obtain ⟨hc2, hf2⟩ := bcell hb2
  have hz2 := hb2.size
  simp at hz2
  have z0 : w.heap.size < w2.heap.size := by omega
  have z2 : w.heap.size + 1 + 1 < w2.heap.size := by omega
  have z3 : w1.heap.size < w2.heap.size := by omega
  have q0' : w2.cell? ⟨w.heap.size, 0, none⟩ = some (.slice la d.n lc) := by rw [hc2 _ _ (by simp; omega), World.cell?_alloc_lt _ _ _ (by exact y0)]; exact q0
  have q1' : w2.cell? ⟨w.heap.size, 1, none⟩ = some (.slice ia d.m ic) := by rw [hc2 _ _ (by simp; omega), World.cell?_alloc_lt _ _ _ (by exact y0)]; exact q1
  have q2' : w2.cell? ⟨w.heap.size, 2, none⟩ = some (.slice xa d.x xc) := by rw [hc2 _ _ (by simp; omega), World.cell?_alloc_lt _ _ _ (by exact y0)]; exact q2
  have q3' : w2.cell? ⟨w.heap.size, 3, none⟩ = some (.int .i64 d.used) := by rw [hc2 _ _ (by simp; omega), World.cell?_alloc_lt _ _ _ (by exact y0)]; exact q3
  have q4' : w2.cell? ⟨w.heap.size, 4, none⟩ = some (.int .i64 d.live) := by rw [hc2 _ _ (by simp; omega), World.cell?_alloc_lt _ _ _ (by exact y0)]; exact q4
  have q5' : w2.cell? ⟨w.heap.size, 5, none⟩ = some (.int .i64 d.turns) := by rw [hc2 _ _ (by simp; omega), World.cell?_alloc_lt _ _ _ (by exact y0)]; exact q5
  have r0' : w2.cell? ⟨w.heap.size + 1 + 1, 0, none⟩ = some (.int .i64 0) := by rw [hc2 _ _ (by simp; omega), World.cell?_alloc_lt _ _ _ (by exact y2)]; exact r0
  have r1' : w2.cell? ⟨w.heap.size + 1 + 1, 1, none⟩ = some (.int .i64 0) := by rw [hc2 _ _ (by simp; omega), World.cell?_alloc_lt _ _ _ (by exact y2)]; exact r1
  have r2' : w2.cell? ⟨w.heap.size + 1 + 1, 2, none⟩ = some (.float .f64 0) := by rw [hc2 _ _ (by simp; omega), World.cell?_alloc_lt _ _ _ (by exact y2)]; exact r2
  have r3' : w2.cell? ⟨w.heap.size + 1 + 1, 3, none⟩ = some (.string ⟨#[]⟩) := by rw [hc2 _ _ (by simp; omega), World.cell?_alloc_lt _ _ _ (by exact y2)]; exact r3
  have r4' : w2.cell? ⟨w.heap.size + 1 + 1, 4, none⟩ = some (.int .i64 0) := by rw [hc2 _ _ (by simp; omega), World.cell?_alloc_lt _ _ _ (by exact y2)]; exact r4
  have k0 : w2.cell? ⟨w1.heap.size, 0, none⟩ = some (.int .i64 c) := by rw [hc2 _ _ (by simp)]; simp [go_sem]
  have k1 : w2.cell? ⟨w1.heap.size, 1, none⟩ = some (.int .i64 kv.kind) := by rw [hc2 _ _ (by simp)]; simp [go_sem]
  have k2 : w2.cell? ⟨w1.heap.size, 2, none⟩ = some (.int .i64 kv.num) := by rw [hc2 _ _ (by simp)]; simp [go_sem]
  have k3 : w2.cell? ⟨w1.heap.size, 3, none⟩ = some (.float .f64 kv.flt) := by rw [hc2 _ _ (by simp)]; simp [go_sem]
  have k4 : w2.cell? ⟨w1.heap.size, 4, none⟩ = some (.string kv.str) := by rw [hc2 _ _ (by simp)]; simp [go_sem]
  have k5 : w2.cell? ⟨w1.heap.size, 5, none⟩ = some (.int .i64 kv.ref) := by rw [hc2 _ _ (by simp)]; simp [go_sem]
  have fr2 : ∀ o, w2.frozen? ⟨w.heap.size + 1 + 1, o, none⟩ = false := fun o => by rw [hf2 _ _ (by simp; omega)]; exact (((Below.refl w1.heap.size w1).alloc (Nat.le_refl _) _).frozen (p := ⟨w.heap.size + 1 + 1, o, none⟩) y2).trans (fr o)
  have HB2 := hide ((unhide HBs1 _).trans (hb2.mono (unhide HBs1 _).size))
  clear hb2 hc2 hf2 fr q0 q1 q2 q3 q4 q5 r0 r1 r2 r3 r4
  by_cases hok : dictOk d (hD d) = 0
  case neg =>
    have HR : Hid (getV d c kv = default) := hide (if_neg (fun h => hok h.1))
    have hk' : (dictOk d (hD d) != 0) = true := by simp [hok]
    clear hok
    generalize dictOk d (hD d) = ok at hk'
    go_wp2
    refine bodyPost_ret (v := .agg #[.int .i64 0, .int .i64 0, .float .f64 0, .string ⟨#[]⟩, .int .i64 0]) (by simp [results, Tryz.results33, go_sem, r0', r1', r2', r3', r4']) rfl ⟨by rw [unhide HR]; rfl, ?_⟩
    iterate 5 (refine Below.setCell ?_ (by show w.heap.size ≤ w.heap.size + 1 + 1; omega) _)
    exact unhide HB2
  by_cases hc : c = 0
  case neg =>
    have HR : Hid (getV d c kv = default) := hide (if_neg (fun h => hc h.2))
    have hc' : (c != 0) = true := by simp [hc]
    rw [hok]
    clear hok hc
    go_wp2
    refine bodyPost_ret (v := .agg #[.int .i64 0, .int .i64 0, .float .f64 0, .string ⟨#[]⟩, .int .i64 0]) (by simp [results, Tryz.results33, go_sem, r0', r1', r2', r3', r4']) rfl ⟨by rw [unhide HR]; rfl, ?_⟩
    iterate 5 (refine Below.setCell ?_ (by show w.heap.size ≤ w.heap.size + 1 + 1; omega) _)
    exact unhide HB2
  have HR : Hid (getV d c kv = atPlace d (placeI d kv (hN kv))) := hide (if_pos ⟨hok, hc⟩)
  have HSd := hide (sound_of hok)
  have HHs := hide (unhide HH hc)
  rw [hok]
  subst hc
  clear hok
  go_wp2_with fail
  refine (l1copy_any la lc ia ic xa xc d _ ((unhide HA).below (unhide HB2)) (unhide HS)).mono ?_
  rintro e w3 ⟨⟨cp, v0, v1, v2, rfl, hceq, hown⟩, hb3⟩
  clear hceq
  obtain ⟨la', lc', ia', ic', xa', xc', rfl, rfl, rfl, hP⟩ := hown.ptr
  have x2 : w.heap.size + 1 + 1 < w3.heap.size := Nat.lt_of_lt_of_le z2 hb3.size
  have x3 : w1.heap.size < w3.heap.size := Nat.lt_of_lt_of_le z3 hb3.size
  have r0 := (hb3.cell (p := ⟨w.heap.size + 1 + 1, 0, none⟩) z2).trans r0'
  have r1 := (hb3.cell (p := ⟨w.heap.size + 1 + 1, 1, none⟩) z2).trans r1'
  have r2 := (hb3.cell (p := ⟨w.heap.size + 1 + 1, 2, none⟩) z2).trans r2'
  have r3 := (hb3.cell (p := ⟨w.heap.size + 1 + 1, 3, none⟩) z2).trans r3'
  have r4 := (hb3.cell (p := ⟨w.heap.size + 1 + 1, 4, none⟩) z2).trans r4'
  have k0' := (hb3.cell (p := ⟨w1.heap.size, 0, none⟩) z3).trans k0
  have k1' := (hb3.cell (p := ⟨w1.heap.size, 1, none⟩) z3).trans k1
  have k2' := (hb3.cell (p := ⟨w1.heap.size, 2, none⟩) z3).trans k2
  have k3' := (hb3.cell (p := ⟨w1.heap.size, 3, none⟩) z3).trans k3
  have k4' := (hb3.cell (p := ⟨w1.heap.size, 4, none⟩) z3).trans k4
  have k5' := (hb3.cell (p := ⟨w1.heap.size, 5, none⟩) z3).trans k5
  have fr3 : ∀ o, w3.frozen? ⟨w.heap.size + 1 + 1, o, none⟩ = false := fun o => (hb3.frozen (p := ⟨w.heap.size + 1 + 1, o, none⟩) z2).trans (fr2 o)
  have HB3 := hide ((unhide HB2).trans (hb3.mono (unhide HB2).size))
  have HP3 := hide hP
  clear hb3 hown hP fr2 r0' r1' r2' r3' r4' k0 k1 k2 k3 k4 k5 q0' q1' q2' q3' q4' q5'
  go_wp2_with fail
  refine (l1place_any cp 0 la' lc' ia' ic' xa' xc' d kv (hN kv) _ (unhide HP3) (unhide HS) (unhide HSd).d3 (unhide HSd).d4 (unhide HHs)).mono ?_
  rintro e w4 ⟨rfl, hb4⟩
  obtain ⟨hp1, hp2⟩ := place_range (unhide HSd).d3 (unhide HSd).d4 kv (hN kv)
  generalize hpl : placeI d kv (hN kv) = pl at HR hp1 hp2
  clear hpl
  have x2' : w.heap.size + 1 + 1 < w4.heap.size := Nat.lt_of_lt_of_le x2 hb4.size
  have s0 := (hb4.cell (p := ⟨w.heap.size + 1 + 1, 0, none⟩) x2).trans r0
  have s1 := (hb4.cell (p := ⟨w.heap.size + 1 + 1, 1, none⟩) x2).trans r1
  have s2 := (hb4.cell (p := ⟨w.heap.size + 1 + 1, 2, none⟩) x2).trans r2
  have s3 := (hb4.cell (p := ⟨w.heap.size + 1 + 1, 3, none⟩) x2).trans r3
  have s4 := (hb4.cell (p := ⟨w.heap.size + 1 + 1, 4, none⟩) x2).trans r4
  have fr4 : ∀ o, w4.frozen? ⟨w.heap.size + 1 + 1, o, none⟩ = false := fun o => (hb4.frozen (p := ⟨w.heap.size + 1 + 1, o, none⟩) x2).trans (fr3 o)
  have hP4 := (unhide HP3).below hb4
  have c0 := hP4.c0
  have hlt4 := hP4.lt
  have HP4 := hide hP4
  have HB4 := hide ((unhide HB3).trans (hb4.mono (unhide HB3).size))
  have hn := (unhide HS).n
  clear hb4 hP4 fr3 r0 r1 r2 r3 r4 k0' k1' k2' k3' k4' k5'
  by_cases hneg : pl < 0
  · have HR2 : Hid (getV d 0 kv = default) := hide ((unhide HR).trans (if_neg (by omega)))
    go_wp2
    refine bodyPost_ret (v := .agg #[.int .i64 0, .int .i64 0, .float .f64 0, .string ⟨#[]⟩, .int .i64 0]) (by simp [results, Tryz.results33, go_sem, s0, s1, s2, s3, s4]) rfl ⟨by rw [unhide HR2]; rfl, ?_⟩
    iterate 5 (refine Below.setCell ?_ (by show w.heap.size ≤ w.heap.size + 1 + 1; omega) _)
    exact unhide HB4
  · obtain ⟨q, hq⟩ : ∃ q : Nat, pl = (q : Int) := ⟨pl.toNat, by omega⟩
    subst hq
    have hqn : q < d.n := by omega
    have HR2 : Hid (getV d 0 kv = (d.L q).val) := hide ((unhide HR).trans (by unfold atPlace; rw [if_pos (by omega)]; rfl))
    obtain ⟨b, off, rfl, hbl, hcs⟩ := (unhide HP4).rows.log.resolve_left (by omega)
    obtain ⟨_, _, _, _, _, e5, e6, e7, e8, e9, _⟩ := hcs q hqn
    clear hcs hp1 hp2 hneg
    go_wp2
    refine bodyPost_ret (v := VV (d.L q).val) (by simp [results, Tryz.results33, go_sem, s0, s1, s2, s3, s4]) rfl ⟨by rw [unhide HR2], ?_⟩
    iterate 5 (refine Below.setCell ?_ (by show w.heap.size ≤ w.heap.size + 1 + 1; omega) _)
    exact unhide HB4
end Go.Proofs.YtglcaejddckleaaGreatDoor

namespace Go.Proofs.YtglcaejddckleaaGreatDoor
open Go.RowKit Go.Shelf
set_option linter.unusedVariables false
attribute [local go_sem] run_store_float run_equalIn_float

set_option maxRecDepth 100000 in
set_option maxHeartbeats 2000000 in
theorem implGet (la : Option Addr) (lc : Nat) (ia : Option Addr) (ic : Nat) (xa : Option Addr) (xc : Nat) (d : Dc) (v : Vl) (c : Int) (kv : Vl) (w : World) (hA : DAt w la ia xa d) (hS : Small d) (hW : WfD d) (hk : keyV v.kind v.num v.flt v.str v.ref = KV c kv.kind kv.num kv.flt kv.str kv.ref) (hh : c = 0 → HsI Tabs kv (hN kv)) (hT : Tabs w) :
    Calls Tryz.prog 20 #[Dv la lc ia ic xa xc d, VV v] w fun e w' => e = .returned (VV (getV d c kv)) ∧ Below w.heap.size w w' := by
  have HA := hide hA
  have HS := hide hS
  have HW := hide hW
  have HKV := hide hk
  have HH := hide hh
  have HT := hide hT
  clear hA hS hW hk hh hT
  have hb0 : Below w.heap.size w (((w.alloc (.cells #[.slice la d.n lc, .slice ia d.m ic, .slice xa d.x xc, .int .i64 d.used, .int .i64 d.live, .int .i64 d.turns] 26)).alloc (.cells #[.int .i64 v.kind, .int .i64 v.num, .float .f64 v.flt, .string v.str, .int .i64 v.ref] 30)).alloc (.cells #[.int .i64 0, .int .i64 0, .float .f64 0, .string ⟨#[]⟩, .int .i64 0] 30)) := (((Below.refl _ _).alloc (Nat.le_refl _) _).alloc (by simp) _).alloc (by simp; omega) _
  have HB0 := hide hb0
  clear hb0
  go_enter Tryz.func20, Tryz.ntmps20
  go_wp2_with fail
  refine (ikey_any v.kind v.num v.flt v.str v.ref _).mono ?_
  rintro e w1 ⟨rfl, hb1⟩
  rw [unhide HKV]
  obtain ⟨hc1, hf1⟩ := bcell hb1
  have hz1 := hb1.size
  simp at hz1
  have y0 : w.heap.size < w1.heap.size := by omega
  have y2 : w.heap.size + 1 + 1 < w1.heap.size := by omega
  have q0 : w1.cell? ⟨w.heap.size, 0, none⟩ = some (.slice la d.n lc) := by rw [hc1 _ _ (by simp; omega)]; simp [go_sem]
  have q1 : w1.cell? ⟨w.heap.size, 1, none⟩ = some (.slice ia d.m ic) := by rw [hc1 _ _ (by simp; omega)]; simp [go_sem]
  have q2 : w1.cell? ⟨w.heap.size, 2, none⟩ = some (.slice xa d.x xc) := by rw [hc1 _ _ (by simp; omega)]; simp [go_sem]
  have q3 : w1.cell? ⟨w.heap.size, 3, none⟩ = some (.int .i64 d.used) := by rw [hc1 _ _ (by simp; omega)]; simp [go_sem]
  have q4 : w1.cell? ⟨w.heap.size, 4, none⟩ = some (.int .i64 d.live) := by rw [hc1 _ _ (by simp; omega)]; simp [go_sem]
  have q5 : w1.cell? ⟨w.heap.size, 5, none⟩ = some (.int .i64 d.turns) := by rw [hc1 _ _ (by simp; omega)]; simp [go_sem]
  have r0 : w1.cell? ⟨w.heap.size + 1 + 1, 0, none⟩ = some (.int .i64 0) := by rw [hc1 _ _ (by simp)]; simp [go_sem]
  have r1 : w1.cell? ⟨w.heap.size + 1 + 1, 1, none⟩ = some (.int .i64 0) := by rw [hc1 _ _ (by simp)]; simp [go_sem]
  have r2 : w1.cell? ⟨w.heap.size + 1 + 1, 2, none⟩ = some (.float .f64 0) := by rw [hc1 _ _ (by simp)]; simp [go_sem]
  have r3 : w1.cell? ⟨w.heap.size + 1 + 1, 3, none⟩ = some (.string ⟨#[]⟩) := by rw [hc1 _ _ (by simp)]; simp [go_sem]
  have r4 : w1.cell? ⟨w.heap.size + 1 + 1, 4, none⟩ = some (.int .i64 0) := by rw [hc1 _ _ (by simp)]; simp [go_sem]
  have fr : ∀ o, w1.frozen? ⟨w.heap.size + 1 + 1, o, none⟩ = false := fun o => by rw [hf1 _ _ (by simp)]; simp [go_sem]
  have HB1 := hide ((unhide HB0).trans (hb1.mono (unhide HB0).size))
  have HBs1 : Hid (∀ o, Below w.heap.size w (w1.alloc o)) := hide (fun o => (unhide HB1).alloc (by omega) _)
  clear hb1 hc1 hf1
  by_cases hc : c = 0
  case neg =>
    have HR : Hid (getV d c kv = default) := hide (if_neg (fun h => hc h.2))
    have hc' : (c != 0) = true := by simp [hc]
    clear hc
    go_wp2
    refine bodyPost_ret (v := .agg #[.int .i64 0, .int .i64 0, .float .f64 0, .string ⟨#[]⟩, .int .i64 0]) (by simp [results, Tryz.results20, go_sem, World.cell?_alloc_lt, y2, r0, r1, r2, r3, r4]) rfl ⟨by rw [unhide HR]; rfl, ?_⟩
    refine Below.alloc ?_ (by simp; omega) _
    iterate 5 (refine Below.setCell ?_ (by show w.heap.size ≤ w.heap.size + 1 + 1; omega) _)
    exact unhide HB1
  have HHs := hide (unhide HH hc)
  subst hc
  go_wp2_with fail
  refine (implOk la lc ia ic xa xc d _ (lastsT _ _ (unhide HT) (unhide HBs1 _)) ((unhide HA).below (unhide HBs1 _)) (unhide HS) (unhide HW)).mono ?_
  rintro e w2 ⟨rfl, hb2⟩
  obtain ⟨hc2, hf2⟩ := bcell hb2
  have hz2 := hb2.size
  simp at hz2
  have z0 : w.heap.size < w2.heap.size := by omega
  have z2 : w.heap.size + 1 + 1 < w2.heap.size := by omega
  have z3 : w1.heap.size < w2.heap.size := by omega
  have q0' : w2.cell? ⟨w.heap.size, 0, none⟩ = some (.slice la d.n lc) := by rw [hc2 _ _ (by simp; omega), World.cell?_alloc_lt _ _ _ (by exact y0)]; exact q0
  have q1' : w2.cell? ⟨w.heap.size, 1, none⟩ = some (.slice ia d.m ic) := by rw [hc2 _ _ (by simp; omega), World.cell?_alloc_lt _ _ _ (by exact y0)]; exact q1
  have q2' : w2.cell? ⟨w.heap.size, 2, none⟩ = some (.slice xa d.x xc) := by rw [hc2 _ _ (by simp; omega), World.cell?_alloc_lt _ _ _ (by exact y0)]; exact q2
  have q3' : w2.cell? ⟨w.heap.size, 3, none⟩ = some (.int .i64 d.used) := by rw [hc2 _ _ (by simp; omega), World.cell?_alloc_lt _ _ _ (by exact y0)]; exact q3
  have q4' : w2.cell? ⟨w.heap.size, 4, none⟩ = some (.int .i64 d.live) := by rw [hc2 _ _ (by simp; omega), World.cell?_alloc_lt _ _ _ (by exact y0)]; exact q4
  have q5' : w2.cell? ⟨w.heap.size, 5, none⟩ = some (.int .i64 d.turns) := by rw [hc2 _ _ (by simp; omega), World.cell?_alloc_lt _ _ _ (by exact y0)]; exact q5
  have r0' : w2.cell? ⟨w.heap.size + 1 + 1, 0, none⟩ = some (.int .i64 0) := by rw [hc2 _ _ (by simp; omega), World.cell?_alloc_lt _ _ _ (by exact y2)]; exact r0
  have r1' : w2.cell? ⟨w.heap.size + 1 + 1, 1, none⟩ = some (.int .i64 0) := by rw [hc2 _ _ (by simp; omega), World.cell?_alloc_lt _ _ _ (by exact y2)]; exact r1
  have r2' : w2.cell? ⟨w.heap.size + 1 + 1, 2, none⟩ = some (.float .f64 0) := by rw [hc2 _ _ (by simp; omega), World.cell?_alloc_lt _ _ _ (by exact y2)]; exact r2
  have r3' : w2.cell? ⟨w.heap.size + 1 + 1, 3, none⟩ = some (.string ⟨#[]⟩) := by rw [hc2 _ _ (by simp; omega), World.cell?_alloc_lt _ _ _ (by exact y2)]; exact r3
  have r4' : w2.cell? ⟨w.heap.size + 1 + 1, 4, none⟩ = some (.int .i64 0) := by rw [hc2 _ _ (by simp; omega), World.cell?_alloc_lt _ _ _ (by exact y2)]; exact r4
  have k0 : w2.cell? ⟨w1.heap.size, 0, none⟩ = some (.int .i64 0) := by rw [hc2 _ _ (by simp)]; simp [go_sem]
  have k1 : w2.cell? ⟨w1.heap.size, 1, none⟩ = some (.int .i64 kv.kind) := by rw [hc2 _ _ (by simp)]; simp [go_sem]
  have k2 : w2.cell? ⟨w1.heap.size, 2, none⟩ = some (.int .i64 kv.num) := by rw [hc2 _ _ (by simp)]; simp [go_sem]
  have k3 : w2.cell? ⟨w1.heap.size, 3, none⟩ = some (.float .f64 kv.flt) := by rw [hc2 _ _ (by simp)]; simp [go_sem]
  have k4 : w2.cell? ⟨w1.heap.size, 4, none⟩ = some (.string kv.str) := by rw [hc2 _ _ (by simp)]; simp [go_sem]
  have k5 : w2.cell? ⟨w1.heap.size, 5, none⟩ = some (.int .i64 kv.ref) := by rw [hc2 _ _ (by simp)]; simp [go_sem]
  have fr2 : ∀ o, w2.frozen? ⟨w.heap.size + 1 + 1, o, none⟩ = false := fun o => by rw [hf2 _ _ (by simp; omega)]; exact (((Below.refl w1.heap.size w1).alloc (Nat.le_refl _) _).frozen (p := ⟨w.heap.size + 1 + 1, o, none⟩) y2).trans (fr o)
  have HB2 := hide ((unhide HBs1 _).trans (hb2.mono (unhide HBs1 _).size))
  clear hb2 hc2 hf2 fr q0 q1 q2 q3 q4 q5 r0 r1 r2 r3 r4
  by_cases hok : dictOk d (hD d) = 0
  case neg =>
    have HR : Hid (getV d 0 kv = default) := hide (if_neg (fun h => hok h.1))
    have hk' : (dictOk d (hD d) != 0) = true := by simp [hok]
    clear hok
    generalize dictOk d (hD d) = ok at hk'
    go_wp2
    refine bodyPost_ret (v := .agg #[.int .i64 0, .int .i64 0, .float .f64 0, .string ⟨#[]⟩, .int .i64 0]) (by simp [results, Tryz.results20, go_sem, r0', r1', r2', r3', r4']) rfl ⟨by rw [unhide HR]; rfl, ?_⟩
    iterate 5 (refine Below.setCell ?_ (by show w.heap.size ≤ w.heap.size + 1 + 1; omega) _)
    exact unhide HB2
  have HR : Hid (getV d 0 kv = atPlace d (placeI d kv (hN kv))) := hide (if_pos ⟨hok, rfl⟩)
  have HSd := hide (sound_of hok)
  rw [hok]
  clear hok
  have HAd := hide ((unhide HA).below (unhide HB2).drew)
  have HTd := hide (lastsT _ _ (unhide HT) (unhide HB2).drew)
  have HB2d := hide (unhide HB2).drew
  go_wp2_with fail
  go_region_law (first
    | (go_simp; go_at_call 52; refine (openBook_any la lc ia ic xa xc d _ (unhide HAd) (unhide HS) (unhide HSd).d3 (unhide HSd).d4).mono ?_; rintro e w3 ⟨⟨bk, R0, R1, R2, E, S, rfl, hBk⟩, hb3⟩; have n1 := (hb3.cell (p := ⟨w1.heap.size, 1, none⟩) z3).trans k1; have n2 := (hb3.cell (p := ⟨w1.heap.size, 2, none⟩) z3).trans k2; have n3 := (hb3.cell (p := ⟨w1.heap.size, 3, none⟩) z3).trans k3; have n4 := (hb3.cell (p := ⟨w1.heap.size, 4, none⟩) z3).trans k4; have n5 := (hb3.cell (p := ⟨w1.heap.size, 5, none⟩) z3).trans k5; have m0 := (hb3.cell (p := ⟨w.heap.size + 1 + 1, 0, none⟩) z2).trans r0'; have m1 := (hb3.cell (p := ⟨w.heap.size + 1 + 1, 1, none⟩) z2).trans r1'; have m2 := (hb3.cell (p := ⟨w.heap.size + 1 + 1, 2, none⟩) z2).trans r2'; have m3 := (hb3.cell (p := ⟨w.heap.size + 1 + 1, 3, none⟩) z2).trans r3'; have m4 := (hb3.cell (p := ⟨w.heap.size + 1 + 1, 4, none⟩) z2).trans r4'; have mf : ∀ o, w3.frozen? ⟨w.heap.size + 1 + 1, o, none⟩ = false := fun o => (hb3.frozen (p := ⟨w.heap.size + 1 + 1, o, none⟩) z2).trans (fr2 o); have x2 := Nat.lt_of_lt_of_le z2 hb3.size; have x3 := Nat.lt_of_lt_of_le z3 hb3.size; have HT3 := hide (lastsT _ _ (unhide HTd) hb3); have HBk := hide hBk; have HB3 := hide ((unhide HB2d).trans (hb3.mono (unhide HB2d).size)); clear hb3 hBk)
    | (go_simp; go_at_call 67; refine (bfind_any Tabs lastsT bk R0 R1 R2 E S d kv (hN kv) (unhide HHs) _ (unhide HT3) (unhide HBk) (unhide HS) (unhide HSd).d3 (unhide HSd).d4).mono ?_; rintro e w4 ⟨rfl, hb4⟩; have s0 := (hb4.cell (p := ⟨w.heap.size + 1 + 1, 0, none⟩) x2).trans m0; have s1 := (hb4.cell (p := ⟨w.heap.size + 1 + 1, 1, none⟩) x2).trans m1; have s2 := (hb4.cell (p := ⟨w.heap.size + 1 + 1, 2, none⟩) x2).trans m2; have s3 := (hb4.cell (p := ⟨w.heap.size + 1 + 1, 3, none⟩) x2).trans m3; have s4 := (hb4.cell (p := ⟨w.heap.size + 1 + 1, 4, none⟩) x2).trans m4; have sf : ∀ o, w4.frozen? ⟨w.heap.size + 1 + 1, o, none⟩ = false := fun o => (hb4.frozen (p := ⟨w.heap.size + 1 + 1, o, none⟩) x2).trans (mf o); have x4 := Nat.lt_of_lt_of_le x2 hb4.size; have HBk4 := hide ((unhide HBk).below hb4); have HB4 := hide ((unhide HB3).trans (hb4.mono (unhide HB3).size)); clear hb4))
  all_goals
    clear HBk HB3 HT3 HAd HTd HB2d m0 m1 m2 m3 m4 n1 n2 n3 n4 n5 mf x2 x3
    obtain ⟨hp1, hp2⟩ := place_range (unhide HSd).d3 (unhide HSd).d4 kv (hN kv)
    generalize hpl : placeI d kv (hN kv) = pl at HR hp1 hp2 ⊢
    clear hpl
    have hn := (unhide HS).n
    by_cases hneg : pl < 0
    · have HR2 : Hid (getV d 0 kv = default) := hide ((unhide HR).trans (if_neg (by omega)))
      have hpp : placeP E pl = none := if_neg (by omega)
      rw [hpp]
      clear hpp
      go_wp2
      refine bodyPost_ret (v := .agg #[.int .i64 0, .int .i64 0, .float .f64 0, .string ⟨#[]⟩, .int .i64 0]) (by simp [results, Tryz.results20, go_sem, s0, s1, s2, s3, s4]) rfl ⟨by rw [unhide HR2]; rfl, ?_⟩
      iterate 5 (refine Below.setCell ?_ (by show w.heap.size ≤ w.heap.size + 1 + 1; omega) _)
      exact unhide HB4
    · obtain ⟨q, hq⟩ : ∃ q : Nat, pl = (q : Int) := ⟨pl.toNat, by omega⟩
      subst hq
      have hqn : q < d.n := by omega
      have HR2 : Hid (getV d 0 kv = (d.L q).val) := hide ((unhide HR).trans (by unfold atPlace; rw [if_pos (by omega)]; rfl))
      have hpp : placeP E (q : Int) = some ⟨E q, 0, none⟩ := by unfold placeP; rw [if_pos (by omega)]; rfl
      rw [hpp]
      have hE := (unhide HBk4).ent q hqn
      have e0 := hE.v0
      have e1 := hE.v1
      have e2 := hE.v2
      have e3 := hE.v3
      have e4 := hE.v4
      have el := hE.lt
      clear hpp hE hp1 hp2 hneg
      go_wp2
      refine bodyPost_ret (v := VV (d.L q).val) (by simp [results, Tryz.results20, go_sem, s0, s1, s2, s3, s4]) rfl ⟨by rw [unhide HR2], ?_⟩
      iterate 5 (refine Below.setCell ?_ (by show w.heap.size ≤ w.heap.size + 1 + 1; omega) _)
      exact unhide HB4
end Go.Proofs.YtglcaejddckleaaGreatDoor

namespace Go.Proofs.YtglcaejddckleaaGreatDoor
open Go.RowKit
set_option linter.unusedVariables false
attribute [local go_sem] run_store_float run_equalIn_float

theorem keep6 {w w' : World} {b : Nat} {v0 v1 v2 v3 v4 v5 : Value} (hb : Below w.heap.size w w') (hl : b < w.heap.size) (h : w.cell? ⟨b, 0, none⟩ = some v0 ∧ w.cell? ⟨b, 1, none⟩ = some v1 ∧ w.cell? ⟨b, 2, none⟩ = some v2 ∧ w.cell? ⟨b, 3, none⟩ = some v3 ∧ w.cell? ⟨b, 4, none⟩ = some v4 ∧ w.cell? ⟨b, 5, none⟩ = some v5) :
    w'.cell? ⟨b, 0, none⟩ = some v0 ∧ w'.cell? ⟨b, 1, none⟩ = some v1 ∧ w'.cell? ⟨b, 2, none⟩ = some v2 ∧ w'.cell? ⟨b, 3, none⟩ = some v3 ∧ w'.cell? ⟨b, 4, none⟩ = some v4 ∧ w'.cell? ⟨b, 5, none⟩ = some v5 :=
  ⟨(hb.cell (p := ⟨b, 0, none⟩) hl).trans h.1, (hb.cell (p := ⟨b, 1, none⟩) hl).trans h.2.1, (hb.cell (p := ⟨b, 2, none⟩) hl).trans h.2.2.1, (hb.cell (p := ⟨b, 3, none⟩) hl).trans h.2.2.2.1, (hb.cell (p := ⟨b, 4, none⟩) hl).trans h.2.2.2.2.1, (hb.cell (p := ⟨b, 5, none⟩) hl).trans h.2.2.2.2.2⟩
theorem keep5 {w w' : World} {b : Nat} {v0 v1 v2 v3 v4 : Value} (hb : Below w.heap.size w w') (hl : b < w.heap.size) (h : w.cell? ⟨b, 0, none⟩ = some v0 ∧ w.cell? ⟨b, 1, none⟩ = some v1 ∧ w.cell? ⟨b, 2, none⟩ = some v2 ∧ w.cell? ⟨b, 3, none⟩ = some v3 ∧ w.cell? ⟨b, 4, none⟩ = some v4) :
    w'.cell? ⟨b, 0, none⟩ = some v0 ∧ w'.cell? ⟨b, 1, none⟩ = some v1 ∧ w'.cell? ⟨b, 2, none⟩ = some v2 ∧ w'.cell? ⟨b, 3, none⟩ = some v3 ∧ w'.cell? ⟨b, 4, none⟩ = some v4 :=
  ⟨(hb.cell (p := ⟨b, 0, none⟩) hl).trans h.1, (hb.cell (p := ⟨b, 1, none⟩) hl).trans h.2.1, (hb.cell (p := ⟨b, 2, none⟩) hl).trans h.2.2.1, (hb.cell (p := ⟨b, 3, none⟩) hl).trans h.2.2.2.1, (hb.cell (p := ⟨b, 4, none⟩) hl).trans h.2.2.2.2⟩

theorem keepF {w w' : World} {b : Nat} (hb : Below w.heap.size w w') (hl : b < w.heap.size) (h : ∀ o, w.frozen? ⟨b, o, none⟩ = false) : ∀ o, w'.frozen? ⟨b, o, none⟩ = false := fun o => (hb.frozen (p := ⟨b, o, none⟩) hl).trans (h o)
theorem join6 {a b c d e f X : Prop} (h : a ∧ b ∧ c ∧ d ∧ e ∧ f) (x : X) : a ∧ b ∧ c ∧ d ∧ e ∧ f ∧ X := ⟨h.1, h.2.1, h.2.2.1, h.2.2.2.1, h.2.2.2.2.1, h.2.2.2.2.2, x⟩

/-- What stands behind the first answer: the two boxes, and the answer's. -/
structure R8 (w : World) (la : Option Addr) (lc : Nat) (ia : Option Addr) (ic : Nat) (xa : Option Addr) (xc : Nat) (d : Dc) (v oo : Vl) (bx : Nat) (w' : World) : Prop where
  p : w'.cell? ⟨w.heap.size, 0, none⟩ = some (.slice la d.n lc) ∧ w'.cell? ⟨w.heap.size, 1, none⟩ = some (.slice ia d.m ic) ∧ w'.cell? ⟨w.heap.size, 2, none⟩ = some (.slice xa d.x xc) ∧ w'.cell? ⟨w.heap.size, 3, none⟩ = some (.int .i64 d.used) ∧ w'.cell? ⟨w.heap.size, 4, none⟩ = some (.int .i64 d.live) ∧ w'.cell? ⟨w.heap.size, 5, none⟩ = some (.int .i64 d.turns)
  c : w'.cell? ⟨w.heap.size + 1, 0, none⟩ = some (.int .i64 v.kind) ∧ w'.cell? ⟨w.heap.size + 1, 1, none⟩ = some (.int .i64 v.num) ∧ w'.cell? ⟨w.heap.size + 1, 2, none⟩ = some (.float .f64 v.flt) ∧ w'.cell? ⟨w.heap.size + 1, 3, none⟩ = some (.string v.str) ∧ w'.cell? ⟨w.heap.size + 1, 4, none⟩ = some (.int .i64 v.ref)
  x : w'.cell? ⟨bx, 0, none⟩ = some (.int .i64 oo.kind) ∧ w'.cell? ⟨bx, 1, none⟩ = some (.int .i64 oo.num) ∧ w'.cell? ⟨bx, 2, none⟩ = some (.float .f64 oo.flt) ∧ w'.cell? ⟨bx, 3, none⟩ = some (.string oo.str) ∧ w'.cell? ⟨bx, 4, none⟩ = some (.int .i64 oo.ref)
  b : Below w.heap.size w w'
  l : w.heap.size + 1 < bx
  u : bx < w'.heap.size

theorem set5_other (w : World) (bx b o : Nat) (v0 v1 v2 v3 v4 : Value) (h : b ≠ bx) : (((((w.setCell ⟨bx, 0, none⟩ v0).setCell ⟨bx, 1, none⟩ v1).setCell ⟨bx, 2, none⟩ v2).setCell ⟨bx, 3, none⟩ v3).setCell ⟨bx, 4, none⟩ v4).cell? ⟨b, o, none⟩ = w.cell? ⟨b, o, none⟩ :=
  World.cell?_of_block (((((Deep.blk_setCell_other _ _ _ _ h).trans (Deep.blk_setCell_other _ _ _ _ h)).trans (Deep.blk_setCell_other _ _ _ _ h)).trans (Deep.blk_setCell_other _ _ _ _ h)).trans (Deep.blk_setCell_other _ _ _ _ h))

theorem R8.of_set {w : World} {la : Option Addr} {lc : Nat} {ia : Option Addr} {ic : Nat} {xa : Option Addr} {xc : Nat} {d : Dc} {v oo : Vl} {bx : Nat} {w5 : World} {z0 z1 z2 z3 z4 : Value}
    (p : w5.cell? ⟨w.heap.size, 0, none⟩ = some (.slice la d.n lc) ∧ w5.cell? ⟨w.heap.size, 1, none⟩ = some (.slice ia d.m ic) ∧ w5.cell? ⟨w.heap.size, 2, none⟩ = some (.slice xa d.x xc) ∧ w5.cell? ⟨w.heap.size, 3, none⟩ = some (.int .i64 d.used) ∧ w5.cell? ⟨w.heap.size, 4, none⟩ = some (.int .i64 d.live) ∧ w5.cell? ⟨w.heap.size, 5, none⟩ = some (.int .i64 d.turns))
    (c : w5.cell? ⟨w.heap.size + 1, 0, none⟩ = some (.int .i64 v.kind) ∧ w5.cell? ⟨w.heap.size + 1, 1, none⟩ = some (.int .i64 v.num) ∧ w5.cell? ⟨w.heap.size + 1, 2, none⟩ = some (.float .f64 v.flt) ∧ w5.cell? ⟨w.heap.size + 1, 3, none⟩ = some (.string v.str) ∧ w5.cell? ⟨w.heap.size + 1, 4, none⟩ = some (.int .i64 v.ref))
    (x0 : w5.cell? ⟨bx, 0, none⟩ = some z0) (x1 : w5.cell? ⟨bx, 1, none⟩ = some z1) (x2 : w5.cell? ⟨bx, 2, none⟩ = some z2) (x3 : w5.cell? ⟨bx, 3, none⟩ = some z3) (x4 : w5.cell? ⟨bx, 4, none⟩ = some z4)
    (b : Below w.heap.size w w5) (l : w.heap.size + 1 < bx) (u : bx < w5.heap.size) :
    R8 w la lc ia ic xa xc d v oo bx (((((w5.setCell ⟨bx, 0, none⟩ (.int .i64 oo.kind)).setCell ⟨bx, 1, none⟩ (.int .i64 oo.num)).setCell ⟨bx, 2, none⟩ (.float .f64 oo.flt)).setCell ⟨bx, 3, none⟩ (.string oo.str)).setCell ⟨bx, 4, none⟩ (.int .i64 oo.ref)) := by
  have n0 : w.heap.size ≠ bx := by omega
  have n1 : w.heap.size + 1 ≠ bx := by omega
  refine ⟨?_, ?_, ?_, ?_, l, by simpa using u⟩
  · simp only [set5_other _ _ _ _ _ _ _ _ _ n0]; exact p
  · simp only [set5_other _ _ _ _ _ _ _ _ _ n1]; exact c
  · refine ⟨?_, ?_, ?_, ?_, ?_⟩ <;> simp [go_sem, x0, x1, x2, x3, x4]
  · exact ((((b.setCell (by show _ ≤ bx; omega) _).setCell (by show _ ≤ bx; omega) _).setCell (by show _ ≤ bx; omega) _).setCell (by show _ ≤ bx; omega) _).setCell (by show _ ≤ bx; omega) _

theorem R8.of_alloc {w : World} {la : Option Addr} {lc : Nat} {ia : Option Addr} {ic : Nat} {xa : Option Addr} {xc : Nat} {d : Dc} {v oo : Vl} {w5 : World} {t : TypeId}
    (p : w5.cell? ⟨w.heap.size, 0, none⟩ = some (.slice la d.n lc) ∧ w5.cell? ⟨w.heap.size, 1, none⟩ = some (.slice ia d.m ic) ∧ w5.cell? ⟨w.heap.size, 2, none⟩ = some (.slice xa d.x xc) ∧ w5.cell? ⟨w.heap.size, 3, none⟩ = some (.int .i64 d.used) ∧ w5.cell? ⟨w.heap.size, 4, none⟩ = some (.int .i64 d.live) ∧ w5.cell? ⟨w.heap.size, 5, none⟩ = some (.int .i64 d.turns))
    (c : w5.cell? ⟨w.heap.size + 1, 0, none⟩ = some (.int .i64 v.kind) ∧ w5.cell? ⟨w.heap.size + 1, 1, none⟩ = some (.int .i64 v.num) ∧ w5.cell? ⟨w.heap.size + 1, 2, none⟩ = some (.float .f64 v.flt) ∧ w5.cell? ⟨w.heap.size + 1, 3, none⟩ = some (.string v.str) ∧ w5.cell? ⟨w.heap.size + 1, 4, none⟩ = some (.int .i64 v.ref))
    (b : Below w.heap.size w w5) (l : w.heap.size + 1 < w5.heap.size) :
    R8 w la lc ia ic xa xc d v oo w5.heap.size (w5.alloc (.cells #[.int .i64 oo.kind, .int .i64 oo.num, .float .f64 oo.flt, .string oo.str, .int .i64 oo.ref] t)) :=
  ⟨keep6 ((Below.refl _ _).alloc (Nat.le_refl _) _) (by omega) p, keep5 ((Below.refl _ _).alloc (Nat.le_refl _) _) l c, by refine ⟨?_, ?_, ?_, ?_, ?_⟩ <;> simp [go_sem], b.alloc (by omega) _, l, by simp⟩

/-- What stands behind the second answer. -/
structure R10 (w6 : World) (t0 t1 t2 : Nat) (d : Dc) (oo : Vl) (bx : Nat) (w' : World) : Prop where
  q : w'.cell? ⟨w6.heap.size, 0, none⟩ = some (.slice (some ⟨t0, 0, none⟩) d.n d.n) ∧ w'.cell? ⟨w6.heap.size, 1, none⟩ = some (.slice (some ⟨t1, 0, none⟩) d.m d.m) ∧ w'.cell? ⟨w6.heap.size, 2, none⟩ = some (.slice (some ⟨t2, 0, none⟩) d.x d.x) ∧ w'.cell? ⟨w6.heap.size, 3, none⟩ = some (.int .i64 d.used) ∧ w'.cell? ⟨w6.heap.size, 4, none⟩ = some (.int .i64 d.live) ∧ w'.cell? ⟨w6.heap.size, 5, none⟩ = some (.int .i64 d.turns)
  x : w'.cell? ⟨bx, 0, none⟩ = some (.int .i64 oo.kind) ∧ w'.cell? ⟨bx, 1, none⟩ = some (.int .i64 oo.num) ∧ w'.cell? ⟨bx, 2, none⟩ = some (.float .f64 oo.flt) ∧ w'.cell? ⟨bx, 3, none⟩ = some (.string oo.str) ∧ w'.cell? ⟨bx, 4, none⟩ = some (.int .i64 oo.ref)
  b : Below w6.heap.size w6 w'
  l : w6.heap.size < bx
  u : bx < w'.heap.size

theorem R10.of_set {w6 : World} {t0 t1 t2 : Nat} {d : Dc} {oo : Vl} {bx : Nat} {w5 : World} {z0 z1 z2 z3 z4 : Value}
    (q : w5.cell? ⟨w6.heap.size, 0, none⟩ = some (.slice (some ⟨t0, 0, none⟩) d.n d.n) ∧ w5.cell? ⟨w6.heap.size, 1, none⟩ = some (.slice (some ⟨t1, 0, none⟩) d.m d.m) ∧ w5.cell? ⟨w6.heap.size, 2, none⟩ = some (.slice (some ⟨t2, 0, none⟩) d.x d.x) ∧ w5.cell? ⟨w6.heap.size, 3, none⟩ = some (.int .i64 d.used) ∧ w5.cell? ⟨w6.heap.size, 4, none⟩ = some (.int .i64 d.live) ∧ w5.cell? ⟨w6.heap.size, 5, none⟩ = some (.int .i64 d.turns))
    (x0 : w5.cell? ⟨bx, 0, none⟩ = some z0) (x1 : w5.cell? ⟨bx, 1, none⟩ = some z1) (x2 : w5.cell? ⟨bx, 2, none⟩ = some z2) (x3 : w5.cell? ⟨bx, 3, none⟩ = some z3) (x4 : w5.cell? ⟨bx, 4, none⟩ = some z4)
    (b : Below w6.heap.size w6 w5) (l : w6.heap.size < bx) (u : bx < w5.heap.size) :
    R10 w6 t0 t1 t2 d oo bx (((((w5.setCell ⟨bx, 0, none⟩ (.int .i64 oo.kind)).setCell ⟨bx, 1, none⟩ (.int .i64 oo.num)).setCell ⟨bx, 2, none⟩ (.float .f64 oo.flt)).setCell ⟨bx, 3, none⟩ (.string oo.str)).setCell ⟨bx, 4, none⟩ (.int .i64 oo.ref)) := by
  have n0 : w6.heap.size ≠ bx := by omega
  refine ⟨?_, ?_, ?_, l, by simpa using u⟩
  · simp only [set5_other _ _ _ _ _ _ _ _ _ n0]; exact q
  · refine ⟨?_, ?_, ?_, ?_, ?_⟩ <;> simp [go_sem, x0, x1, x2, x3, x4]
  · exact ((((b.setCell (by show _ ≤ bx; omega) _).setCell (by show _ ≤ bx; omega) _).setCell (by show _ ≤ bx; omega) _).setCell (by show _ ≤ bx; omega) _).setCell (by show _ ≤ bx; omega) _

theorem R10.of_alloc {w6 : World} {t0 t1 t2 : Nat} {d : Dc} {oo : Vl} {w5 : World} {t : TypeId}
    (q : w5.cell? ⟨w6.heap.size, 0, none⟩ = some (.slice (some ⟨t0, 0, none⟩) d.n d.n) ∧ w5.cell? ⟨w6.heap.size, 1, none⟩ = some (.slice (some ⟨t1, 0, none⟩) d.m d.m) ∧ w5.cell? ⟨w6.heap.size, 2, none⟩ = some (.slice (some ⟨t2, 0, none⟩) d.x d.x) ∧ w5.cell? ⟨w6.heap.size, 3, none⟩ = some (.int .i64 d.used) ∧ w5.cell? ⟨w6.heap.size, 4, none⟩ = some (.int .i64 d.live) ∧ w5.cell? ⟨w6.heap.size, 5, none⟩ = some (.int .i64 d.turns))
    (b : Below w6.heap.size w6 w5) (l : w6.heap.size < w5.heap.size) :
    R10 w6 t0 t1 t2 d oo w5.heap.size (w5.alloc (.cells #[.int .i64 oo.kind, .int .i64 oo.num, .float .f64 oo.flt, .string oo.str, .int .i64 oo.ref] t)) :=
  ⟨keep6 ((Below.refl _ _).alloc (Nat.le_refl _) _) l q, by refine ⟨?_, ?_, ?_, ?_, ?_⟩ <;> simp [go_sem], b.alloc (by omega) _, l, by simp⟩

set_option maxRecDepth 100000 in
set_option maxHeartbeats 40000000 in
theorem law_dictGet (la : Option Addr) (lc : Nat) (ia : Option Addr) (ic : Nat) (xa : Option Addr) (xc : Nat) (d : Dc) (v : Vl) (hv : Wf v) (hs : v.str.size ≤ maxLen) (w : World) (hA : DAt w la ia xa d) (hL : Lens d) (hW : WfD d) (hT : Tabs w) :
    Calls Tryz.prog 6 #[Dv la lc ia ic xa xc d, VV v] w fun e w' => e = .returned (.bool true) ∧ Below w.heap.size w w' := by
  obtain ⟨c, kv, hk, hh⟩ := keyed v hv
  obtain ⟨oo, hoo⟩ : ∃ oo, oo = getV d c kv := ⟨_, rfl⟩
  have HOO := hide hoo
  have HK := hide hk
  have HH := hide hh
  have HA := hide hA
  have HL := hide hL
  have HW := hide hW
  have HT := hide hT
  have HSP : Hid (∀ (W : World) (s0 s1 s2 : Nat), DAt W (some ⟨s0, 0, none⟩) (some ⟨s1, 0, none⟩) (some ⟨s2, 0, none⟩) d → Small d → Calls Tryz.prog 33 #[Dv (some ⟨s0, 0, none⟩) d.n (some ⟨s1, 0, none⟩) d.m (some ⟨s2, 0, none⟩) d.x d, VV v] W fun e w' => e = .returned (VV oo) ∧ Below W.heap.size W w') := hide (fun W s0 s1 s2 hD hSm => by rw [hoo]; exact specGet (some ⟨s0, 0, none⟩) d.n (some ⟨s1, 0, none⟩) d.m (some ⟨s2, 0, none⟩) d.x d v c kv W hD hSm hW hk (fun hc => (hh hc).1))
  have HIP : Hid (∀ (W : World) (s0 s1 s2 : Nat), Tabs W → DAt W (some ⟨s0, 0, none⟩) (some ⟨s1, 0, none⟩) (some ⟨s2, 0, none⟩) d → Small d → Calls Tryz.prog 20 #[Dv (some ⟨s0, 0, none⟩) d.n (some ⟨s1, 0, none⟩) d.m (some ⟨s2, 0, none⟩) d.x d, VV v] W fun e w' => e = .returned (VV oo) ∧ Below W.heap.size W w') := hide (fun W s0 s1 s2 hTT hD hSm => by rw [hoo]; exact implGet (some ⟨s0, 0, none⟩) d.n (some ⟨s1, 0, none⟩) d.m (some ⟨s2, 0, none⟩) d.x d v c kv W hD hSm hW hk (fun hc => (hh hc).2) hTT)
  clear hA hL hW hT hoo hk hh
  have hb0 : Below w.heap.size w ((w.alloc (.cells #[.slice la d.n lc, .slice ia d.m ic, .slice xa d.x xc, .int .i64 d.used, .int .i64 d.live, .int .i64 d.turns] 53)).alloc (.cells #[.int .i64 v.kind, .int .i64 v.num, .float .f64 v.flt, .string v.str, .int .i64 v.ref] 57)) := ((Below.refl _ _).alloc (Nat.le_refl _) _).alloc (by simp) _
  have HB0 := hide hb0
  clear hb0
  go_enter Tryz.func6, Tryz.ntmps6
  go_wp2_with fail
  refine (szDict_any la lc ia ic xa xc d 1048576 _ ((unhide HA).below (unhide HB0)) (unhide HL) (by omega) (by omega)).mono ?_
  rintro e w1 ⟨⟨r, rfl, hr⟩, hb1⟩
  obtain ⟨hc1, hf1⟩ := bcell hb1
  have hz1 := hb1.size
  simp at hz1
  have y1 : w.heap.size < w1.heap.size := by omega
  have u1 : w.heap.size + 1 < w1.heap.size := by omega
  have a1 : w1.cell? ⟨w.heap.size, 0, none⟩ = some (.slice la d.n lc) ∧ w1.cell? ⟨w.heap.size, 1, none⟩ = some (.slice ia d.m ic) ∧ w1.cell? ⟨w.heap.size, 2, none⟩ = some (.slice xa d.x xc) ∧ w1.cell? ⟨w.heap.size, 3, none⟩ = some (.int .i64 d.used) ∧ w1.cell? ⟨w.heap.size, 4, none⟩ = some (.int .i64 d.live) ∧ w1.cell? ⟨w.heap.size, 5, none⟩ = some (.int .i64 d.turns) := by
    refine ⟨?_, ?_, ?_, ?_, ?_, ?_⟩ <;> (rw [hc1 _ _ (by simp; omega)]; simp [go_sem])
  have b1 : w1.cell? ⟨w.heap.size + 1, 0, none⟩ = some (.int .i64 v.kind) ∧ w1.cell? ⟨w.heap.size + 1, 1, none⟩ = some (.int .i64 v.num) ∧ w1.cell? ⟨w.heap.size + 1, 2, none⟩ = some (.float .f64 v.flt) ∧ w1.cell? ⟨w.heap.size + 1, 3, none⟩ = some (.string v.str) ∧ w1.cell? ⟨w.heap.size + 1, 4, none⟩ = some (.int .i64 v.ref) := by
    refine ⟨?_, ?_, ?_, ?_, ?_⟩ <;> (rw [hc1 _ _ (by simp)]; simp [go_sem])
  have HB1 := hide ((unhide HB0).trans (hb1.mono (unhide HB0).size))
  clear hb1 hc1 hf1 hz1
  rcases hr with rfl | ⟨hr0, hr1, hS⟩
  · clear a1 b1
    go_wp2_with fail
    go_ret
    exact ⟨rfl, unhide HB1⟩
  have HS := hide hS
  clear hS
  obtain ⟨c0, c1, c2, c3, c4⟩ := b1
  go_wp2_with fail
  refine (sz_any v.kind v.num v.flt v.str v.ref r _ hs (by omega) (by omega)).mono ?_
  rintro e w2 ⟨rfl, hb2⟩
  have y2 := Nat.lt_of_lt_of_le y1 hb2.size
  have u2 := Nat.lt_of_lt_of_le u1 hb2.size
  have a2 := keep6 hb2 y1 a1
  have b2 := keep5 hb2 u1 ⟨c0, c1, c2, c3, c4⟩
  have HB2 := hide ((unhide HB1).trans (hb2.mono (unhide HB1).size))
  clear hb2 a1 c0 c1 c2 c3 c4
  by_cases hneg : r < v.str.size
  · rw [if_pos hneg]
    clear a2 b2
    go_wp2_with fail
    go_ret
    exact ⟨rfl, unhide HB2⟩
  rw [if_neg hneg]
  have hge : ¬ (r - v.str.size < 0) := by omega
  go_wp2_with fail
  refine Code.wp_mono (Q := fun e a' w' => e = .normal ∧ ∃ bx s0 s1 s2 : Nat, a' = { tmps := #[Dv la lc ia ic xa xc d, VV v, .pointer (some ⟨w.heap.size, 0, none⟩), .pointer (some ⟨w.heap.size + 1, 0, none⟩), .bool false, .int .i64 (r - (v.str.size : Int)), .pointer (some ⟨bx, 0, none⟩), undef, undef, Dv la lc ia ic xa xc d, .int .i64 1048576, .int .i64 r, .int .i64 r, .bool (decide (r < 0)), VV v, .int .i64 r, .int .i64 (r - (v.str.size : Int)), .int .i64 (r - (v.str.size : Int)), .bool (decide (r - (v.str.size : Int) < 0)), Dv la lc ia ic xa xc d, Dv (some ⟨s0, 0, none⟩) d.n (some ⟨s1, 0, none⟩) d.m (some ⟨s2, 0, none⟩) d.x d, VV v, VV v, VV oo, undef, undef, undef, undef, undef, undef, undef, undef, undef, undef, undef, undef, undef, undef, undef], defers := [] } ∧ R8 w la lc ia ic xa xc d v oo bx w') ?cont ?reg
  case reg =>
    have HBd : Hid (Below w.heap.size w w2.drew) := hide (unhide HB2).drew
    have pd : w2.drew.cell? ⟨w.heap.size, 0, none⟩ = some (.slice la d.n lc) ∧ w2.drew.cell? ⟨w.heap.size, 1, none⟩ = some (.slice ia d.m ic) ∧ w2.drew.cell? ⟨w.heap.size, 2, none⟩ = some (.slice xa d.x xc) ∧ w2.drew.cell? ⟨w.heap.size, 3, none⟩ = some (.int .i64 d.used) ∧ w2.drew.cell? ⟨w.heap.size, 4, none⟩ = some (.int .i64 d.live) ∧ w2.drew.cell? ⟨w.heap.size, 5, none⟩ = some (.int .i64 d.turns) := a2
    have vd : w2.drew.cell? ⟨w.heap.size + 1, 0, none⟩ = some (.int .i64 v.kind) ∧ w2.drew.cell? ⟨w.heap.size + 1, 1, none⟩ = some (.int .i64 v.num) ∧ w2.drew.cell? ⟨w.heap.size + 1, 2, none⟩ = some (.float .f64 v.flt) ∧ w2.drew.cell? ⟨w.heap.size + 1, 3, none⟩ = some (.string v.str) ∧ w2.drew.cell? ⟨w.heap.size + 1, 4, none⟩ = some (.int .i64 v.ref) := b2
    have yy : w.heap.size < w2.drew.heap.size := y2
    have uu : w.heap.size + 1 < w2.drew.heap.size := u2
    clear a2 b2
    obtain ⟨p0, p1, p2, p3, p4, p5⟩ := pd
    obtain ⟨c0, c1, c2, c3, c4⟩ := vd
    have na2 : w.heap.size ≠ w2.heap.size := (by omega); have nb2 : w.heap.size + 1 ≠ w2.heap.size := (by omega); have nc2 : w2.heap.size ≠ w.heap.size := (by omega); have nd2 : w2.heap.size ≠ w.heap.size + 1 := (by omega)
    go_region_held3 (fun w' => w'.cell? ⟨w.heap.size, 0, none⟩ = some (.slice la d.n lc) ∧ w'.cell? ⟨w.heap.size, 1, none⟩ = some (.slice ia d.m ic) ∧ w'.cell? ⟨w.heap.size, 2, none⟩ = some (.slice xa d.x xc) ∧ w'.cell? ⟨w.heap.size, 3, none⟩ = some (.int .i64 d.used) ∧ w'.cell? ⟨w.heap.size, 4, none⟩ = some (.int .i64 d.live) ∧ w'.cell? ⟨w.heap.size, 5, none⟩ = some (.int .i64 d.turns) ∧ w'.cell? ⟨w.heap.size + 1, 0, none⟩ = some (.int .i64 v.kind) ∧ w'.cell? ⟨w.heap.size + 1, 1, none⟩ = some (.int .i64 v.num) ∧ w'.cell? ⟨w.heap.size + 1, 2, none⟩ = some (.float .f64 v.flt) ∧ w'.cell? ⟨w.heap.size + 1, 3, none⟩ = some (.string v.str) ∧ w'.cell? ⟨w.heap.size + 1, 4, none⟩ = some (.int .i64 v.ref)) (first | (with_reducible exact ⟨by assumption, by assumption, by assumption, by assumption, by assumption, by assumption, by assumption, by assumption, by assumption, by assumption, by assumption⟩) | (with_reducible exact join6 (keep6 ((Below.refl _ _).alloc (Nat.le_refl _) _) yy ⟨p0, p1, p2, p3, p4, p5⟩) (keep5 ((Below.refl _ _).alloc (Nat.le_refl _) _) uu ⟨c0, c1, c2, c3, c4⟩)) | go_keep)
      (first
        | (go_at_call 30; refine (toDict_any la lc ia ic xa xc d _ ((unhide HA).below (by first | (with_reducible exact unhide HBd) | exact (unhide HBd).alloc (by simp; omega) _)) (unhide HS)).mono ?_; rintro e w3 ⟨⟨s0, s1, s2, rfl, hrow⟩, hb⟩; (first
            | (have hB : Below w2.drew.heap.size w2.drew w3 := (by with_reducible exact hb); (first | (have _hx := bl; obtain ⟨x0, x1, x2, x3, x4⟩ := keep5 hb bl ⟨x0, x1, x2, x3, x4⟩; have bf := keepF hb bl bf; have bl := Nat.lt_of_lt_of_le bl hb.size) | (fail_if_success have _hx := bl)))
            | (have hB : Below w2.drew.heap.size w2.drew w3 := ((Below.refl _ _).alloc (Nat.le_refl _) _).trans (hb.mono (by simp)); obtain ⟨hcx, hfx⟩ := bcell hb; have hzx := hb.size; simp at hzx; have bu : w.heap.size + 1 < w2.heap.size := (by first | exact uu | simpa using uu); have bl : w2.heap.size < w3.heap.size := (by omega); have bx : w3.cell? ⟨w2.heap.size, 0, none⟩ = some (.int .i64 0) ∧ w3.cell? ⟨w2.heap.size, 1, none⟩ = some (.int .i64 0) ∧ w3.cell? ⟨w2.heap.size, 2, none⟩ = some (.float .f64 0) ∧ w3.cell? ⟨w2.heap.size, 3, none⟩ = some (.string ⟨#[]⟩) ∧ w3.cell? ⟨w2.heap.size, 4, none⟩ = some (.int .i64 0) := (by refine ⟨?_, ?_, ?_, ?_, ?_⟩ <;> (rw [hcx _ _ (by simp)]; simp [go_sem])); have bf : ∀ o, w3.frozen? ⟨w2.heap.size, o, none⟩ = false := (fun o => by rw [hfx _ _ (by simp)]; simp [go_sem]); obtain ⟨x0, x1, x2, x3, x4⟩ := bx; clear hcx hfx hzx)); obtain ⟨p0, p1, p2, p3, p4, p5⟩ := keep6 hB yy ⟨p0, p1, p2, p3, p4, p5⟩; obtain ⟨c0, c1, c2, c3, c4⟩ := keep5 hB uu ⟨c0, c1, c2, c3, c4⟩; have yy := Nat.lt_of_lt_of_le yy hB.size; have uu := Nat.lt_of_lt_of_le uu hB.size; have HR3 := hide hrow; have HB3 := hide ((unhide HBd).trans (hB.mono (unhide HBd).size)); clear hrow; have na3 : w.heap.size ≠ w3.heap.size := (by omega); have nb3 : w.heap.size + 1 ≠ w3.heap.size := (by omega); have nc3 : w3.heap.size ≠ w.heap.size := (by omega); have nd3 : w3.heap.size ≠ w.heap.size + 1 := (by omega); clear hb hB)
        | (go_at_call 34; refine (toValue_any v.kind v.num v.flt v.str v.ref _).mono ?_; rintro e w4 ⟨rfl, hb⟩; (first
            | (have hB : Below w3.heap.size w3 w4 := (by with_reducible exact hb); (first | (have _hx := bl; obtain ⟨x0, x1, x2, x3, x4⟩ := keep5 hb bl ⟨x0, x1, x2, x3, x4⟩; have bf := keepF hb bl bf; have bl := Nat.lt_of_lt_of_le bl hb.size) | (fail_if_success have _hx := bl)))
            | (have hB : Below w3.heap.size w3 w4 := ((Below.refl _ _).alloc (Nat.le_refl _) _).trans (hb.mono (by simp)); obtain ⟨hcx, hfx⟩ := bcell hb; have hzx := hb.size; simp at hzx; have bu : w.heap.size + 1 < w3.heap.size := (by first | exact uu | simpa using uu); have bl : w3.heap.size < w4.heap.size := (by omega); have bx : w4.cell? ⟨w3.heap.size, 0, none⟩ = some (.int .i64 0) ∧ w4.cell? ⟨w3.heap.size, 1, none⟩ = some (.int .i64 0) ∧ w4.cell? ⟨w3.heap.size, 2, none⟩ = some (.float .f64 0) ∧ w4.cell? ⟨w3.heap.size, 3, none⟩ = some (.string ⟨#[]⟩) ∧ w4.cell? ⟨w3.heap.size, 4, none⟩ = some (.int .i64 0) := (by refine ⟨?_, ?_, ?_, ?_, ?_⟩ <;> (rw [hcx _ _ (by simp)]; simp [go_sem])); have bf : ∀ o, w4.frozen? ⟨w3.heap.size, o, none⟩ = false := (fun o => by rw [hfx _ _ (by simp)]; simp [go_sem]); obtain ⟨x0, x1, x2, x3, x4⟩ := bx; clear hcx hfx hzx)); obtain ⟨p0, p1, p2, p3, p4, p5⟩ := keep6 hB yy ⟨p0, p1, p2, p3, p4, p5⟩; obtain ⟨c0, c1, c2, c3, c4⟩ := keep5 hB uu ⟨c0, c1, c2, c3, c4⟩; have yy := Nat.lt_of_lt_of_le yy hB.size; have uu := Nat.lt_of_lt_of_le uu hB.size; have HR4 := hide ((unhide HR3).below hB); have HB4 := hide ((unhide HB3).trans (hB.mono (unhide HB3).size)); have na4 : w.heap.size ≠ w4.heap.size := (by omega); have nb4 : w.heap.size + 1 ≠ w4.heap.size := (by omega); have nc4 : w4.heap.size ≠ w.heap.size := (by omega); have nd4 : w4.heap.size ≠ w.heap.size + 1 := (by omega); clear hb hB)
        | (go_at_call 33; refine (unhide HSP _ s0 s1 s2 (by first | (with_reducible exact unhide HR4) | exact (unhide HR4).below ((Below.refl _ _).alloc (Nat.le_refl _) _)) (unhide HS)).mono ?_; rintro e w5 ⟨rfl, hb⟩; (first
            | (have hB : Below w4.heap.size w4 w5 := (by with_reducible exact hb); (first | (have _hx := bl; obtain ⟨x0, x1, x2, x3, x4⟩ := keep5 hb bl ⟨x0, x1, x2, x3, x4⟩; have bf := keepF hb bl bf; have bl := Nat.lt_of_lt_of_le bl hb.size) | (fail_if_success have _hx := bl)))
            | (have hB : Below w4.heap.size w4 w5 := ((Below.refl _ _).alloc (Nat.le_refl _) _).trans (hb.mono (by simp)); obtain ⟨hcx, hfx⟩ := bcell hb; have hzx := hb.size; simp at hzx; have bu : w.heap.size + 1 < w4.heap.size := (by first | exact uu | simpa using uu); have bl : w4.heap.size < w5.heap.size := (by omega); have bx : w5.cell? ⟨w4.heap.size, 0, none⟩ = some (.int .i64 0) ∧ w5.cell? ⟨w4.heap.size, 1, none⟩ = some (.int .i64 0) ∧ w5.cell? ⟨w4.heap.size, 2, none⟩ = some (.float .f64 0) ∧ w5.cell? ⟨w4.heap.size, 3, none⟩ = some (.string ⟨#[]⟩) ∧ w5.cell? ⟨w4.heap.size, 4, none⟩ = some (.int .i64 0) := (by refine ⟨?_, ?_, ?_, ?_, ?_⟩ <;> (rw [hcx _ _ (by simp)]; simp [go_sem])); have bf : ∀ o, w5.frozen? ⟨w4.heap.size, o, none⟩ = false := (fun o => by rw [hfx _ _ (by simp)]; simp [go_sem]); obtain ⟨x0, x1, x2, x3, x4⟩ := bx; clear hcx hfx hzx)); obtain ⟨p0, p1, p2, p3, p4, p5⟩ := keep6 hB yy ⟨p0, p1, p2, p3, p4, p5⟩; obtain ⟨c0, c1, c2, c3, c4⟩ := keep5 hB uu ⟨c0, c1, c2, c3, c4⟩; have yy := Nat.lt_of_lt_of_le yy hB.size; have uu := Nat.lt_of_lt_of_le uu hB.size; have HB5 := hide ((unhide HB4).trans (hB.mono (unhide HB4).size)); have na5 : w.heap.size ≠ w5.heap.size := (by omega); have nb5 : w.heap.size + 1 ≠ w5.heap.size := (by omega); have nc5 : w5.heap.size ≠ w.heap.size := (by omega); have nd5 : w5.heap.size ≠ w.heap.size + 1 := (by omega); clear hb hB))
    all_goals
      refine ⟨rfl, _, s0, s1, s2, rfl, ?_⟩
      first
      | exact R8.of_set ⟨p0, p1, p2, p3, p4, p5⟩ ⟨c0, c1, c2, c3, c4⟩ x0 x1 x2 x3 x4 (unhide HB5) bu bl
      | exact R8.of_alloc ⟨p0, p1, p2, p3, p4, p5⟩ ⟨c0, c1, c2, c3, c4⟩ (unhide HB5) uu
  case cont =>
    rintro e a' W ⟨rfl, bx, s0, s1, s2, rfl, hR⟩
    have y := hR.u
    have l := hR.l
    have yW : w.heap.size < W.heap.size := by omega
    have uW : w.heap.size + 1 < W.heap.size := by omega
    obtain ⟨p0, p1, p2, p3, p4, p5⟩ := hR.p
    obtain ⟨c0, c1, c2, c3, c4⟩ := hR.c
    obtain ⟨x0, x1, x2, x3, x4⟩ := hR.x
    have HBW := hide hR.b
    clear hR
    go_wp2_with fail
    refine (toDict_any la lc ia ic xa xc d _ ((unhide HA).below (unhide HBW)) (unhide HS)).mono ?_
    rintro e w6 ⟨⟨t0, t1, t2, rfl, hrow⟩, hb⟩
    obtain ⟨p0, p1, p2, p3, p4, p5⟩ := keep6 hb yW ⟨p0, p1, p2, p3, p4, p5⟩
    obtain ⟨c0, c1, c2, c3, c4⟩ := keep5 hb uW ⟨c0, c1, c2, c3, c4⟩
    obtain ⟨x0, x1, x2, x3, x4⟩ := keep5 hb y ⟨x0, x1, x2, x3, x4⟩
    have y6 := Nat.lt_of_lt_of_le yW hb.size
    have u6 := Nat.lt_of_lt_of_le uW hb.size
    have b6 := Nat.lt_of_lt_of_le y hb.size
    have HB6 := hide ((unhide HBW).trans (hb.mono (unhide HBW).size))
    have HR6 := hide hrow
    have HP6 := hide (And.intro (And.intro p0 (And.intro p1 (And.intro p2 (And.intro p3 (And.intro p4 p5))))) (And.intro x0 (And.intro x1 (And.intro x2 (And.intro x3 x4)))))
    clear hb hrow p0 p1 p2 p3 p4 p5 x0 x1 x2 x3 x4
    go_wp2_with fail
    obtain ⟨W7, hW7⟩ : ∃ W7, W7 = w6.alloc (.cells #[.slice (some ⟨t0, 0, none⟩) d.n d.n, .slice (some ⟨t1, 0, none⟩) d.m d.m, .slice (some ⟨t2, 0, none⟩) d.x d.x, .int .i64 d.used, .int .i64 d.live, .int .i64 d.turns] 26) := ⟨_, rfl⟩
    rw [← hW7]
    have hb7 : Below w6.heap.size w6 W7 := by rw [hW7]; exact (Below.refl _ _).alloc (Nat.le_refl _) _
    have hz7 : W7.heap.size = w6.heap.size + 1 := by rw [hW7]; simp
    have qd : W7.drew.cell? ⟨w6.heap.size, 0, none⟩ = some (.slice (some ⟨t0, 0, none⟩) d.n d.n) ∧ W7.drew.cell? ⟨w6.heap.size, 1, none⟩ = some (.slice (some ⟨t1, 0, none⟩) d.m d.m) ∧ W7.drew.cell? ⟨w6.heap.size, 2, none⟩ = some (.slice (some ⟨t2, 0, none⟩) d.x d.x) ∧ W7.drew.cell? ⟨w6.heap.size, 3, none⟩ = some (.int .i64 d.used) ∧ W7.drew.cell? ⟨w6.heap.size, 4, none⟩ = some (.int .i64 d.live) ∧ W7.drew.cell? ⟨w6.heap.size, 5, none⟩ = some (.int .i64 d.turns) := by
      rw [hW7]; refine ⟨?_, ?_, ?_, ?_, ?_, ?_⟩ <;> simp [go_sem]
    have cd : W7.drew.cell? ⟨w.heap.size + 1, 0, none⟩ = some (.int .i64 v.kind) ∧ W7.drew.cell? ⟨w.heap.size + 1, 1, none⟩ = some (.int .i64 v.num) ∧ W7.drew.cell? ⟨w.heap.size + 1, 2, none⟩ = some (.float .f64 v.flt) ∧ W7.drew.cell? ⟨w.heap.size + 1, 3, none⟩ = some (.string v.str) ∧ W7.drew.cell? ⟨w.heap.size + 1, 4, none⟩ = some (.int .i64 v.ref) := keep5 hb7.drew u6 ⟨c0, c1, c2, c3, c4⟩
    have HBd : Hid (Below w6.heap.size w6 W7.drew) := hide hb7.drew
    have yy : w6.heap.size < W7.drew.heap.size := by show w6.heap.size < W7.heap.size; omega
    have uu : w.heap.size + 1 < W7.drew.heap.size := by show w.heap.size + 1 < W7.heap.size; omega
    have HT6 := hide (lastsT _ _ (unhide HT) (unhide HB6))
    have hz7' : w6.heap.size < W7.heap.size := by omega
    clear hW7 hb7 hz7 c0 c1 c2 c3 c4
    refine Code.wp_mono (Q := fun e a' w' => e = .normal ∧ ∃ by' : Nat, a' = { tmps := #[Dv la lc ia ic xa xc d, VV v, .pointer (some ⟨w.heap.size, 0, none⟩), .pointer (some ⟨w.heap.size + 1, 0, none⟩), .bool false, .int .i64 (r - (v.str.size : Int)), .pointer (some ⟨bx, 0, none⟩), .pointer (some ⟨w6.heap.size, 0, none⟩), .pointer (some ⟨by', 0, none⟩), Dv la lc ia ic xa xc d, .int .i64 1048576, .int .i64 r, .int .i64 r, .bool (decide (r < 0)), VV v, .int .i64 r, .int .i64 (r - (v.str.size : Int)), .int .i64 (r - (v.str.size : Int)), .bool (decide (r - (v.str.size : Int) < 0)), Dv la lc ia ic xa xc d, Dv (some ⟨s0, 0, none⟩) d.n (some ⟨s1, 0, none⟩) d.m (some ⟨s2, 0, none⟩) d.x d, VV v, VV v, VV oo, Dv la lc ia ic xa xc d, Dv (some ⟨t0, 0, none⟩) d.n (some ⟨t1, 0, none⟩) d.m (some ⟨t2, 0, none⟩) d.x d, Dv (some ⟨t0, 0, none⟩) d.n (some ⟨t1, 0, none⟩) d.m (some ⟨t2, 0, none⟩) d.x d, VV v, VV v, VV oo, undef, undef, undef, undef, undef, undef, undef, undef, undef], defers := [] } ∧ R10 w6 t0 t1 t2 d oo by' w') ?cont10 ?reg10
    case reg10 =>
      obtain ⟨q0, q1, q2, q3, q4, q5⟩ := qd
      obtain ⟨c0, c1, c2, c3, c4⟩ := cd
      have na2 : w6.heap.size ≠ W7.heap.size := (by omega)
      have nb2 : w.heap.size + 1 ≠ W7.heap.size := (by omega)
      have nc2 : W7.heap.size ≠ w6.heap.size := (by omega)
      have nd2 : W7.heap.size ≠ w.heap.size + 1 := (by omega)
      go_region_held3 (fun w' => w'.cell? ⟨w6.heap.size, 0, none⟩ = some (.slice (some ⟨t0, 0, none⟩) d.n d.n) ∧ w'.cell? ⟨w6.heap.size, 1, none⟩ = some (.slice (some ⟨t1, 0, none⟩) d.m d.m) ∧ w'.cell? ⟨w6.heap.size, 2, none⟩ = some (.slice (some ⟨t2, 0, none⟩) d.x d.x) ∧ w'.cell? ⟨w6.heap.size, 3, none⟩ = some (.int .i64 d.used) ∧ w'.cell? ⟨w6.heap.size, 4, none⟩ = some (.int .i64 d.live) ∧ w'.cell? ⟨w6.heap.size, 5, none⟩ = some (.int .i64 d.turns) ∧ w'.cell? ⟨w.heap.size + 1, 0, none⟩ = some (.int .i64 v.kind) ∧ w'.cell? ⟨w.heap.size + 1, 1, none⟩ = some (.int .i64 v.num) ∧ w'.cell? ⟨w.heap.size + 1, 2, none⟩ = some (.float .f64 v.flt) ∧ w'.cell? ⟨w.heap.size + 1, 3, none⟩ = some (.string v.str) ∧ w'.cell? ⟨w.heap.size + 1, 4, none⟩ = some (.int .i64 v.ref)) (first | (with_reducible exact ⟨by assumption, by assumption, by assumption, by assumption, by assumption, by assumption, by assumption, by assumption, by assumption, by assumption, by assumption⟩) | (with_reducible exact join6 (keep6 ((Below.refl _ _).alloc (Nat.le_refl _) _) yy ⟨q0, q1, q2, q3, q4, q5⟩) (keep5 ((Below.refl _ _).alloc (Nat.le_refl _) _) uu ⟨c0, c1, c2, c3, c4⟩)) | go_keep)
        (first
          | (go_at_call 34; refine (toValue_any v.kind v.num v.flt v.str v.ref _).mono ?_; rintro e w8 ⟨rfl, hb⟩; (first | (have hB : Below W7.drew.heap.size W7.drew w8 := (by with_reducible exact hb); (first | (have _hx := bl; obtain ⟨z0, z1, z2, z3, z4⟩ := keep5 hb bl ⟨z0, z1, z2, z3, z4⟩; have bf := keepF hb bl bf; have bl := Nat.lt_of_lt_of_le bl hb.size) | (fail_if_success have _hx := bl))) | (have hB : Below W7.drew.heap.size W7.drew w8 := ((Below.refl _ _).alloc (Nat.le_refl _) _).trans (hb.mono (by simp)); obtain ⟨hcx, hfx⟩ := bcell hb; have hzx := hb.size; simp at hzx; have bu : w6.heap.size < W7.heap.size := (by first | exact yy | simpa using yy); have bl : W7.heap.size < w8.heap.size := (by omega); have bx' : w8.cell? ⟨W7.heap.size, 0, none⟩ = some (.int .i64 0) ∧ w8.cell? ⟨W7.heap.size, 1, none⟩ = some (.int .i64 0) ∧ w8.cell? ⟨W7.heap.size, 2, none⟩ = some (.float .f64 0) ∧ w8.cell? ⟨W7.heap.size, 3, none⟩ = some (.string ⟨#[]⟩) ∧ w8.cell? ⟨W7.heap.size, 4, none⟩ = some (.int .i64 0) := (by refine ⟨?_, ?_, ?_, ?_, ?_⟩ <;> (rw [hcx _ _ (by simp)]; simp [go_sem])); have bf : ∀ o, w8.frozen? ⟨W7.heap.size, o, none⟩ = false := (fun o => by rw [hfx _ _ (by simp)]; simp [go_sem]); obtain ⟨z0, z1, z2, z3, z4⟩ := bx'; clear hcx hfx hzx)); obtain ⟨q0, q1, q2, q3, q4, q5⟩ := keep6 hB yy ⟨q0, q1, q2, q3, q4, q5⟩; obtain ⟨c0, c1, c2, c3, c4⟩ := keep5 hB uu ⟨c0, c1, c2, c3, c4⟩; have yy := Nat.lt_of_lt_of_le yy hB.size; have uu := Nat.lt_of_lt_of_le uu hB.size; have HB8 := hide ((unhide HBd).trans (hB.mono (unhide HBd).size)); have na8 : w6.heap.size ≠ w8.heap.size := (by omega); have nb8 : w.heap.size + 1 ≠ w8.heap.size := (by omega); have nc8 : w8.heap.size ≠ w6.heap.size := (by omega); have nd8 : w8.heap.size ≠ w.heap.size + 1 := (by omega); have HT8 := hide (lastsT _ _ (unhide HT6) (unhide HB8)); have HR8 := hide ((unhide HR6).below (unhide HB8)); clear hb hB)
          | (go_at_call 20; refine (unhide HIP _ t0 t1 t2 (by first | (with_reducible exact unhide HT8) | exact lastsT _ _ (unhide HT8) ((Below.refl _ _).alloc (Nat.le_refl _) _)) (by first | (with_reducible exact unhide HR8) | exact (unhide HR8).below ((Below.refl _ _).alloc (Nat.le_refl _) _)) (unhide HS)).mono ?_; rintro e w9 ⟨rfl, hb⟩; (first | (have hB : Below w8.heap.size w8 w9 := (by with_reducible exact hb); (first | (have _hx := bl; obtain ⟨z0, z1, z2, z3, z4⟩ := keep5 hb bl ⟨z0, z1, z2, z3, z4⟩; have bf := keepF hb bl bf; have bl := Nat.lt_of_lt_of_le bl hb.size) | (fail_if_success have _hx := bl))) | (have hB : Below w8.heap.size w8 w9 := ((Below.refl _ _).alloc (Nat.le_refl _) _).trans (hb.mono (by simp)); obtain ⟨hcx, hfx⟩ := bcell hb; have hzx := hb.size; simp at hzx; have bu : w6.heap.size < w8.heap.size := (by first | exact yy | simpa using yy); have bl : w8.heap.size < w9.heap.size := (by omega); have bx' : w9.cell? ⟨w8.heap.size, 0, none⟩ = some (.int .i64 0) ∧ w9.cell? ⟨w8.heap.size, 1, none⟩ = some (.int .i64 0) ∧ w9.cell? ⟨w8.heap.size, 2, none⟩ = some (.float .f64 0) ∧ w9.cell? ⟨w8.heap.size, 3, none⟩ = some (.string ⟨#[]⟩) ∧ w9.cell? ⟨w8.heap.size, 4, none⟩ = some (.int .i64 0) := (by refine ⟨?_, ?_, ?_, ?_, ?_⟩ <;> (rw [hcx _ _ (by simp)]; simp [go_sem])); have bf : ∀ o, w9.frozen? ⟨w8.heap.size, o, none⟩ = false := (fun o => by rw [hfx _ _ (by simp)]; simp [go_sem]); obtain ⟨z0, z1, z2, z3, z4⟩ := bx'; clear hcx hfx hzx)); obtain ⟨q0, q1, q2, q3, q4, q5⟩ := keep6 hB yy ⟨q0, q1, q2, q3, q4, q5⟩; obtain ⟨c0, c1, c2, c3, c4⟩ := keep5 hB uu ⟨c0, c1, c2, c3, c4⟩; have yy := Nat.lt_of_lt_of_le yy hB.size; have uu := Nat.lt_of_lt_of_le uu hB.size; have HB9 := hide ((unhide HB8).trans (hB.mono (unhide HB8).size)); have na9 : w6.heap.size ≠ w9.heap.size := (by omega); have nb9 : w.heap.size + 1 ≠ w9.heap.size := (by omega); have nc9 : w9.heap.size ≠ w6.heap.size := (by omega); have nd9 : w9.heap.size ≠ w.heap.size + 1 := (by omega); clear hb hB))
      all_goals
        refine ⟨rfl, _, rfl, ?_⟩
        first
        | exact R10.of_set ⟨q0, q1, q2, q3, q4, q5⟩ z0 z1 z2 z3 z4 (unhide HB9) bu bl
        | exact R10.of_alloc ⟨q0, q1, q2, q3, q4, q5⟩ (unhide HB9) yy
    case cont10 =>
    rintro e a' wB ⟨rfl, by', rfl, hR⟩
    have hl := hR.l
    have hu := hR.u
    obtain ⟨q0, q1, q2, q3, q4, q5⟩ := hR.q
    obtain ⟨z0, z1, z2, z3, z4⟩ := hR.x
    have p := keep6 hR.b y6 (unhide HP6).1
    have x := keep5 hR.b b6 (unhide HP6).2
    obtain ⟨p0, p1, p2, p3, p4, p5⟩ := p
    obtain ⟨x0, x1, x2, x3, x4⟩ := x
    have HBB := hide ((unhide HB6).trans (hR.b.mono (unhide HB6).size))
    have HRB := hide ((unhide HR6).below hR.b)
    have yB := Nat.lt_of_lt_of_le y6 hR.b.size
    have zB : w6.heap.size < wB.heap.size := by omega
    clear hR cd qd HBd yy uu
    go_wp2_with fail
    refine (eqValue_self oo.kind oo.num oo.flt oo.str oo.ref _).mono ?_
    rintro e wA ⟨rfl, hb56⟩
    have y6 : w.heap.size < wA.heap.size := Nat.lt_of_lt_of_le yB hb56.size
    have z6 : w6.heap.size < wA.heap.size := Nat.lt_of_lt_of_le zB hb56.size
    obtain ⟨p0', p1', p2', p3', p4', p5'⟩ := keep6 hb56 yB ⟨p0, p1, p2, p3, p4, p5⟩
    obtain ⟨q0', q1', q2', q3', q4', q5'⟩ := keep6 hb56 zB ⟨q0, q1, q2, q3, q4, q5⟩
    have HB6 := hide ((unhide HBB).trans (hb56.mono (unhide HBB).size))
    have HR6 := hide ((unhide HRB).below hb56)
    clear hb56 p0 p1 p2 p3 p4 p5 q0 q1 q2 q3 q4 q5 x0 x1 x2 x3 x4 z0 z1 z2 z3 z4
    go_wp2
    have HBd : Hid (Below w.heap.size w wA.drew) := hide (unhide HB6).drew
    have HRd : Hid (DAt wA.drew (some ⟨t0, 0, none⟩) (some ⟨t1, 0, none⟩) (some ⟨t2, 0, none⟩) d) := hide ((unhide HR6).below (Below.refl _ _).drew)
    have pd : wA.drew.cell? ⟨w.heap.size, 0, none⟩ = some (.slice la d.n lc) ∧ wA.drew.cell? ⟨w.heap.size, 1, none⟩ = some (.slice ia d.m ic) ∧ wA.drew.cell? ⟨w.heap.size, 2, none⟩ = some (.slice xa d.x xc) ∧ wA.drew.cell? ⟨w.heap.size, 3, none⟩ = some (.int .i64 d.used) ∧ wA.drew.cell? ⟨w.heap.size, 4, none⟩ = some (.int .i64 d.live) ∧ wA.drew.cell? ⟨w.heap.size, 5, none⟩ = some (.int .i64 d.turns) := ⟨p0', p1', p2', p3', p4', p5'⟩
    have qd : wA.drew.cell? ⟨w6.heap.size, 0, none⟩ = some (.slice (some ⟨t0, 0, none⟩) d.n d.n) ∧ wA.drew.cell? ⟨w6.heap.size, 1, none⟩ = some (.slice (some ⟨t1, 0, none⟩) d.m d.m) ∧ wA.drew.cell? ⟨w6.heap.size, 2, none⟩ = some (.slice (some ⟨t2, 0, none⟩) d.x d.x) ∧ wA.drew.cell? ⟨w6.heap.size, 3, none⟩ = some (.int .i64 d.used) ∧ wA.drew.cell? ⟨w6.heap.size, 4, none⟩ = some (.int .i64 d.live) ∧ wA.drew.cell? ⟨w6.heap.size, 5, none⟩ = some (.int .i64 d.turns) := ⟨q0', q1', q2', q3', q4', q5'⟩
    obtain ⟨p0, p1, p2, p3, p4, p5⟩ := pd
    obtain ⟨q0, q1, q2, q3, q4, q5⟩ := qd
    go_region_held3 (fun w' => w'.cell? ⟨w.heap.size, 0, none⟩ = some (.slice la d.n lc) ∧ w'.cell? ⟨w.heap.size, 1, none⟩ = some (.slice ia d.m ic) ∧ w'.cell? ⟨w.heap.size, 2, none⟩ = some (.slice xa d.x xc) ∧ w'.cell? ⟨w.heap.size, 3, none⟩ = some (.int .i64 d.used) ∧ w'.cell? ⟨w.heap.size, 4, none⟩ = some (.int .i64 d.live) ∧ w'.cell? ⟨w.heap.size, 5, none⟩ = some (.int .i64 d.turns) ∧ w'.cell? ⟨w6.heap.size, 0, none⟩ = some (.slice (some ⟨t0, 0, none⟩) d.n d.n) ∧ w'.cell? ⟨w6.heap.size, 1, none⟩ = some (.slice (some ⟨t1, 0, none⟩) d.m d.m) ∧ w'.cell? ⟨w6.heap.size, 2, none⟩ = some (.slice (some ⟨t2, 0, none⟩) d.x d.x) ∧ w'.cell? ⟨w6.heap.size, 3, none⟩ = some (.int .i64 d.used) ∧ w'.cell? ⟨w6.heap.size, 4, none⟩ = some (.int .i64 d.live) ∧ w'.cell? ⟨w6.heap.size, 5, none⟩ = some (.int .i64 d.turns)) (first | exact ⟨by assumption, by assumption, by assumption, by assumption, by assumption, by assumption, by assumption, by assumption, by assumption, by assumption, by assumption, by assumption⟩ | go_keep)
      (first
        | (go_at_call 30; refine (toDict_any la lc ia ic xa xc d _ ((unhide HA).below (unhide HBd)) (unhide HS)).mono ?_; rintro e wC ⟨⟨v0, v1, v2, rfl, hrowA⟩, hb8⟩; obtain ⟨m0, m1, m2, m3, m4, m5⟩ := keep6 hb8 y6 ⟨p0, p1, p2, p3, p4, p5⟩; obtain ⟨n0, n1, n2, n3, n4, n5⟩ := keep6 hb8 z6 ⟨q0, q1, q2, q3, q4, q5⟩; have y8 := Nat.lt_of_lt_of_le y6 hb8.size; have z8 := Nat.lt_of_lt_of_le z6 hb8.size; have HR8 := hide hrowA; have HX8 := hide ((unhide HRd).below hb8); have HB8 := hide ((unhide HBd).trans (hb8.mono (unhide HBd).size)); clear hrowA hb8)
        | (go_at_call 31; refine (eqDict_same (some ⟨t0, 0, none⟩) (some ⟨v0, 0, none⟩) (some ⟨t1, 0, none⟩) (some ⟨v1, 0, none⟩) (some ⟨t2, 0, none⟩) (some ⟨v2, 0, none⟩) d.n d.n d.m d.m d.x d.x d _ (unhide HX8) (unhide HR8) (unhide HS)).mono ?_; rintro e wE ⟨rfl, hb9⟩; obtain ⟨m0', m1', m2', m3', m4', m5'⟩ := keep6 hb9 y8 ⟨m0, m1, m2, m3, m4, m5⟩; obtain ⟨n0', n1', n2', n3', n4', n5'⟩ := keep6 hb9 z8 ⟨n0, n1, n2, n3, n4, n5⟩; have HB9 := hide ((unhide HB8).trans (hb9.mono (unhide HB8).size)); clear hb9))
    go_wp2
    go_ret
    exact ⟨rfl, unhide HB9⟩
end Go.Proofs.YtglcaejddckleaaGreatDoor
namespace Go.Proofs.YtglcaejddckleaaGreatDoor
open Go.RowKit Go.Shelf
set_option linter.unusedVariables false

theorem inv_ok {d : Dc} (h : Inv Ky hN d) : dictOk d (hD d) = 0 := (h.sound keyLaw).zero

theorem livL_mem {d : Dc} {k i : Nat} : i ∈ livL d k ↔ i < k ∧ (d.L i).turn ≠ 0 := by
  unfold livL
  rw [List.mem_filter, List.mem_range]
  simp
theorem livL_sorted (d : Dc) (k : Nat) : (livL d k).Pairwise (· < ·) := List.Pairwise.filter _ List.pairwise_lt_range

section
variable {d : Dc} (h : Inv Ky hN d)
include h
theorem lv_get {j : Nat} (hj : j < (livL d d.n).length) : lvF d j = d.L (livL d d.n)[j] ∧ (livL d d.n)[j] < d.n ∧ (d.L (livL d d.n)[j]).turn ≠ 0 ∧ 0 < (d.L (livL d d.n)[j]).turn := by
  have hm := livL_mem.1 (List.getElem_mem hj)
  refine ⟨?_, hm.1, hm.2, ?_⟩
  · unfold lvF
    rw [List.getD_eq_getElem?_getD, List.getElem?_eq_getElem hj]
    rfl
  · rcases h.i0.log.ent _ hm.1 with e | e
    · exact absurd e.1 hm.2
    · exact e.1
theorem lv_lt {j k : Nat} (hk : k < (livL d d.n).length) (hjk : j < k) : (d.L ((livL d d.n)[j]'(Nat.lt_trans hjk hk))).turn < (d.L (livL d d.n)[k]).turn := by
  have h1 := lv_get h hk
  have h2 := lv_get h (Nat.lt_trans hjk hk)
  exact h.i0.log.ord _ _ (List.pairwise_iff_getElem.1 (livL_sorted d d.n) j k _ hk hjk) h1.2.1 h2.2.2.1 h1.2.2.1
theorem lv_has {j : Nat} (hj : j < lvN d) : Has d (lvF d j) := by
  obtain ⟨e, h1, h2, _⟩ := lv_get h hj
  rw [e]
  exact has_at h1 h2
omit h in
theorem has_lv {p : Pr} (hp : Has d p) : ∃ j, j < lvN d ∧ lvF d j = p := by
  obtain ⟨i, h1, h2, rfl⟩ := hp
  obtain ⟨j, hj, e⟩ := List.getElem_of_mem (livL_mem.2 ⟨h1, h2⟩)
  refine ⟨j, hj, ?_⟩
  unfold lvF
  rw [List.getD_eq_getElem?_getD, List.getElem?_eq_getElem hj, e]
  rfl
theorem get_has {k : Vl} (hk : Ky k) {p : Pr} (hp : Has d p) (hl : likeB p.key k = true) : getV d 0 k = p.val := by
  have e0 : getV d 0 k = atPlace d (placeI d k (hN k)) := if_pos ⟨inv_ok h, rfl⟩
  rw [e0]
  obtain ⟨i, i1, i2, rfl⟩ := hp
  rcases h.i0.place keyLaw hk with ⟨j, j1, j2, j3, j4⟩ | ⟨j1, j2⟩
  · rw [j4]
    have hij : i = j := h.i0.dist i j i1 j1 i2 j2 (keyLaw.trans _ _ _ (h.i0.keys i i1 i2) hk (h.i0.keys j j1 j2) hl (keyLaw.symm _ _ (h.i0.keys j j1 j2) hk j3))
    subst hij
    unfold atPlace
    rw [if_pos (by omega)]
    rfl
  · rw [j1 i i1 i2] at hl
    exact absurd hl (by decide)
theorem get_no {k : Vl} (hk : Ky k) (hno : ∀ p, Has d p → likeB p.key k = false) : getV d 0 k = default := by
  have e0 : getV d 0 k = atPlace d (placeI d k (hN k)) := if_pos ⟨inv_ok h, rfl⟩
  rw [e0]
  rcases h.i0.place keyLaw hk with ⟨j, j1, j2, j3, j4⟩ | ⟨j1, j2⟩
  · rw [hno _ (has_at j1 j2)] at j3
    exact absurd j3 (by decide)
  · rw [j2]
    rfl
end
theorem feq_bits {x y : Nat} (h : feq x y = true) (hx : x < 18446744073709551616) (hy : y < 18446744073709551616) (nx : x ≠ 9223372036854775808) (ny : y ≠ 9223372036854775808) : x = y := by
  obtain ⟨a, e, f, rfl, ha, he, hf⟩ := Fl.fields x hx
  obtain ⟨b, g, q, rfl, hb, hg, hq⟩ := Fl.fields y hy
  rcases feq_cases h with ⟨s, m, i, t, n, j, h1, h2, h3, h4, h5, h6, h7, h8, e0⟩ | ⟨s, h1, h2⟩
  · have he' : e < 2047 := by
      by_cases c : e = 2047
      · subst c
        rw [Fl.read_inf_fields a f ha hf] at h1
        split at h1 <;> cases h1
      · omega
    have hg' : g < 2047 := by
      by_cases c : g = 2047
      · subst c
        rw [Fl.read_inf_fields b q hb hq] at h2
        split at h2 <;> cases h2
      · omega
    rw [Fl.read_fields a e f ha he' hf] at h1
    rw [Fl.read_fields b g q hb hg' hq] at h2
    by_cases z : Fl.sc s m i = 0
    · have zero : ∀ (u : Bool) (k : Nat) (l : Int), Fl.sc u k l = 0 → k = 0 := by
        intro u k l hz
        unfold Fl.sc at hz
        rw [Fl.signed_eq] at hz
        have hp := Fl.pow_pos' (l + 1074).toNat
        generalize (2 : Int) ^ (l + 1074).toNat = v at hz hp
        have hz1 : (k : Int) * v = 0 := by
          cases u
          · simpa using hz
          · simpa using hz
        rcases Int.mul_eq_zero.1 hz1 with h | h <;> omega
      have m0 := zero _ _ _ z
      have n0 := zero _ _ _ (e0 ▸ z)
      injection h1 with _ p1 _
      injection h2 with _ p2 _
      rw [m0] at p1
      rw [n0] at p2
      by_cases c : e = 0
      · by_cases c' : g = 0
        · rw [if_pos c] at p1
          rw [if_pos c'] at p2
          omega
        · rw [if_neg c'] at p2
          omega
      · rw [if_neg c] at p1
        omega
    · obtain ⟨u1, u2, u3⟩ := form_one h3 h4 h5 h6 h7 h8 e0 z
      subst u1 u2 u3
      rw [← h2] at h1
      injection h1 with p0 p1 p2
      have hab : a = b := by
        rcases (show a = 0 ∨ a = 1 by omega) with c | c <;> rcases (show b = 0 ∨ b = 1 by omega) with c' | c' <;> subst c <;> subst c' <;> first | rfl | exact absurd p0 (by decide)
      by_cases c : e = 0
      · by_cases c' : g = 0
        · rw [if_pos c, if_pos c'] at p1
          omega
        · rw [if_pos c, if_neg c'] at p1
          omega
      · by_cases c' : g = 0
        · rw [if_neg c, if_pos c'] at p1
          omega
        · rw [if_neg c, if_neg c'] at p1 p2
          omega
  · have he' : e = 2047 := by
      by_cases c : e = 2047
      · exact c
      · rw [Fl.read_fields a e f ha (by omega) hf] at h1
        cases h1
    have hg' : g = 2047 := by
      by_cases c : g = 2047
      · exact c
      · rw [Fl.read_fields b g q hb (by omega) hq] at h2
        cases h2
    subst he' hg'
    rw [Fl.read_inf_fields a f ha hf] at h1
    rw [Fl.read_inf_fields b q hb hq] at h2
    by_cases c : f = 0
    · by_cases c' : q = 0
      · rw [if_pos c] at h1
        rw [if_pos c', ← h1] at h2
        injection h2 with p0
        rcases (show a = 0 ∨ a = 1 by omega) with d | d <;> rcases (show b = 0 ∨ b = 1 by omega) with d' | d' <;> subst d <;> subst d' <;> first | omega | exact absurd p0 (by decide)
      · rw [if_neg c'] at h2; cases h2
    · rw [if_neg c] at h1; cases h1
/-- Keys beside which no zero below 0 stands: the same for the language, the same in every field. -/
theorem like_same {a b : Vl} (ha : Ky a) (hb : Ky b) (na : Nz a) (nb : Nz b) (h : likeB a b = true) : a = b := by
  obtain ⟨f1, f2, f3⟩ := like_flt h
  have e1 := like_kind h
  have e2 := like_num h
  have e3 := feq_bits f1 ha.2.flt hb.2.flt na nb
  have e4 : a.str = b.str := by
    have := toList_inj f2
    cases hs : a.str; cases ht : b.str
    rw [hs, ht] at this
    congr 1
    exact Array.toList_inj.1 this
  cases a; cases b
  simp_all
/-- A key is its own key. -/
theorem keyV_key {k : Vl} (hk : Ky k) : keyV k.kind k.num k.flt k.str k.ref = KV 0 k.kind k.num k.flt k.str k.ref := by
  have h := hk.1
  unfold keyB Vl.ok at h
  unfold keyV
  by_cases h3 : k.kind = 3
  · simp [h3] at h ⊢
    simp [h]
  · simp [h3] at h ⊢
    simp [h]
/-- What the law of puts asks of a put. -/
structure PutLaw (d e : Dc) (k v : Vl) : Prop where
  now : ¬ ((getV d 0 k).kind = 0 ∧ lvN d = 500) → getV e 0 k = v
  rest : ∀ j, j < lvN d → (lvF d j).key ≠ k → getV e 0 (lvF d j).key = (lvF d j).val
  last : v.kind ≠ 0 → (getV d 0 k).kind = 0 → ¬ ((getV d 0 k).kind = 0 ∧ lvN d = 500) → 0 < lvN e ∧ (lvF e (lvN e - 1)).key = k ∧ e.turns = d.turns + 1
  same : ¬ (v.kind ≠ 0 ∧ (getV d 0 k).kind = 0 ∧ ¬ ((getV d 0 k).kind = 0 ∧ lvN d = 500)) → e.turns = d.turns
theorem put_law {d : Dc} (h : Inv Ky hN d) (hz : LogQ NzP d) (ht : d.turns < 1000000000000) {k v : Vl} (hk : Ky k) (hkz : Nz k) (hv : v.ok = true) (hv0 : v.kind = 0 → v = default) : PutLaw d (putD hN d k v) k v := by
  have hI := putD_inv keyLaw h hk hk.1 hv
  have hcnt : (lvN d : Int) = d.live := h.i0.log.cnt
  have hle := h.i0.le
  have key : ∀ p, Has d p → p.key ≠ k → likeB p.key k = false := by
    intro p hp hne
    by_cases c : likeB p.key k = true
    · refine absurd (like_same (h.keyOf hp) hk ?_ hkz c) hne
      obtain ⟨i, i1, i2, rfl⟩ := hp
      exact hz i i1
    · simpa using c
  have old_yes : ∀ q, Has d q → likeB q.key k = true → getV d 0 k = q.val ∧ (getV d 0 k).kind ≠ 0 := by
    intro q hq hl
    have := get_has h hk hq hl
    exact ⟨this, by rw [this]; exact (h.entry hq).2.2.2⟩
  have old_no : (∀ p, Has d p → likeB p.key k = false) → getV d 0 k = default := get_no h hk
  have stay : ∀ j, j < lvN d → Has (putD hN d k v) (lvF d j) → getV (putD hN d k v) 0 (lvF d j).key = (lvF d j).val := by
    intro j hj hp
    exact get_has hI (hI.keyOf hp) hp (keyLaw.refl _ (hI.keyOf hp))
  rcases put_says keyLaw h hk hk.1 hv with ⟨q, q1, q2, q3, q4, q5, q6⟩ | ⟨q, q1, q2, q3, q4, q5, q6⟩ | ⟨q1, q2, q3, q4, q5⟩ | ⟨q1, q2, q3⟩
  · have ho := (old_yes q q1 q2).2
    refine ⟨fun _ => ?_, fun j hj hne => ?_, fun h1 => absurd q3 h1, fun _ => q6⟩
    · rw [get_no hI hk (fun p hp => ((q4 p).1 hp).2), hv0 q3]
    · exact stay j hj ((q4 _).2 ⟨lv_has h hj, key _ (lv_has h hj) hne⟩)
  · have ho := (old_yes q q1 q2).2
    refine ⟨fun _ => ?_, fun j hj hne => ?_, fun _ h1 => absurd h1 ho, fun _ => q6⟩
    · exact get_has hI hk (p := ⟨q.key, v, q.turn⟩) ((q4 _).2 (.inr rfl)) q2
    · exact stay j hj ((q4 _).2 (.inl ⟨lv_has h hj, key _ (lv_has h hj) hne⟩))
  · have hnew : Has (putD hN d k v) ⟨k, v, d.turns + 1⟩ := (q3 _).2 (.inr rfl)
    have ho := old_no q1
    refine ⟨fun _ => get_has hI hk hnew (keyLaw.refl _ hk), fun j hj hne => stay j hj ((q3 _).2 (.inl (lv_has h hj))), fun _ _ _ => ?_, fun hc => ?_⟩
    · obtain ⟨j, hj, e⟩ := has_lv hnew
      have hlast : j = lvN (putD hN d k v) - 1 := by
        by_cases c : j = lvN (putD hN d k v) - 1
        · exact c
        · exfalso
          have h1 : j + 1 < (livL (putD hN d k v) (putD hN d k v).n).length := by show j + 1 < lvN _; omega
          have h2 := lv_lt hI h1 (Nat.lt_succ_self j)
          have e1 := (lv_get hI (show j < _ from hj)).1
          have e2 := (lv_get hI h1).1
          have h3 := (hI.entry (lv_has hI h1)).2.1
          rw [← e1, ← e2, e] at h2
          have h2 : d.turns + 1 < (lvF (putD hN d k v) (j + 1)).turn := h2
          omega
      exact ⟨by omega, by rw [← hlast, e], q5⟩
    · exfalso
      refine hc ⟨q2, by rw [ho]; rfl, fun hf => ?_⟩
      have := hI.i0.le
      omega
  · have ho := old_no q1
    have hok : (default : Vl).kind = 0 := rfl
    rw [q3]
    refine ⟨fun hf => ?_, fun j hj hne => ?_, fun h1 h2 h3 => ?_, fun _ => rfl⟩
    · by_cases c : v.kind = 0
      · rw [ho, hv0 c]
      · exfalso
        have hl : ¬ d.live < 500 := fun hl => q2 ⟨c, hl, ht⟩
        exact hf ⟨by rw [ho]; rfl, by omega⟩
    · exact get_has h (h.keyOf (lv_has h hj)) (lv_has h hj) (keyLaw.refl _ (h.keyOf (lv_has h hj)))
    · exfalso
      have hl : ¬ d.live < 500 := fun hl => q2 ⟨h1, hl, ht⟩
      exact h3 ⟨h2, by omega⟩
/-- The pairs stand in the order of their turns. -/
theorem lv_order {d : Dc} (h : Inv Ky hN d) {j : Nat} (hj : j + 1 < lvN d) : (lvF d j).turn < (lvF d (j + 1)).turn := by
  have h1 : j + 1 < (livL d d.n).length := hj
  have h2 := lv_lt h h1 (Nat.lt_succ_self j)
  rw [(lv_get h (show j < _ by omega)).1, (lv_get h h1).1]
  exact h2
end Go.Proofs.YtglcaejddckleaaGreatDoor
namespace Go.Proofs.YtglcaejddckleaaGreatDoor
open Go.RowKit Go.Shelf
set_option linter.unusedVariables false

/-- The turn from which the pair number k is gone to. -/
def tB (d : Dc) (k : Nat) : Int := if k = 0 then 0 else (lvF d (k - 1)).turn
theorem tB_zero (d : Dc) : tB d 0 = 0 := rfl
theorem tB_succ (d : Dc) (k : Nat) : tB d (k + 1) = (lvF d k).turn := rfl

section
variable {d : Dc} (h : Inv Ky hN d)
include h
theorem tB_le {j k : Nat} (hk : k ≤ (livL d d.n).length) (hjk : j < k) : (d.L ((livL d d.n)[j]'(Nat.lt_of_lt_of_le hjk hk))).turn ≤ tB d k := by
  obtain ⟨q, rfl⟩ : ∃ q, k = q + 1 := ⟨k - 1, by omega⟩
  rw [tB_succ, (lv_get h (show q < _ by omega)).1]
  by_cases e : j = q
  · subst e; exact Int.le_refl _
  · exact Int.le_of_lt (lv_lt h (show q < _ by omega) (by omega))
theorem tB_lt {k : Nat} (hk : k < (livL d d.n).length) : tB d k < (d.L (livL d d.n)[k]).turn := by
  cases k with
  | zero => rw [tB_zero]; exact (lv_get h hk).2.2.2
  | succ q => rw [tB_succ, (lv_get h (show q < _ by omega)).1]; exact lv_lt h hk (by omega)
theorem through_hit {k : Nat} (hk : k < lvN d) : outA d (tB d k) = (true, lvF d k) := by
  have hk : k < (livL d d.n).length := hk
  rw [(lv_get h hk).1]
  refine outA_some (inv_ok h) ?_
  unfold aftL
  rw [List.find?_eq_some_iff_getElem]
  refine ⟨by simpa using tB_lt h hk, k, hk, rfl, fun j hj => ?_⟩
  have := tB_le h (Nat.le_of_lt hk) hj
  simpa using this
theorem through_end : outA d (tB d (lvN d)) = (false, default) := by
  refine outA_none (inv_ok h) (aftL_none fun i hi => ?_)
  obtain ⟨j, hj, rfl⟩ := List.getElem_of_mem hi
  have := tB_le h (k := lvN d) (Nat.le_refl _) hj
  omega
omit h in
theorem len_says : ∀ (g k : Nat), k + g = d.m → k ≤ fz0 d.I d.m k g ∧ (∀ j, k ≤ j → j < fz0 d.I d.m k g → d.I j ≠ 0) ∧ (fz0 d.I d.m k g = d.m ∨ (fz0 d.I d.m k g < d.m ∧ d.I (fz0 d.I d.m k g) = 0))
  | 0, k, e => ⟨Nat.le_refl _, fun j h1 h2 => by have h2 : j < k := h2; omega, .inl (by show k = d.m; omega)⟩
  | g + 1, k, e => by
    by_cases h0 : d.I k = 0
    · have e1 : fz0 d.I d.m k (g + 1) = k := if_pos h0
      rw [e1]
      exact ⟨Nat.le_refl _, fun j h1 h2 => by omega, .inr ⟨by omega, h0⟩⟩
    · have e1 : fz0 d.I d.m k (g + 1) = fz0 d.I d.m (k + 1) g := if_neg h0
      rw [e1]
      obtain ⟨h1, h2, h3⟩ := len_says g (k + 1) (by omega)
      refine ⟨by omega, fun j h4 h5 => ?_, h3⟩
      by_cases e2 : j = k
      · subst e2; exact h0
      · exact h2 j (by omega) h5
omit h in
theorem len_facts (d : Dc) : lenN d ≤ d.m ∧ (∀ j, j < lenN d → d.I j ≠ 0) ∧ (lenN d = d.m ∨ (lenN d < d.m ∧ d.I (lenN d) = 0)) := by
  obtain ⟨h1, h2, h3⟩ := len_says (d := d) d.m 0 (by omega)
  exact ⟨by rcases h3 with h3 | h3 <;> (show fz0 d.I d.m 0 d.m ≤ d.m; omega), fun j hj => h2 j (by omega) hj, h3⟩
theorem get_of (n : Int) : getV d 0 (intV n) = atPlace d (placeI d (intV n) (hN (intV n))) := if_pos ⟨inv_ok h, rfl⟩
theorem get_in {i : Nat} (h1 : 1 ≤ i) (h2 : i ≤ lenN d) : (getV d 0 (intV i)).kind ≠ 0 := by
  obtain ⟨l1, l2, l3⟩ := len_facts d
  rw [get_of h]
  have hI := l2 (i - 1) (by omega)
  rcases h.i0.ints (i - 1) (by omega) with e | ⟨e1, e2, e3, e4, e5⟩
  · exact absurd e hI
  rcases h.i0.place keyLaw (ky_int i) with ⟨p, p1, p2, p3, p4⟩ | ⟨p1, p2⟩
  · have p4 : placeI d (intV i) (hN (intV i)) = p := p4
    rw [p4]
    unfold atPlace
    rw [if_pos (by omega)]
    rcases h.i0.log.ent p p1 with e | e
    · exact absurd e.1 p2
    · exact e.2.2.2.2
  · exfalso
    have hb := p1 (d.I (i - 1) - 1).toNat (by omega) e3
    have hk := h.i0.keys (d.I (i - 1) - 1).toNat (by omega) e3
    rw [keyLaw.int _ _ hk (ky_int i) e4 rfl (by rw [show (d.L (d.I (i - 1) - 1).toNat).key.num = ((i - 1 : Nat) : Int) + 1 from e5]; show _ = (i : Int); omega)] at hb
    exact absurd hb (by decide)
theorem get_out : (getV d 0 (intV ((lenN d : Int) + 1))).kind = 0 := by
  obtain ⟨l1, l2, l3⟩ := len_facts d
  rw [get_of h]
  rcases h.i0.place keyLaw (ky_int ((lenN d : Int) + 1)) with ⟨p, p1, p2, p3, p4⟩ | ⟨p1, p2⟩
  · exfalso
    have hk2 : (d.L p).key.kind = 2 := like_kind p3
    have hk3 : (d.L p).key.num = (lenN d : Int) + 1 := like_num p3
    rcases l3 with l3 | ⟨l3, l4⟩
    · exact h.next p p1 p2 ⟨hk2, by rw [hk3, l3]⟩
    · have := h.i0.small p p1 p2 ⟨hk2, by omega, by omega⟩
      rw [hk3, show ((lenN d : Int) + 1 - 1).toNat = lenN d by omega, l4] at this
      omega
  · have p2 : placeI d (intV ((lenN d : Int) + 1)) (hN (intV ((lenN d : Int) + 1))) = -1 := p2
    rw [p2]
    rfl
end
end Go.Proofs.YtglcaejddckleaaGreatDoor
namespace Go.Proofs.YtglcaejddckleaaGreatDoor
open Go.RowKit Go.Shelf
set_option linter.unusedVariables false
attribute [local go_sem] run_store_float run_equalIn_float Oper.semAt_some

/-- All blocks below n0 but p lie as they lay. -/
structure KpB (p n0 : Nat) (A B : World) : Prop where
  size : A.heap.size ≤ B.heap.size
  block : ∀ b, b < n0 → b ≠ p → B.heap[b]? = A.heap[b]?
theorem KpB.refl (p n0 : Nat) (A : World) : KpB p n0 A A := ⟨Nat.le_refl _, fun _ _ _ => rfl⟩
theorem KpB.trans {p n0 : Nat} {A B C : World} (h : KpB p n0 A B) (k : KpB p n0 B C) : KpB p n0 A C := ⟨Nat.le_trans h.size k.size, fun b h1 h2 => (k.block b h1 h2).trans (h.block b h1 h2)⟩
theorem KpB.put {p n0 : Nat} {w : World} (hn : n0 ≤ w.heap.size) (W : World) (l : Nat) (o o' : Obj) (hl : w.heap.size ≤ l) (h : W.heap[l]? = some o) (_ : o.isCells = false) (_ : o.isWalk = false) : KpB p n0 W (W.putObj l o') := by
  have hb := (Below.refl n0 W).grown (grownBy_putObj' W l o') (by have := (Array.getElem?_eq_some_iff.1 h).1; omega) (fun k e => by cases e; omega)
  exact ⟨hb.size, fun b h1 _ => hb.block b h1⟩

theorem kept_cells {A B : World} {row : Option Nat} {b : Nat} {c : Array Value} {t : TypeId} {fz : Nat × Nat} {D : Nat} (h : A.heap[b]? = some (.cells c t fz)) (hg : A.grownBy B row) (hr : ∀ r, row = some r → D ≤ r ∧ ∃ o : Obj, A.heap[r]? = some o ∧ o.isCells = false) : B.heap[b]? = A.heap[b]? :=
  hg.block b (Array.getElem?_eq_some_iff.1 h).1 (fun e => by
    obtain ⟨_, o, ho, hc⟩ := hr b e.symm
    rw [h] at ho
    cases ho
    cases hc)
theorem own_keptO {A B : World} {row : Option Nat} {D base e size : Nat} {v : Value} {n : Nat} {xs : List Value} (h : A.ownsRow base e size v n xs) (hg : A.grownBy B row) (hr : ∀ r, row = some r → D ≤ r ∧ ∃ o : Obj, A.heap[r]? = some o ∧ o.isCells = false) : B.ownsRow base e size v n xs := by
  obtain ⟨hl, h | ⟨g, cap, cur, h1, h2, h3, h4⟩⟩ := h
  · exact ⟨hl, .inl h⟩
  · exact ⟨hl, .inr ⟨g, cap, cur, h1, h2, (kept_cells h3 hg hr).trans h3, h4⟩⟩

section
variable {P : Program}
/-- append, in a round of a range over a function. -/
theorem wpIn_append_lies (w : World) {l n' : Nat} {o : Oper} {a : Act} {K : Act → World → Prop} {Q : Exit → Act → World → Prop} (s x : Operand) (t : TypeId)
    (ho : o.op = .call { callee := .builtin .append, args := #[s, x], argTypes := #[t, t] })
    (base : Nat) (e : TypeId) (i : TypeInfo) (z : Value) (size bytes : Nat) (ht : P.underlying t = some (.slice e)) (hi : P.info? e = some i) (hz : i.zero = some z)
    (hsize : i.size = size) (hby : i.bytes = bytes) (hzs : z.cells.size = size) (hsz : 0 < size)
    (v : Value) (n : Nat) (xs : List Value) (hs : a.eval s = v) (hown : w.ownsRow base e size v n xs)
    (ad : Addr) (m c : Nat) (news : List Value) (hx : a.eval x = .slice (some ad) m c) (hl : news.length = m * size) (hnews : ∀ j u, news[j]? = some u → w.cell? (ad.add j) = some u) (h1 : ∀ u ∈ news, u.oneCell' = true)
    (hm : 0 < m) (h63 : n + m ≤ maxLen) (hbytes : (n + m) * bytes ≤ 140737488355328) (hbase : base ≤ w.heap.size) (H : Nat) (hH : w.heap.size = H)
    (h : ∀ g cap w', w'.ownsRow base e size (.slice (some ⟨g, 0, none⟩) (n + m) cap) (n + m) (xs ++ news) → w.grownBy w' v.ownBlock → (v.ownBlock = some g ∨ g = H) → g < w'.heap.size → K (a.put o.dst (.slice (some ⟨g, 0, none⟩) (n + m) cap)) w') : o.wpIn (Fence.wide.inRound l) n' P a w K Q := by
  obtain ⟨g, cap, w', hr, h2, h3, h4, h5⟩ := run_append_lies (P := P) w t o.type base e i z size bytes ht hi hz hsize hby hzs hsz v n xs hown ad m c news hl hnews h1 hm h63 hbytes hbase H hH
  refine ⟨fun _ _ => trivial, ?_⟩
  show o.uponIn (Fence.wide.inRound l) n' P a K Q ((o.semAt (some l) a.eval).run P w)
  rw [Oper.semAt_some l _ _ (fun c e => by rw [ho] at e; cases e)]
  unfold execOp
  simp only [ho, resolve, invoke, builtin, Sem.run_bind, Sem.run_pure, Result.andThen_ok, List.map_toArray, List.map_cons, List.map_nil, hs, hx, hr]
  exact h g cap w' h2 h3 h4 h5
end

set_option maxRecDepth 100000 in
set_option maxHeartbeats 2000000 in
theorem living_stopsP (n : Nat) (hn : 1 ≤ n) (bk R0 R1 R2 mb p n0 : Nat) (E S : Nat → Nat) (d : Dc) (w : World) (hB : Book w bk R0 R1 R2 E S d) (hS : Small d) (hR : 0 < d.n → R0 < n0 ∧ R0 ≠ p) (hE : ∀ i, i < d.n → E i < n0 ∧ E i ≠ p)
    (m0 : w.cell? ⟨mb, 0, none⟩ = some (.pointer (some ⟨bk, 0, none⟩))) :
    SeqStopsK Fence.wide n Tryz.prog 107 #[.pointer (some ⟨mb, 0, none⟩)] (fun a : Liv d => #[.pointer (some ⟨E a.1, 0, none⟩)]) (KpB p n0)
      (LvAll d) (LvPre d) d.n w := fun l J Jx W hW hJ hJx hY h0 => by
  have lm := World.block_lt_of_cell? _ _ m0
  have m0 := (hW.cell (p := ⟨mb, 0, none⟩) lm).trans m0
  have hBk := hB.below hW
  obtain ⟨a0, k0, c0, ha0⟩ := hBk.c0
  have HA0 := hide ha0
  clear ha0
  have lb := hBk.lt
  have hnn := hS.n
  have HY := hide hY
  have H0 := hide h0
  have HBk := hide hBk
  have HE := hide hE
  clear hJx hJ hY hW h0 hBk hB hS hE
  refine callsIn_of_wp Tryz.func107 rfl trivial ?_ rfl
  simp only [Tryz.ntmps107, List.size_toArray, List.length_cons, List.length_nil, Nat.reduceAdd, Nat.reduceSub, Array.replicate_succ, Array.replicate_zero, List.push_toArray, List.append_toArray, List.nil_append, List.cons_append]
  gi_wp2
  gi_loopw [10] (fun i wr => ∃ (k : Nat) (pre : List (Liv d)), k ≤ d.n ∧ i = .int .i64 (k : Int) ∧ LvTo d k pre ∧ J pre wr ∧ KpB p n0 W wr) (fun i _ => d.n - (intOf i).toNat)
  case atStart => exact ⟨0, [], by omega, rfl, rfl, unhide H0, KpB.refl _ _ _⟩
  case round =>
    obtain ⟨k, pre, hk, rfl, hlv, hJp, hbw⟩ := hrel
    by_cases hkn : k < d.n
    · obtain rfl := unhide HA0 (by omega)
      have p0 := (World.cell?_of_block (a := ⟨R0, k, none⟩) (hbw.block _ (hR (by omega)).1 (hR (by omega)).2)).trans ((unhide HBk).r0 k hkn)
      have t0 := (World.cell?_of_block (a := ⟨E k, 10, none⟩) (hbw.block _ (unhide HE k hkn).1 (unhide HE k hkn).2)).trans ((unhide HBk).ent k hkn).tn
      have HLV := hide hlv
      have HBW := hide hbw
      clear hlv hbw
      by_cases ht : (d.L k).turn = 0
      · have HN : Hid (LvTo d (k + 1) pre) := hide (by unfold LvTo; rw [livL_dead ht]; exact unhide HLV)
        rw [ht] at t0
        clear ht
        gi_wp2
        refine ⟨fun _ h => (by cases h), ?_⟩
        gi_wp2
        go_roundw
        case rel => exact ⟨k + 1, pre, by omega, by go_num, unhide HN, hJp, unhide HBW⟩
        case measure => simp [intOf]; omega
      · have ht' : ((d.L k).turn != 0) = true := by simp [ht]
        obtain ⟨fn, tmps, assign, body, hy, hRR⟩ := unhide HY pre ⟨k, hkn, ht⟩ wr hJp (by
          have h1 : (pre.map (·.1)).length = (livL d k).length := congrArg List.length (unhide HLV)
          rw [List.length_map] at h1
          have := livL_le d k
          omega)
        have HN : Hid (LvTo d (k + 1) (pre ++ [⟨k, hkn, ht⟩])) := hide (by
          unfold LvTo
          rw [livL_live ht, List.map_append, show pre.map (·.1) = livL d k from unhide HLV]
          rfl)
        have HR := hide hRR
        clear hRR hJp
        dsimp only at hy
        gi_wp2
        refine (unhide HR).mono ?_
        rintro e W3 (⟨rfl, hJ3, hk3⟩ | ⟨rfl, hJx3⟩)
        · clear HR hy
          gi_wp2
          go_roundw
          case rel => exact ⟨k + 1, _, by omega, by go_num, unhide HN, hJ3, (unhide HBW).trans hk3⟩
          case measure => simp [intOf]; omega
        · clear HR hy
          gi_wp2
          refine bodyPost_ret (results_none rfl _ _ _) rfl ?_
          exact ⟨⟨_, rfl⟩, .inr ⟨_, (unhide HN).pre (by omega), hJx3⟩⟩
    · have hkn' : k = d.n := by omega
      subst hkn'
      have HS := hide hlv
      clear hlv
      gi_wp2
      go_end0
      exact ⟨⟨_, rfl⟩, .inl ⟨pre, unhide HS, hJp⟩⟩
end Go.Proofs.YtglcaejddckleaaGreatDoor
namespace Go.Proofs.YtglcaejddckleaaGreatDoor
open Go.RowKit Go.Shelf
set_option linter.unusedVariables false
attribute [local go_sem] run_store_float run_equalIn_float Oper.semAt_some

/-- The pairs that have come. -/
def preF (d : Dc) (pre : List (Liv d)) (j : Nat) : Pr := d.L ((pre.map (·.1)).getD j 0)
theorem pL_congr {f g : Nat → Pr} {n : Nat} (h : ∀ j, j < n → f j = g j) : pL f n = pL g n := by
  induction n with
  | zero => rfl
  | succ n ih => show pL f n ++ prL (f n) = pL g n ++ prL (g n); rw [ih (fun j hj => h j (by omega)), h n (by omega)]
theorem preF_snoc (d : Dc) (pre : List (Liv d)) (x : Liv d) : pL (preF d pre) pre.length ++ prL (d.L x.1) = pL (preF d (pre ++ [x])) (pre.length + 1) := by
  show _ = pL (preF d (pre ++ [x])) pre.length ++ prL (preF d (pre ++ [x]) pre.length)
  rw [pL_congr (f := preF d (pre ++ [x])) (g := preF d pre) (fun j hj => by
    unfold preF
    rw [List.map_append, List.getD_eq_getElem?_getD, List.getD_eq_getElem?_getD, List.getElem?_append_left (by simpa using hj)])]
  congr 2
  unfold preF
  rw [List.map_append]
  simp [List.getD]
theorem preF_all {d : Dc} {pre : List (Liv d)} (h : pre.map (·.1) = livL d d.n) : preF d pre = lvF d := by
  funext j
  unfold preF lvF
  rw [h]

/-- Between two rounds. -/
def PrI (w u : World) (p n0 : Nat) (d : Dc) (pre : List (Liv d)) (W : World) : Prop :=
  ∃ v, W.rowIs p 23 1 (fun _ => v) ∧ POwn W n0 v pre.length (preF d pre) ∧ KpB p n0 u W ∧ Below w.heap.size w W
theorem PrI.own (w u : World) (p n0 D : Nat) (d : Dc) (hn : n0 ≤ D) (hu : n0 ≤ u.heap.size) (hw : w.heap.size ≤ D) : OwnFrom D (PrI w u p n0 d) := by
  rintro pre A B row ⟨v, h1, h2, h3, h4⟩ hg hr
  refine ⟨v, ?_, own_keptO h2 hg hr, ⟨Nat.le_trans h3.size hg.size, fun b hb hp => ?_⟩, h4.grown hg h4.size (fun k e => Nat.le_trans hw (hr k e).1)⟩
  · obtain ⟨c, hb, hc⟩ := h1
    exact World.rowIs.of_block ⟨c, hb, hc⟩ (kept_cells hb hg hr)
  · have hl : b < A.heap.size := Nat.lt_of_lt_of_le hb (Nat.le_trans hu h3.size)
    exact (hg.block b hl (fun e => by have := (hr b e.symm).1; omega)).trans (h3.block b hb hp)

theorem grown_fromP {W w3 : World} {o : Obj} {row : Option Nat} (h : (W.drew.alloc o).grownBy w3 row) : W.grownBy w3 row :=
  ⟨h.os, h.tape, h.output, by have := h.size; simp at this; omega, fun b hb hr => (h.block b (by simp; omega) hr).trans (Deep.blk_alloc_lt _ _ _ hb)⟩

set_option maxRecDepth 100000 in
set_option maxHeartbeats 4000000 in
theorem implPairs (la : Option Addr) (lc : Nat) (ia : Option Addr) (ic : Nat) (xa : Option Addr) (xc : Nat) (d : Dc) (w : World) (hT : Tabs w) (hA : DAt w la ia xa d) (hS : Small d) (hW : WfD d) :
    Calls Tryz.prog 21 #[Dv la lc ia ic xa xc d] w fun e w' => (∃ v, e = .returned v ∧ POwn w' w.heap.size v (prsN d) (lvF d)) ∧ Below w.heap.size w w' := by
  obtain ⟨i0, hi0, hz0, hz1, hz2⟩ := info_parts infoPair
  have hdn := hS.n
  have HA := hide hA
  have HS := hide hS
  have HW := hide hW
  have HT := hide hT
  clear hA hS hW hT
  have hb0 : Below w.heap.size w (w.alloc (.cells #[.slice la d.n lc, .slice ia d.m ic, .slice xa d.x xc, .int .i64 d.used, .int .i64 d.live, .int .i64 d.turns] 26)) := (Below.refl _ _).alloc (Nat.le_refl _) _
  have HB0 := hide hb0
  clear hb0
  refine (callsIn_wide (n := 20)).1 ?_
  refine callsIn_of_wp_marks Tryz.func21 rfl trivial ?_ rfl
  simp only [Tryz.ntmps21, List.size_toArray, List.length_cons, List.length_nil, Nat.reduceAdd, Nat.reduceSub, Array.replicate_succ, Array.replicate_zero, List.push_toArray, List.append_toArray, List.nil_append, List.cons_append]
  gi_wp2_with fail
  refine ⟨trivial, ?_⟩
  refine (callsIn_wide.2 (implOk la lc ia ic xa xc d _ (lastsT _ _ (unhide HT) (unhide HB0)) ((unhide HA).below (unhide HB0)) (unhide HS) (unhide HW))).mono ?_
  rintro e w1 ⟨rfl, hb1⟩
  obtain ⟨hc1, hf1⟩ := bcell hb1
  have hz1' := hb1.size
  simp at hz1'
  have y0 : w.heap.size < w1.heap.size := by omega
  have q0 : w1.cell? ⟨w.heap.size, 0, none⟩ = some (.slice la d.n lc) := by rw [hc1 _ _ (by simp)]; simp [go_sem]
  have q1 : w1.cell? ⟨w.heap.size, 1, none⟩ = some (.slice ia d.m ic) := by rw [hc1 _ _ (by simp)]; simp [go_sem]
  have q2 : w1.cell? ⟨w.heap.size, 2, none⟩ = some (.slice xa d.x xc) := by rw [hc1 _ _ (by simp)]; simp [go_sem]
  have q3 : w1.cell? ⟨w.heap.size, 3, none⟩ = some (.int .i64 d.used) := by rw [hc1 _ _ (by simp)]; simp [go_sem]
  have q4 : w1.cell? ⟨w.heap.size, 4, none⟩ = some (.int .i64 d.live) := by rw [hc1 _ _ (by simp)]; simp [go_sem]
  have q5 : w1.cell? ⟨w.heap.size, 5, none⟩ = some (.int .i64 d.turns) := by rw [hc1 _ _ (by simp)]; simp [go_sem]
  have HB1 := hide ((unhide HB0).trans (hb1.mono (unhide HB0).size))
  clear hb1 hc1 hf1 hz1'
  by_cases hk : dictOk d (hD d) = 0
  case neg =>
    have HR : Hid (prsN d = 0) := hide (if_neg hk)
    have hk' : (dictOk d (hD d) != 0) = true := by simp [hk]
    clear hk
    generalize dictOk d (hD d) = ok at hk'
    gi_wp2
    refine ⟨.slice none 0 0, ?_, ⟨_, rfl, by rw [unhide HR]; exact World.ownsRow_nil _ _ _ _⟩, unhide HB1⟩
    simp [results, Tryz.f21]
  have HR : Hid (prsN d = lvN d) := hide (if_pos hk)
  have HSd := hide (sound_of hk)
  rw [hk]
  clear hk
  have HBs : Hid (∀ o, Below w.heap.size w (w1.alloc o)) := hide (fun o => (unhide HB1).alloc (by omega) _)
  gi_wp2_with fail
  refine ⟨trivial, ?_⟩
  refine (callsIn_wide.2 (openBook_any la lc ia ic xa xc d _ ((unhide HA).below (unhide HBs _)) (unhide HS) (unhide HSd).d3 (unhide HSd).d4)).mono ?_
  rintro e w2 ⟨⟨bk, R0, R1, R2, E, S, rfl, hBk⟩, hb2⟩
  have hz2' := hb2.size
  simp at hz2'
  have yp : w1.heap.size < w2.heap.size := by omega
  have hp2 : w2.rowIs w1.heap.size 23 1 (fun _ => .slice none 0 0) := World.rowIs.of_block (World.rowIs_alloc w1 #[.slice none 0 0] 23 (fun _ => .slice none 0 0) (fun i hi => by
      have : i = 0 := by simpa using hi
      subst this
      rfl)) (hb2.block _ (by simp))
  have HB2 := hide ((unhide HBs _).trans (hb2.mono (unhide HBs _).size))
  have HBk := hide hBk
  have HP2 := hide hp2
  clear hb2 hBk hp2
  gi_wp2_with fail
  refine ⟨trivial, ?_⟩
  refine (callsIn_wide.2 (living_any bk _)).mono ?_
  rintro e w4 ⟨rfl, rfl⟩
  gi_wp2_with fail
  obtain ⟨u, hu⟩ : ∃ u, u = w2.alloc (.cells #[.pointer (some ⟨bk, 0, none⟩)] 77) := ⟨_, rfl⟩
  rw [← hu]
  have zu : u.heap.size = w2.heap.size + 1 := by rw [hu]; simp
  have b2u : Below w2.heap.size w2 u := by rw [hu]; exact (Below.refl _ _).alloc (Nat.le_refl _) _
  have mb0 : u.cell? ⟨w2.heap.size, 0, none⟩ = some (.pointer (some ⟨bk, 0, none⟩)) := by rw [hu]; simp [go_sem]
  clear hu
  have hBu := (unhide HBk).below b2u
  have hpu : u.rowIs w1.heap.size 23 1 (fun _ => .slice none 0 0) := (unhide HP2).of_block (b2u.block _ yp)
  have bwu : Below w.heap.size w u := (unhide HB2).trans (b2u.mono (unhide HB2).size)
  have ypu : w1.heap.size < u.heap.size := by omega
  have c0u : u.cell? ⟨w1.heap.size, 0, none⟩ = some (.slice none 0 0) := hpu.cell (i := 0) (by omega)
  have hRp : 0 < d.n → R0 < u.heap.size ∧ R0 ≠ w1.heap.size := fun h0 => ⟨hBu.l0, fun e => by
    have := hBu.r0 0 h0
    rw [e, c0u] at this
    cases this⟩
  have hEp : ∀ i, i < d.n → E i < u.heap.size ∧ E i ≠ w1.heap.size := fun i hi => ⟨(hBu.ent i hi).lt, fun e => by
    have := (hBu.ent i hi).k0
    rw [e, c0u] at this
    cases this⟩
  have hwu : w.heap.size ≤ u.heap.size := bwu.size
  clear zu HBk b2u q0 q1 q2 q3 q4 q5 c0u
  refine wpIn_rangeFunc_ownF rfl (by decide) (gf := 107) (lb := #[.pointer (some ⟨w2.heap.size, 0, none⟩)]) rfl trivial (enters_of Tryz.func107 (by kernel_rfl) rfl)
    (living_stopsP 19 (by decide) bk R0 R1 R2 w2.heap.size w1.heap.size u.heap.size E S d u hBu (unhide HS) hRp hEp mb0) KpB.trans (KpB.put (Nat.le_refl _)) (Below.refl _ _) (fun _ => rfl)
    (PrI w u w1.heap.size u.heap.size d)
    (fun c pre W => False)
    (PrI.own w u w1.heap.size u.heap.size u.heap.size d (Nat.le_refl _) (Nat.le_refl _) hwu)
    (fun c _ _ _ _ h => h.elim)
    ⟨.slice none 0 0, hpu, World.ownsRow_nil _ _ _ _, KpB.refl _ _ _, bwu⟩
    ?a1 ?assign ?body ?done ?stop
  case assign =>
    intro l x W K hK
    gi_wp2
    exact hK
  case body =>
    rintro l pre ⟨i, hi, ht⟩ W ⟨v, hp, hown, hkp, hbw⟩ hlen
    have hblk := hkp.block (E i) (hEp i hi).1 (hEp i hi).2
    obtain ⟨hel, k0, k1, k2, k3, k4, v0, v1, v2, v3, v4, tn, _, _⟩ := (hBu.ent i hi).keep hkp.size hblk
    have x0 := hp.cell (i := 0) (by omega)
    have fx := hp.frozen 0
    have hpl := hp.lt
    have hln := hown.lt
    have HOW := hide hown
    have HKP := hide hkp
    have HBW := hide hbw
    have HP := hide hp
    have hpre : pre.length ≤ d.n := by omega
    have hWs : u.heap.size ≤ W.heap.size := (unhide HKP).size
    have HOWd : Hid (POwn W.drew u.heap.size v pre.length (preF d pre)) := hide (unhide HOW).drew
    have HSN := hide (preF_snoc d pre ⟨i, hi, ht⟩)
    have HAPP : Hid (∀ (g3 cp3 : Nat) (w3 : World), w3.ownsRow u.heap.size 43 11 (.slice (some ⟨g3, 0, none⟩) (pre.length + 1) cp3) (pre.length + 1) (pL (preF d pre) pre.length ++ prL (d.L i)) → W.grownBy w3 v.ownBlock → (w3.cell? ⟨w1.heap.size, 0, none⟩ = some v ∧ w3.frozen? ⟨w1.heap.size, 0, none⟩ = false) ∧ KeepsOthers W (w3.setCell ⟨w1.heap.size, 0, none⟩ (.slice (some ⟨g3, 0, none⟩) (pre.length + 1) cp3)) ∧ KpB w1.heap.size u.heap.size W (w3.setCell ⟨w1.heap.size, 0, none⟩ (.slice (some ⟨g3, 0, none⟩) (pre.length + 1) cp3)) ∧
        PrI w u w1.heap.size u.heap.size d (pre ++ [⟨i, hi, ht⟩]) (w3.setCell ⟨w1.heap.size, 0, none⟩ (.slice (some ⟨g3, 0, none⟩) (pre.length + 1) cp3))) := hide (fun g3 cp3 w3 h1 h2 => by
      have hp1 : w3.rowIs w1.heap.size 23 1 (fun _ => v) := (unhide HP).of_block (h2.block _ hpl (fun e => by have := ((unhide HOW).lt _ e.symm).1; omega))
      have hg3 := (World.ownsRow.lt h1 g3 rfl).1
      have hkp : KpB w1.heap.size u.heap.size W (w3.setCell ⟨w1.heap.size, 0, none⟩ (.slice (some ⟨g3, 0, none⟩) (pre.length + 1) cp3)) := ⟨by simpa using h2.size, fun b h1 h2' => (Deep.blk_setCell_other _ _ _ _ (by exact h2')).trans (h2.block b (by omega) (fun e => by have := ((unhide HOW).lt _ e.symm).1; omega))⟩
      have hko : KeepsOthers W w3 := ⟨h2.size, fun k o hk hc => (h2.block k (Array.getElem?_eq_some_iff.1 hk).1 (fun e => by
        obtain ⟨_, ⟨hv, _⟩ | ⟨g, cap, cur, hv, hb, hblk, _⟩⟩ := unhide HOW
        · rw [hv] at e; cases e
        · rw [hv] at e
          have e' : k = g := by simpa [Value.ownBlock] using e
          rw [e', hblk] at hk
          cases hk
          cases hc)).trans hk⟩
      refine ⟨⟨hp1.cell (i := 0) (by omega), hp1.frozen 0⟩, hko.trans (KeepsOthers.setCell _ _ _), hkp, .slice (some ⟨g3, 0, none⟩) (pre.length + 1) cp3, (hp1.set 0 _).congr (fun q hq => by simp [show q = 0 by omega]), ?_, (unhide HKP).trans hkp, ?_⟩
      · have hl : (pre ++ [⟨i, hi, ht⟩] : List (Liv d)).length = pre.length + 1 := by simp
        rw [hl]
        refine World.ownsRow.kept (w := w3) ?_ (grown_setCell w3 _ _) (.inr (by simp [Value.ownBlock]; omega))
        rw [unhide HSN] at h1
        exact h1
      · exact ((unhide HBW).grown h2 (unhide HBW).size (fun k e => by have := ((unhide HOW).lt _ e).1; omega)).setCell (by show w.heap.size ≤ w1.heap.size; omega) _)
    clear hblk hown hkp hbw hp mb0
    gi_wp2
    refine wpIn_region_any (by kernel_rfl) ?_
    change wpAnyIn _ _ _ _ _ _ _ _ _ (World.drew _)
    refine wpAnyIn_ready (rs := [0, 1]) (by kernel_rfl) (by simp) ?_
    refine AllReadyIn.cons rfl (fun K hK => ?_) (AllReadyIn.cons rfl (fun K hK => ?_) AllReadyIn.nil)
    · go_simp
      refine hK _ _ ?_
      clear hK K
      refine wpAnyIn_ready (rs := [1]) (by kernel_rfl) (by simp) ?_
      refine AllReadyIn.cons rfl (fun K hK => ?_) AllReadyIn.nil
      go_simp
      refine hK _ _ ?_
      clear hK K
      refine wpAnyIn_ready (rs := [2]) (by kernel_rfl) (by simp) ?_
      refine AllReadyIn.cons rfl (fun K hK => ?_) AllReadyIn.nil
      go_simp
      refine hK _ _ ?_
      clear hK K
      refine wpAnyIn_ready (rs := [3]) (by kernel_rfl) (by simp) ?_
      refine AllReadyIn.cons rfl (fun K hK => ?_) AllReadyIn.nil
      go_simp
      refine hK _ _ ?_
      clear hK K
      refine wpAnyIn_ready (rs := [4]) (by kernel_rfl) (by simp) ?_
      refine AllReadyIn.cons rfl (fun K hK => ?_) AllReadyIn.nil
      go_simp
      refine hK _ _ ?_
      clear hK K
      refine wpAnyIn_ready (rs := [5]) (by kernel_rfl) (by simp) ?_
      refine AllReadyIn.cons rfl (fun K hK => ?_) AllReadyIn.nil
      go_simp
      refine hK _ _ ?_
      clear hK K
      refine wpAnyIn_ready (rs := [6]) (by kernel_rfl) (by simp) ?_
      refine AllReadyIn.cons rfl (fun K hK => ?_) AllReadyIn.nil
      rw [if_pos (by rfl)]
      refine wpIn_append_lies _ (.tmp 12) (.tmp 17) 23 rfl u.heap.size 43 i0 PZ 11 104 Tryz.underlying23 hi0 hz0 hz1 hz2 rfl (by decide) v pre.length (pL (preF d pre) pre.length) (by simp [Act.eval]) ((unhide HOWd).alloc _) ⟨W.heap.size, 0, none⟩ 1 1 (prL (d.L i)) (by simp [Act.eval]) rfl (World.news_of_block (Deep.blk_alloc_new _ _)) (prL_one _) (by decide) (by unfold maxLen; omega) (by omega) (by simp; omega) _ rfl ?_
      intro g3 cp3 w3 hown3 hgr3 hloc3 hlt3
      obtain ⟨⟨x3, f3⟩, HN3⟩ := unhide HAPP g3 cp3 w3 hown3 (grown_fromP hgr3)
      clear hown3 hgr3 hloc3
      refine hK _ _ ?_
      clear hK K
      refine wpAnyIn_ready (rs := [7]) (by kernel_rfl) (by simp) ?_
      refine AllReadyIn.cons rfl (fun K hK => ?_) AllReadyIn.nil
      go_simp
      refine hK _ _ ?_
      clear hK K
      refine wpAnyIn_done (by kernel_rfl) ?_ _
      gi_wp2
      exact HN3
    · go_simp
      refine hK _ _ ?_
      clear hK K
      refine wpAnyIn_ready (rs := [0, 2]) (by kernel_rfl) (by simp) ?_
      refine AllReadyIn.cons rfl (fun K hK => ?_) (AllReadyIn.cons rfl (fun K hK => ?_) AllReadyIn.nil)
      · go_simp
        refine hK _ _ ?_
        clear hK K
        refine wpAnyIn_ready (rs := [2]) (by kernel_rfl) (by simp) ?_
        refine AllReadyIn.cons rfl (fun K hK => ?_) AllReadyIn.nil
        go_simp
        refine hK _ _ ?_
        clear hK K
        refine wpAnyIn_ready (rs := [3]) (by kernel_rfl) (by simp) ?_
        refine AllReadyIn.cons rfl (fun K hK => ?_) AllReadyIn.nil
        go_simp
        refine hK _ _ ?_
        clear hK K
        refine wpAnyIn_ready (rs := [4]) (by kernel_rfl) (by simp) ?_
        refine AllReadyIn.cons rfl (fun K hK => ?_) AllReadyIn.nil
        go_simp
        refine hK _ _ ?_
        clear hK K
        refine wpAnyIn_ready (rs := [5]) (by kernel_rfl) (by simp) ?_
        refine AllReadyIn.cons rfl (fun K hK => ?_) AllReadyIn.nil
        go_simp
        refine hK _ _ ?_
        clear hK K
        refine wpAnyIn_ready (rs := [6]) (by kernel_rfl) (by simp) ?_
        refine AllReadyIn.cons rfl (fun K hK => ?_) AllReadyIn.nil
        rw [if_pos (by rfl)]
        refine wpIn_append_lies _ (.tmp 12) (.tmp 17) 23 rfl u.heap.size 43 i0 PZ 11 104 Tryz.underlying23 hi0 hz0 hz1 hz2 rfl (by decide) v pre.length (pL (preF d pre) pre.length) (by simp [Act.eval]) ((unhide HOWd).alloc _) ⟨W.heap.size, 0, none⟩ 1 1 (prL (d.L i)) (by simp [Act.eval]) rfl (World.news_of_block (Deep.blk_alloc_new _ _)) (prL_one _) (by decide) (by unfold maxLen; omega) (by omega) (by simp; omega) _ rfl ?_
        intro g3 cp3 w3 hown3 hgr3 hloc3 hlt3
        obtain ⟨⟨x3, f3⟩, HN3⟩ := unhide HAPP g3 cp3 w3 hown3 (grown_fromP hgr3)
        clear hown3 hgr3 hloc3
        refine hK _ _ ?_
        clear hK K
        refine wpAnyIn_ready (rs := [7]) (by kernel_rfl) (by simp) ?_
        refine AllReadyIn.cons rfl (fun K hK => ?_) AllReadyIn.nil
        go_simp
        refine hK _ _ ?_
        clear hK K
        refine wpAnyIn_done (by kernel_rfl) ?_ _
        gi_wp2
        exact HN3
      · go_simp
        refine hK _ _ ?_
        clear hK K
        refine wpAnyIn_ready (rs := [0, 3]) (by kernel_rfl) (by simp) ?_
        refine AllReadyIn.cons rfl (fun K hK => ?_) (AllReadyIn.cons rfl (fun K hK => ?_) AllReadyIn.nil)
        · go_simp
          refine hK _ _ ?_
          clear hK K
          refine wpAnyIn_ready (rs := [3]) (by kernel_rfl) (by simp) ?_
          refine AllReadyIn.cons rfl (fun K hK => ?_) AllReadyIn.nil
          go_simp
          refine hK _ _ ?_
          clear hK K
          refine wpAnyIn_ready (rs := [4]) (by kernel_rfl) (by simp) ?_
          refine AllReadyIn.cons rfl (fun K hK => ?_) AllReadyIn.nil
          go_simp
          refine hK _ _ ?_
          clear hK K
          refine wpAnyIn_ready (rs := [5]) (by kernel_rfl) (by simp) ?_
          refine AllReadyIn.cons rfl (fun K hK => ?_) AllReadyIn.nil
          go_simp
          refine hK _ _ ?_
          clear hK K
          refine wpAnyIn_ready (rs := [6]) (by kernel_rfl) (by simp) ?_
          refine AllReadyIn.cons rfl (fun K hK => ?_) AllReadyIn.nil
          rw [if_pos (by rfl)]
          refine wpIn_append_lies _ (.tmp 12) (.tmp 17) 23 rfl u.heap.size 43 i0 PZ 11 104 Tryz.underlying23 hi0 hz0 hz1 hz2 rfl (by decide) v pre.length (pL (preF d pre) pre.length) (by simp [Act.eval]) ((unhide HOWd).alloc _) ⟨W.heap.size, 0, none⟩ 1 1 (prL (d.L i)) (by simp [Act.eval]) rfl (World.news_of_block (Deep.blk_alloc_new _ _)) (prL_one _) (by decide) (by unfold maxLen; omega) (by omega) (by simp; omega) _ rfl ?_
          intro g3 cp3 w3 hown3 hgr3 hloc3 hlt3
          obtain ⟨⟨x3, f3⟩, HN3⟩ := unhide HAPP g3 cp3 w3 hown3 (grown_fromP hgr3)
          clear hown3 hgr3 hloc3
          refine hK _ _ ?_
          clear hK K
          refine wpAnyIn_ready (rs := [7]) (by kernel_rfl) (by simp) ?_
          refine AllReadyIn.cons rfl (fun K hK => ?_) AllReadyIn.nil
          go_simp
          refine hK _ _ ?_
          clear hK K
          refine wpAnyIn_done (by kernel_rfl) ?_ _
          gi_wp2
          exact HN3
        · go_simp
          refine hK _ _ ?_
          clear hK K
          refine wpAnyIn_ready (rs := [0, 4]) (by kernel_rfl) (by simp) ?_
          refine AllReadyIn.cons rfl (fun K hK => ?_) (AllReadyIn.cons rfl (fun K hK => ?_) AllReadyIn.nil)
          · go_simp
            refine hK _ _ ?_
            clear hK K
            refine wpAnyIn_ready (rs := [4]) (by kernel_rfl) (by simp) ?_
            refine AllReadyIn.cons rfl (fun K hK => ?_) AllReadyIn.nil
            go_simp
            refine hK _ _ ?_
            clear hK K
            refine wpAnyIn_ready (rs := [5]) (by kernel_rfl) (by simp) ?_
            refine AllReadyIn.cons rfl (fun K hK => ?_) AllReadyIn.nil
            go_simp
            refine hK _ _ ?_
            clear hK K
            refine wpAnyIn_ready (rs := [6]) (by kernel_rfl) (by simp) ?_
            refine AllReadyIn.cons rfl (fun K hK => ?_) AllReadyIn.nil
            rw [if_pos (by rfl)]
            refine wpIn_append_lies _ (.tmp 12) (.tmp 17) 23 rfl u.heap.size 43 i0 PZ 11 104 Tryz.underlying23 hi0 hz0 hz1 hz2 rfl (by decide) v pre.length (pL (preF d pre) pre.length) (by simp [Act.eval]) ((unhide HOWd).alloc _) ⟨W.heap.size, 0, none⟩ 1 1 (prL (d.L i)) (by simp [Act.eval]) rfl (World.news_of_block (Deep.blk_alloc_new _ _)) (prL_one _) (by decide) (by unfold maxLen; omega) (by omega) (by simp; omega) _ rfl ?_
            intro g3 cp3 w3 hown3 hgr3 hloc3 hlt3
            obtain ⟨⟨x3, f3⟩, HN3⟩ := unhide HAPP g3 cp3 w3 hown3 (grown_fromP hgr3)
            clear hown3 hgr3 hloc3
            refine hK _ _ ?_
            clear hK K
            refine wpAnyIn_ready (rs := [7]) (by kernel_rfl) (by simp) ?_
            refine AllReadyIn.cons rfl (fun K hK => ?_) AllReadyIn.nil
            go_simp
            refine hK _ _ ?_
            clear hK K
            refine wpAnyIn_done (by kernel_rfl) ?_ _
            gi_wp2
            exact HN3
          · go_simp
            refine hK _ _ ?_
            clear hK K
            refine wpAnyIn_ready (rs := [0, 5]) (by kernel_rfl) (by simp) ?_
            refine AllReadyIn.cons rfl (fun K hK => ?_) (AllReadyIn.cons rfl (fun K hK => ?_) AllReadyIn.nil)
            · go_simp
              refine hK _ _ ?_
              clear hK K
              refine wpAnyIn_ready (rs := [5]) (by kernel_rfl) (by simp) ?_
              refine AllReadyIn.cons rfl (fun K hK => ?_) AllReadyIn.nil
              go_simp
              refine hK _ _ ?_
              clear hK K
              refine wpAnyIn_ready (rs := [6]) (by kernel_rfl) (by simp) ?_
              refine AllReadyIn.cons rfl (fun K hK => ?_) AllReadyIn.nil
              rw [if_pos (by rfl)]
              refine wpIn_append_lies _ (.tmp 12) (.tmp 17) 23 rfl u.heap.size 43 i0 PZ 11 104 Tryz.underlying23 hi0 hz0 hz1 hz2 rfl (by decide) v pre.length (pL (preF d pre) pre.length) (by simp [Act.eval]) ((unhide HOWd).alloc _) ⟨W.heap.size, 0, none⟩ 1 1 (prL (d.L i)) (by simp [Act.eval]) rfl (World.news_of_block (Deep.blk_alloc_new _ _)) (prL_one _) (by decide) (by unfold maxLen; omega) (by omega) (by simp; omega) _ rfl ?_
              intro g3 cp3 w3 hown3 hgr3 hloc3 hlt3
              obtain ⟨⟨x3, f3⟩, HN3⟩ := unhide HAPP g3 cp3 w3 hown3 (grown_fromP hgr3)
              clear hown3 hgr3 hloc3
              refine hK _ _ ?_
              clear hK K
              refine wpAnyIn_ready (rs := [7]) (by kernel_rfl) (by simp) ?_
              refine AllReadyIn.cons rfl (fun K hK => ?_) AllReadyIn.nil
              go_simp
              refine hK _ _ ?_
              clear hK K
              refine wpAnyIn_done (by kernel_rfl) ?_ _
              gi_wp2
              exact HN3
            · go_simp
              refine hK _ _ ?_
              clear hK K
              refine wpAnyIn_ready (rs := [0]) (by kernel_rfl) (by simp) ?_
              refine AllReadyIn.cons rfl (fun K hK => ?_) AllReadyIn.nil
              go_simp
              refine hK _ _ ?_
              clear hK K
              refine wpAnyIn_ready (rs := [6]) (by kernel_rfl) (by simp) ?_
              refine AllReadyIn.cons rfl (fun K hK => ?_) AllReadyIn.nil
              rw [if_pos (by rfl)]
              refine wpIn_append_lies _ (.tmp 12) (.tmp 17) 23 rfl u.heap.size 43 i0 PZ 11 104 Tryz.underlying23 hi0 hz0 hz1 hz2 rfl (by decide) v pre.length (pL (preF d pre) pre.length) (by simp [Act.eval]) ((unhide HOWd).alloc _) ⟨W.heap.size, 0, none⟩ 1 1 (prL (d.L i)) (by simp [Act.eval]) rfl (World.news_of_block (Deep.blk_alloc_new _ _)) (prL_one _) (by decide) (by unfold maxLen; omega) (by omega) (by simp; omega) _ rfl ?_
              intro g3 cp3 w3 hown3 hgr3 hloc3 hlt3
              obtain ⟨⟨x3, f3⟩, HN3⟩ := unhide HAPP g3 cp3 w3 hown3 (grown_fromP hgr3)
              clear hown3 hgr3 hloc3
              refine hK _ _ ?_
              clear hK K
              refine wpAnyIn_ready (rs := [7]) (by kernel_rfl) (by simp) ?_
              refine AllReadyIn.cons rfl (fun K hK => ?_) AllReadyIn.nil
              go_simp
              refine hK _ _ ?_
              clear hK K
              refine wpAnyIn_done (by kernel_rfl) ?_ _
              gi_wp2
              exact HN3
  case done =>
    rintro D ys W hD hlv ⟨v, hp, hown, hkp, hbw⟩ hK
    have hlv' : ys.map (·.1) = livL d d.n := hlv
    have hlen : ys.length = lvN d := by have := congrArg List.length hlv'; rwa [List.length_map] at this
    have hpre := preF_all hlv'
    rw [hlen, hpre] at hown
    have x0 := hp.cell (i := 0) (by omega)
    have HOW := hide hown
    have HBW := hide hbw
    have hpl := hp.lt
    clear hlv hlv' hlen hpre hp hown hkp hbw
    gi_wp2
    refine ⟨by simp, .inl ⟨_, _, rfl, run_takeDeferred hK, ?_⟩⟩
    refine ⟨v, ?_, ⟨v, rfl, ?_⟩, (unhide HBW).trans (belowK_b (w := w) (Nat.le_refl _) W D _ _ (by omega) hK rfl rfl)⟩
    · simp [results, Tryz.f21]
    · rw [unhide HR]
      exact own_mono (own_keptO (D := D) (unhide HOW) (grownBy_putObj' W D (.deferred none)) (fun r e => by cases e; exact ⟨Nat.le_refl _, _, hK, rfl⟩)) hwu
  case stop =>
    rintro D c pre W hD hpre h hK
    exact h.elim
end Go.Proofs.YtglcaejddckleaaGreatDoor
namespace Go.Proofs.YtglcaejddckleaaGreatDoor
open Go.RowKit Go.Shelf
set_option linter.unusedVariables false
attribute [local go_sem] run_store_float run_equalIn_float

/-- The law's dict, in its box. -/
structure Db (w : World) (b : Nat) (la : Option Addr) (lc : Nat) (ia : Option Addr) (ic : Nat) (xa : Option Addr) (xc : Nat) (d : Dc) : Prop where
  lt : b < w.heap.size
  c0 : w.cell? ⟨b, 0, none⟩ = some (.slice la d.n lc)
  c1 : w.cell? ⟨b, 1, none⟩ = some (.slice ia d.m ic)
  c2 : w.cell? ⟨b, 2, none⟩ = some (.slice xa d.x xc)
  c3 : w.cell? ⟨b, 3, none⟩ = some (.int .i64 d.used)
  c4 : w.cell? ⟨b, 4, none⟩ = some (.int .i64 d.live)
  c5 : w.cell? ⟨b, 5, none⟩ = some (.int .i64 d.turns)
  at' : DAt w la ia xa d
  tabs : Tabs w
theorem Db.below {w w' : World} {b : Nat} {la : Option Addr} {lc : Nat} {ia : Option Addr} {ic : Nat} {xa : Option Addr} {xc : Nat} {d : Dc} (h : Db w b la lc ia ic xa xc d) (hb : Below w.heap.size w w') : Db w' b la lc ia ic xa xc d :=
  ⟨Nat.lt_of_lt_of_le h.lt hb.size, (hb.cell (p := ⟨b, 0, none⟩) h.lt).trans h.c0, (hb.cell (p := ⟨b, 1, none⟩) h.lt).trans h.c1, (hb.cell (p := ⟨b, 2, none⟩) h.lt).trans h.c2, (hb.cell (p := ⟨b, 3, none⟩) h.lt).trans h.c3, (hb.cell (p := ⟨b, 4, none⟩) h.lt).trans h.c4, (hb.cell (p := ⟨b, 5, none⟩) h.lt).trans h.c5, h.at'.below hb, h.tabs.below hb h.tabs.sz⟩
theorem keyV_int (n : Int) : keyV 2 n 0 ⟨#[]⟩ 0 = KV 0 2 n 0 ⟨#[]⟩ 0 := by
  have : validB 2 n 0 ⟨#[]⟩ 0 = true := ok_int n
  unfold keyV
  rw [if_pos this]
  rfl

theorem field_found (b : Bool) (p : Pr) (w : World) : (Instr.field 47 (FV b p) 0).run Tryz.prog w = .ok (.bool b) w := by kernel_rfl
theorem field_kind (v : Vl) (w : World) : (Instr.field 30 (VV v) 0).run Tryz.prog w = .ok (.int .i64 v.kind) w := by kernel_rfl

set_option maxRecDepth 100000 in
set_option maxHeartbeats 4000000 in
theorem law_through (a : Option Addr) (len cap : Nat) (w : World) (hT : Tabs w) (hcode : CodeAt w w.heap.size a len) (hle : (len : Int) ≤ 1048576) :
    Calls Tryz.prog 4 #[.slice a len cap] w fun e w' => e = .returned (.bool true) ∧ Below w.heap.size w w' := by
  have HCode := hide hcode
  have HT := hide hT
  clear hcode hT
  go_enter Tryz.func4, Tryz.ntmps4
  go_wp2_with fail
  refine (dicts_any a len cap _ (unhide HCode)).mono ?_
  rintro e w1 ⟨⟨la, lc, ia, ic, xa, xc, d, rfl, hA, hI, hW, hm, -⟩, hb1⟩
  obtain ⟨W1, hW1⟩ : ∃ W1, W1 = w1.alloc (.cells #[.slice la d.n lc, .slice ia d.m ic, .slice xa d.x xc, .int .i64 d.used, .int .i64 d.live, .int .i64 d.turns] 26) := ⟨_, rfl⟩
  have hba : Below w1.heap.size w1 W1 := by rw [hW1]; exact (Below.refl _ _).alloc (Nat.le_refl _) _
  have hB0 := hb1.trans (hba.mono hb1.size)
  have hDb : Db W1 w1.heap.size la lc ia ic xa xc d := ⟨by rw [hW1]; simp, by rw [hW1]; simp [go_sem], by rw [hW1]; simp [go_sem], by rw [hW1]; simp [go_sem], by rw [hW1]; simp [go_sem], by rw [hW1]; simp [go_sem], by rw [hW1]; simp [go_sem], hA.below hba, (unhide HT).below hB0 (unhide HT).sz⟩
  have hS : Small d := hI.small (by omega)
  have hsn := hS.n
  have HS := hide hS
  have HI := hide hI
  have HW := hide hW
  have HB := hide hB0
  have HD := hide hDb
  have hk0 := inv_ok hI
  have hpn : prsN d = lvN d := if_pos hk0
  have hlen : lenOut d = (lenN d : Int) := if_pos hk0
  have hln : lvN d ≤ d.n := by
    have := List.length_filter_le (fun i => (d.L i).turn != 0) (List.range d.n)
    rw [List.length_range] at this
    exact this
  have hlm : lenN d ≤ d.m := (len_facts d).1
  have HPN := hide hpn
  have HLN := hide hlen
  obtain ⟨D, hD⟩ : ∃ D, D = w1.heap.size := ⟨_, rfl⟩
  have q0 := hDb.c0
  have q1 := hDb.c1
  have q2 := hDb.c2
  have q3 := hDb.c3
  have q4 := hDb.c4
  have q5 := hDb.c5
  have ql := hDb.lt
  rw [← hD] at q0 q1 q2 q3 q4 q5 ql HD
  clear hA hI hW hb1 hba hB0 hDb hS hk0 hpn hlen HT
  go_wp2_with fail
  rw [← hW1, ← hD]
  clear hW1 hD
  refine (implPairs la lc ia ic xa xc d _ (unhide HD).tabs (unhide HD).at' (unhide HS) (unhide HW)).mono ?_
  rintro e w2 ⟨⟨pv, rfl, hP⟩, hb2⟩
  rw [unhide HPN] at hP
  obtain ⟨pa, pc, rfl, hPA⟩ := hP.at
  have HB2 := hide ((unhide HB).trans (hb2.mono (unhide HB).size))
  have HD2 := hide ((unhide HD).below hb2)
  have HP := hide hPA
  clear hP hPA hb2 HB HD q0 q1 q2 q3 q4 q5 ql
  have q0 := (unhide HD2).c0
  have q1 := (unhide HD2).c1
  have q2 := (unhide HD2).c2
  have q3 := (unhide HD2).c3
  have q4 := (unhide HD2).c4
  have q5 := (unhide HD2).c5
  go_wp2_with fail
  refine (specPairs la lc ia ic xa xc d _ (unhide HD2).at' (unhide HS) (unhide HW)).mono ?_
  rintro e w3 ⟨⟨sv, rfl, hP⟩, hb3⟩
  rw [unhide HPN] at hP
  obtain ⟨sa, sc, rfl, hSA⟩ := hP.at
  have HB3 := hide ((unhide HB2).trans (hb3.mono (unhide HB2).size))
  have HD3 := hide ((unhide HD2).below hb3)
  have HP3 := hide ((unhide HP).below hb3 rfl)
  have HS3 := hide hSA
  clear hP hSA hb3 HB2 HD2 HP q0 q1 q2 q3 q4 q5
  go_wp2_with fail
  refine (wPairs_same pa sa (lvN d) pc sc (lvF d) _ (unhide HP3) (unhide HS3) (by omega)).mono ?_
  rintro e w4 ⟨rfl, hb4⟩
  have HB4 := hide ((unhide HB3).trans (hb4.mono (unhide HB3).size))
  have HD4 := hide ((unhide HD3).below hb4)
  have HP4 := hide ((unhide HP3).below hb4 rfl)
  clear hb4 HB3 HD3 HP3 HS3
  go_wp2
  go_loopw [25, 5] (fun i t wr => ∃ (k : Nat), k ≤ lvN d ∧ i = .int .i64 k ∧ t = .int .i64 (tB d k) ∧ Below w.heap.size w wr ∧ Below w4.heap.size w4 wr) (fun i _ _ => lvN d - (intOf i).toNat)
  case atStart => exact ⟨0, by omega, rfl, rfl, unhide HB4, Below.refl _ _⟩
  case round =>
    obtain ⟨k, hk, rfl, rfl, hb, hb'⟩ := hrel
    have hDr := (unhide HD4).below hb'
    have q0 := hDr.c0
    have q1 := hDr.c1
    have q2 := hDr.c2
    have q3 := hDr.c3
    have q4 := hDr.c4
    have q5 := hDr.c5
    have ql := hDr.lt
    have HDr := hide hDr
    have HBr := hide hb
    have HBx := hide hb'
    clear hDr
    by_cases hlt : k < lvN d
    · obtain ⟨b, off, rfl, hbl, hcs⟩ := (unhide HP4).resolve_left (by omega)
      obtain ⟨e0, e1, e2, e3, e4, e5, e6, e7, e8, e9, e10⟩ := (hcs k hlt).keep (fun q => hb'.cell (p := ⟨b, q, none⟩) hbl)
      have hx : b < wr.heap.size := Nat.lt_of_lt_of_le hbl hb'.size
      have HO := hide (through_hit (unhide HI) hlt)
      have hza : Below wr.heap.size wr (wr.alloc (.cells #[.int .i64 (lvF d k).key.kind, .int .i64 (lvF d k).key.num, .float .f64 (lvF d k).key.flt, .string (lvF d k).key.str, .int .i64 (lvF d k).key.ref, .int .i64 (lvF d k).val.kind, .int .i64 (lvF d k).val.num, .float .f64 (lvF d k).val.flt, .string (lvF d k).val.str, .int .i64 (lvF d k).val.ref, .int .i64 (lvF d k).turn] 43)) := (Below.refl _ _).alloc (Nat.le_refl _) _
      have HZA := hide hza
      clear hcs hb hb' hza
      go_wp2_with fail
      refine (implAfter la lc ia ic xa xc d (tB d k) _ ((unhide HDr).below (unhide HZA)).tabs ((unhide HDr).below (unhide HZA)).at' (unhide HS) (unhide HW)).mono ?_
      rintro e w5 ⟨rfl, hb5⟩
      rw [unhide HO]
      have hzb := hb5.size
      simp at hzb
      have pc0 : ∀ o, w5.cell? ⟨wr.heap.size, o, none⟩ = _ := fun o => hb5.cell (p := ⟨wr.heap.size, o, none⟩) (by simp)
      have hz5 : wr.heap.size < w5.heap.size := by omega
      have HB5 := hide ((unhide HZA).trans (hb5.mono (unhide HZA).size))
      clear hb5 e0 e1 e2 e3 e4 e5 e6 e7 e8 e9 e10 q0 q1 q2 q3 q4 q5
      go_wp2_with fail
      refine (wPair_self (lvF d k) _).mono ?_
      rintro e w6 ⟨rfl, hb6⟩
      have s10 : w6.cell? ⟨wr.heap.size, 10, none⟩ = some (.int .i64 (lvF d k).turn) := (hb6.cell (p := ⟨wr.heap.size, 10, none⟩) (by simp; omega)).trans ((World.cell?_alloc_lt _ _ _ (by exact hz5)).trans ((pc0 10).trans (by simp [go_sem])))
      have hbF := (unhide HB5).alloc (B := wr.heap.size) (by omega) (.cells #[.bool true, .int .i64 (lvF d k).key.kind, .int .i64 (lvF d k).key.num, .float .f64 (lvF d k).key.flt, .string (lvF d k).key.str, .int .i64 (lvF d k).key.ref, .int .i64 (lvF d k).val.kind, .int .i64 (lvF d k).val.num, .float .f64 (lvF d k).val.flt, .string (lvF d k).val.str, .int .i64 (lvF d k).val.ref, .int .i64 (lvF d k).turn] 47)
      have hb7 := hbF.trans (hb6.mono hbF.size)
      have HB7 := hide ((unhide HBr).trans (hb7.mono (unhide HBr).size))
      have HB8 := hide ((unhide HBx).trans (hb7.mono (unhide HBx).size))
      clear hb6 hbF hb7 pc0
      go_wp2
      go_roundw
      case rel => exact ⟨k + 1, by omega, by go_num, rfl, unhide HB7, unhide HB8⟩
      case measure => simp [intOf]; omega
    · have hkn : k = lvN d := by omega
      subst hkn
      have HO := hide (through_end (unhide HI))
      clear hb hb'
      go_wp2_with fail
      refine (implAfter la lc ia ic xa xc d (tB d (lvN d)) _ (unhide HDr).tabs (unhide HDr).at' (unhide HS) (unhide HW)).mono ?_
      rintro e w5 ⟨rfl, hb5⟩
      rw [unhide HO]
      have hD5 := (unhide HDr).below hb5
      have HB5 := hide ((unhide HBr).trans (hb5.mono (unhide HBr).size))
      clear hb5 q0 q1 q2 q3 q4 q5 ql
      have q0 := hD5.c0
      have q1 := hD5.c1
      have q2 := hD5.c2
      have q3 := hD5.c3
      have q4 := hD5.c4
      have q5 := hD5.c5
      have ql := hD5.lt
      have HD5 := hide hD5
      have ff := field_found false default
      clear hD5
      go_wp2_with fail
      refine (implLen la lc ia ic xa xc d _ (unhide HD5).tabs (unhide HD5).at' (unhide HS) (unhide HW)).mono ?_
      rintro e w6 ⟨rfl, hb6⟩
      rw [unhide HLN]
      have HD6 := hide ((unhide HD5).below hb6)
      have HB6 := hide ((unhide HB5).trans (hb6.mono (unhide HB5).size))
      clear hb6 q0 q1 q2 q3 q4 q5 ql
      go_wp2
      go_loopw [10] (fun i wz => ∃ (j : Nat), 1 ≤ j ∧ j ≤ lenN d + 1 ∧ i = .int .i64 j ∧ Below w.heap.size w wz ∧ Db wz D la lc ia ic xa xc d) (fun i _ => lenN d + 1 - (intOf i).toNat)
      case atStart => exact ⟨1, by omega, by omega, rfl, unhide HB6, unhide HD6⟩
      case round =>
        obtain ⟨j, hj1, hj2, rfl, hbz, hDz⟩ := hrel
        have q0 := hDz.c0
        have q1 := hDz.c1
        have q2 := hDz.c2
        have q3 := hDz.c3
        have q4 := hDz.c4
        have q5 := hDz.c5
        have ql := hDz.lt
        have HDz := hide hDz
        have HBz := hide hbz
        clear hDz hbz HD6 HB6 HD5 HB5 HDr HBr HBx HD4 HB4 HP4
        by_cases hjl : j ≤ lenN d
        · have HG := hide (get_in (unhide HI) hj1 hjl)
          go_wp2_with fail
          refine (implGet la lc ia ic xa xc d (intV j) 0 (intV j) _ (unhide HDz).at' (unhide HS) (unhide HW) (keyV_int j) (fun _ => hsI_all _ (ky_int _)) (unhide HDz).tabs).mono ?_
          rintro e w7 ⟨rfl, hb7⟩
          have hkb : ((getV d 0 (intV j)).kind == 0) = false := by simpa using unhide HG
          have fk := field_kind (getV d 0 (intV j))
          have HD7 := hide ((unhide HDz).below hb7)
          have HB7 := hide ((unhide HBz).trans (hb7.mono (unhide HBz).size))
          clear hb7 HDz HBz HG q0 q1 q2 q3 q4 q5 ql
          go_wp2
          go_roundw
          case rel => exact ⟨j + 1, by omega, by omega, by go_num, unhide HB7, unhide HD7⟩
          case measure => simp [intOf]; omega
        · have hjn : j = lenN d + 1 := by omega
          subst hjn
          have HG := hide (get_out (unhide HI))
          go_wp2_with fail
          refine (implGet la lc ia ic xa xc d (intV ((lenN d : Int) + 1)) 0 (intV ((lenN d : Int) + 1)) _ (unhide HDz).at' (unhide HS) (unhide HW) (keyV_int _) (fun _ => hsI_all _ (ky_int _)) (unhide HDz).tabs).mono ?_
          rintro e w7 ⟨rfl, hb7⟩
          have fk := field_kind (getV d 0 (intV ((lenN d : Int) + 1)))
          rw [unhide HG] at fk
          have HB7 := hide ((unhide HBz).trans (hb7.mono (unhide HBz).size))
          clear hb7 HDz HBz HG q0 q1 q2 q3 q4 q5 ql
          go_wp2
          go_ret
          exact ⟨rfl, unhide HB7⟩
end Go.Proofs.YtglcaejddckleaaGreatDoor
