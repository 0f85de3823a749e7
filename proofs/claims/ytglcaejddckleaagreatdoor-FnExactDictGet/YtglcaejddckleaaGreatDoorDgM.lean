/-
  DgA, DgB, DgC in one text.
-/
import Derived.Test.YtglcaejddckleaaGreatDoorDkN
import Derived.Test.YtglcaejddckleaaGreatDoorDkM
import Derived.Deep.RegionHeld3
namespace Go.Proofs.YtglcaejddckleaaGreatDoor
open Go.RowKit
set_option linter.unusedVariables false
attribute [local go_sem] run_store_float run_equalIn_float

abbrev VV (v : Vl) : Value := V v.kind v.num v.flt v.str v.ref
/-- KeyOf of a value: its code, and the key. -/
theorem keyed (v : Vl) (hw : Wf v) : ∃ (c : Int) (kv : Vl), keyV v.kind v.num v.flt v.str v.ref = KV c kv.kind kv.num kv.flt kv.str kv.ref ∧ (c = 0 → HsS kv (hN kv) ∧ HsI Tabs kv (hN kv)) := by
  obtain ⟨c, k, n, f, t, r, hk, hh⟩ := keyV_hash v.kind v.num v.flt v.str v.ref hw.str hw.flt
  refine ⟨c, ⟨k, n, f, t, r⟩, hk, fun hc => ?_⟩
  have hK := hh hc
  have hr := hashI_range k n f t r
  have he : ((hN ⟨k, n, f, t, r⟩ : Nat) : Int) = hashI k n f t r := hN_eq ⟨k, n, f, t, r⟩
  exact ⟨⟨by omega, fun w => by rw [he]; exact l1hash_any k n f t r w hK⟩, ⟨by omega, fun w hT => by rw [he]; exact hashKey_any k n f t r w hK hT⟩⟩
/-- What is at a place. -/
def atPlace (d : Dc) (p : Int) : Vl := if 0 ≤ p then (d.L p.toNat).val else default
open Classical in
noncomputable def getV (d : Dc) (c : Int) (kv : Vl) : Vl := if dictOk d (hD d) = 0 ∧ c = 0 then atPlace d (placeI d kv (hN kv)) else default

set_option maxRecDepth 100000 in
set_option maxHeartbeats 2000000 in
theorem specGet (la : Option Addr) (lc : Nat) (ia : Option Addr) (ic : Nat) (xa : Option Addr) (xc : Nat) (d : Dc) (v : Vl) (c : Int) (kv : Vl) (w : World) (hA : DAt w la ia xa d) (hS : Small d) (hW : WfD d) (hk : keyV v.kind v.num v.flt v.str v.ref = KV c kv.kind kv.num kv.flt kv.str kv.ref) (hh : c = 0 → HsS kv (hN kv)) :
    Calls Tryz.prog 33 #[Dv la lc ia ic xa xc d, VV v] w fun e w' => e = .returned (VV (getV d c kv)) ∧ Below w.heap.size w w' := by
  have HA := hide hA
  have HS := hide hS
  have HW := hide hW
  have HKV := hide hk
  have HH := hide hh
  clear hA hS hW hk hh
  have hb0 : Below w.heap.size w (((w.alloc (.cells #[.slice la d.n lc, .slice ia d.m ic, .slice xa d.x xc, .int .i64 d.used, .int .i64 d.live, .int .i64 d.turns] 26)).alloc (.cells #[.int .i64 v.kind, .int .i64 v.num, .float .f64 v.flt, .string v.str, .int .i64 v.ref] 30)).alloc (.cells #[.int .i64 0, .int .i64 0, .float .f64 0, .string ⟨#[]⟩, .int .i64 0] 30)) := (((Below.refl _ _).alloc (Nat.le_refl _) _).alloc (by simp) _).alloc (by simp; omega) _
  have HB0 := hide hb0
  clear hb0
  go_enter Tryz.func33, Tryz.ntmps33
  go_wp2_with fail
  refine (skey_any v.kind v.num v.flt v.str v.ref _).mono ?_
  rintro e w1 ⟨rfl, hb1⟩
  rw [unhide HKV]
  obtain ⟨hc1, hf1⟩ := bcell hb1
  have hz1 := hb1.size
  simp at hz1
  have y0 : w.heap.size < w1.heap.size := by omega
  have y2 : w.heap.size + 1 + 1 < w1.heap.size := by omega
  have q0 : w1.cell? ⟨w.heap.size, 0, none⟩ = some (.slice la d.n lc) := by rw [hc1 _ _ (by simp; omega)]; simp [go_sem]
  have q1 : w1.cell? ⟨w.heap.size, 1, none⟩ = some (.slice ia d.m ic) := by rw [hc1 _ _ (by simp; omega)]; simp [go_sem]
  have q2 : w1.cell? ⟨w.heap.size, 2, none⟩ = some (.slice xa d.x xc) := by rw [hc1 _ _ (by simp; omega)]; simp [go_sem]
  have q3 : w1.cell? ⟨w.heap.size, 3, none⟩ = some (.int .i64 d.used) := by rw [hc1 _ _ (by simp; omega)]; simp [go_sem]
  have q4 : w1.cell? ⟨w.heap.size, 4, none⟩ = some (.int .i64 d.live) := by rw [hc1 _ _ (by simp; omega)]; simp [go_sem]
  have q5 : w1.cell? ⟨w.heap.size, 5, none⟩ = some (.int .i64 d.turns) := by rw [hc1 _ _ (by simp; omega)]; simp [go_sem]
  have r0 : w1.cell? ⟨w.heap.size + 1 + 1, 0, none⟩ = some (.int .i64 0) := by rw [hc1 _ _ (by simp)]; simp [go_sem]
  have r1 : w1.cell? ⟨w.heap.size + 1 + 1, 1, none⟩ = some (.int .i64 0) := by rw [hc1 _ _ (by simp)]; simp [go_sem]
  have r2 : w1.cell? ⟨w.heap.size + 1 + 1, 2, none⟩ = some (.float .f64 0) := by rw [hc1 _ _ (by simp)]; simp [go_sem]
  have r3 : w1.cell? ⟨w.heap.size + 1 + 1, 3, none⟩ = some (.string ⟨#[]⟩) := by rw [hc1 _ _ (by simp)]; simp [go_sem]
  have r4 : w1.cell? ⟨w.heap.size + 1 + 1, 4, none⟩ = some (.int .i64 0) := by rw [hc1 _ _ (by simp)]; simp [go_sem]
  have fr : ∀ o, w1.frozen? ⟨w.heap.size + 1 + 1, o, none⟩ = false := fun o => by rw [hf1 _ _ (by simp)]; simp [go_sem]
  have HB1 := hide ((unhide HB0).trans (hb1.mono (unhide HB0).size))
  have HBs1 : Hid (∀ o, Below w.heap.size w (w1.alloc o)) := hide (fun o => (unhide HB1).alloc (by omega) _)
  clear hb1 hc1 hf1
  go_wp2_with fail
  refine (specOk la lc ia ic xa xc d _ ((unhide HA).below (unhide HBs1 _)) (unhide HS) (unhide HW)).mono ?_
  rintro e w2 ⟨rfl, hb2⟩
  obtain ⟨hc2, hf2⟩ := bcell hb2
  have hz2 := hb2.size
  simp at hz2
  have z0 : w.heap.size < w2.heap.size := by omega
  have z2 : w.heap.size + 1 + 1 < w2.heap.size := by omega
  have z3 : w1.heap.size < w2.heap.size := by omega
  have q0' : w2.cell? ⟨w.heap.size, 0, none⟩ = some (.slice la d.n lc) := by rw [hc2 _ _ (by simp; omega), World.cell?_alloc_lt _ _ _ (by exact y0)]; exact q0
  have q1' : w2.cell? ⟨w.heap.size, 1, none⟩ = some (.slice ia d.m ic) := by rw [hc2 _ _ (by simp; omega), World.cell?_alloc_lt _ _ _ (by exact y0)]; exact q1
  have q2' : w2.cell? ⟨w.heap.size, 2, none⟩ = some (.slice xa d.x xc) := by rw [hc2 _ _ (by simp; omega), World.cell?_alloc_lt _ _ _ (by exact y0)]; exact q2
  have q3' : w2.cell? ⟨w.heap.size, 3, none⟩ = some (.int .i64 d.used) := by rw [hc2 _ _ (by simp; omega), World.cell?_alloc_lt _ _ _ (by exact y0)]; exact q3
  have q4' : w2.cell? ⟨w.heap.size, 4, none⟩ = some (.int .i64 d.live) := by rw [hc2 _ _ (by simp; omega), World.cell?_alloc_lt _ _ _ (by exact y0)]; exact q4
  have q5' : w2.cell? ⟨w.heap.size, 5, none⟩ = some (.int .i64 d.turns) := by rw [hc2 _ _ (by simp; omega), World.cell?_alloc_lt _ _ _ (by exact y0)]; exact q5
  have r0' : w2.cell? ⟨w.heap.size + 1 + 1, 0, none⟩ = some (.int .i64 0) := by rw [hc2 _ _ (by simp; omega), World.cell?_alloc_lt _ _ _ (by exact y2)]; exact r0
  have r1' : w2.cell? ⟨w.heap.size + 1 + 1, 1, none⟩ = some (.int .i64 0) := by rw [hc2 _ _ (by simp; omega), World.cell?_alloc_lt _ _ _ (by exact y2)]; exact r1
  have r2' : w2.cell? ⟨w.heap.size + 1 + 1, 2, none⟩ = some (.float .f64 0) := by rw [hc2 _ _ (by simp; omega), World.cell?_alloc_lt _ _ _ (by exact y2)]; exact r2
  have r3' : w2.cell? ⟨w.heap.size + 1 + 1, 3, none⟩ = some (.string ⟨#[]⟩) := by rw [hc2 _ _ (by simp; omega), World.cell?_alloc_lt _ _ _ (by exact y2)]; exact r3
  have r4' : w2.cell? ⟨w.heap.size + 1 + 1, 4, none⟩ = some (.int .i64 0) := by rw [hc2 _ _ (by simp; omega), World.cell?_alloc_lt _ _ _ (by exact y2)]; exact r4
  have k0 : w2.cell? ⟨w1.heap.size, 0, none⟩ = some (.int .i64 c) := by rw [hc2 _ _ (by simp)]; simp [go_sem]
  have k1 : w2.cell? ⟨w1.heap.size, 1, none⟩ = some (.int .i64 kv.kind) := by rw [hc2 _ _ (by simp)]; simp [go_sem]
  have k2 : w2.cell? ⟨w1.heap.size, 2, none⟩ = some (.int .i64 kv.num) := by rw [hc2 _ _ (by simp)]; simp [go_sem]
  have k3 : w2.cell? ⟨w1.heap.size, 3, none⟩ = some (.float .f64 kv.flt) := by rw [hc2 _ _ (by simp)]; simp [go_sem]
  have k4 : w2.cell? ⟨w1.heap.size, 4, none⟩ = some (.string kv.str) := by rw [hc2 _ _ (by simp)]; simp [go_sem]
  have k5 : w2.cell? ⟨w1.heap.size, 5, none⟩ = some (.int .i64 kv.ref) := by rw [hc2 _ _ (by simp)]; simp [go_sem]
  have fr2 : ∀ o, w2.frozen? ⟨w.heap.size + 1 + 1, o, none⟩ = false := fun o => by rw [hf2 _ _ (by simp; omega)]; exact (((Below.refl w1.heap.size w1).alloc (Nat.le_refl _) _).frozen (p := ⟨w.heap.size + 1 + 1, o, none⟩) y2).trans (fr o)
  have HB2 := hide ((unhide HBs1 _).trans (hb2.mono (unhide HBs1 _).size))
  clear hb2 hc2 hf2 fr q0 q1 q2 q3 q4 q5 r0 r1 r2 r3 r4
  by_cases hok : dictOk d (hD d) = 0
  case neg =>
    have HR : Hid (getV d c kv = default) := hide (if_neg (fun h => hok h.1))
    have hk' : (dictOk d (hD d) != 0) = true := by simp [hok]
    clear hok
    generalize dictOk d (hD d) = ok at hk'
    go_wp2
    refine bodyPost_ret (v := .agg #[.int .i64 0, .int .i64 0, .float .f64 0, .string ⟨#[]⟩, .int .i64 0]) (by simp [results, Tryz.results33, go_sem, r0', r1', r2', r3', r4']) rfl ⟨by rw [unhide HR]; rfl, ?_⟩
    iterate 5 (refine Below.setCell ?_ (by show w.heap.size ≤ w.heap.size + 1 + 1; omega) _)
    exact unhide HB2
  by_cases hc : c = 0
  case neg =>
    have HR : Hid (getV d c kv = default) := hide (if_neg (fun h => hc h.2))
    have hc' : (c != 0) = true := by simp [hc]
    rw [hok]
    clear hok hc
    go_wp2
    refine bodyPost_ret (v := .agg #[.int .i64 0, .int .i64 0, .float .f64 0, .string ⟨#[]⟩, .int .i64 0]) (by simp [results, Tryz.results33, go_sem, r0', r1', r2', r3', r4']) rfl ⟨by rw [unhide HR]; rfl, ?_⟩
    iterate 5 (refine Below.setCell ?_ (by show w.heap.size ≤ w.heap.size + 1 + 1; omega) _)
    exact unhide HB2
  have HR : Hid (getV d c kv = atPlace d (placeI d kv (hN kv))) := hide (if_pos ⟨hok, hc⟩)
  have HSd := hide (sound_of hok)
  have HHs := hide (unhide HH hc)
  rw [hok]
  subst hc
  clear hok
  go_wp2_with fail
  refine (l1copy_any la lc ia ic xa xc d _ ((unhide HA).below (unhide HB2)) (unhide HS)).mono ?_
  rintro e w3 ⟨⟨cp, v0, v1, v2, rfl, hceq, hown⟩, hb3⟩
  clear hceq
  obtain ⟨la', lc', ia', ic', xa', xc', rfl, rfl, rfl, hP⟩ := hown.ptr
  have x2 : w.heap.size + 1 + 1 < w3.heap.size := Nat.lt_of_lt_of_le z2 hb3.size
  have x3 : w1.heap.size < w3.heap.size := Nat.lt_of_lt_of_le z3 hb3.size
  have r0 := (hb3.cell (p := ⟨w.heap.size + 1 + 1, 0, none⟩) z2).trans r0'
  have r1 := (hb3.cell (p := ⟨w.heap.size + 1 + 1, 1, none⟩) z2).trans r1'
  have r2 := (hb3.cell (p := ⟨w.heap.size + 1 + 1, 2, none⟩) z2).trans r2'
  have r3 := (hb3.cell (p := ⟨w.heap.size + 1 + 1, 3, none⟩) z2).trans r3'
  have r4 := (hb3.cell (p := ⟨w.heap.size + 1 + 1, 4, none⟩) z2).trans r4'
  have k0' := (hb3.cell (p := ⟨w1.heap.size, 0, none⟩) z3).trans k0
  have k1' := (hb3.cell (p := ⟨w1.heap.size, 1, none⟩) z3).trans k1
  have k2' := (hb3.cell (p := ⟨w1.heap.size, 2, none⟩) z3).trans k2
  have k3' := (hb3.cell (p := ⟨w1.heap.size, 3, none⟩) z3).trans k3
  have k4' := (hb3.cell (p := ⟨w1.heap.size, 4, none⟩) z3).trans k4
  have k5' := (hb3.cell (p := ⟨w1.heap.size, 5, none⟩) z3).trans k5
  have fr3 : ∀ o, w3.frozen? ⟨w.heap.size + 1 + 1, o, none⟩ = false := fun o => (hb3.frozen (p := ⟨w.heap.size + 1 + 1, o, none⟩) z2).trans (fr2 o)
  have HB3 := hide ((unhide HB2).trans (hb3.mono (unhide HB2).size))
  have HP3 := hide hP
  clear hb3 hown hP fr2 r0' r1' r2' r3' r4' k0 k1 k2 k3 k4 k5 q0' q1' q2' q3' q4' q5'
  go_wp2_with fail
  refine (l1place_any cp 0 la' lc' ia' ic' xa' xc' d kv (hN kv) _ (unhide HP3) (unhide HS) (unhide HSd).d3 (unhide HSd).d4 (unhide HHs)).mono ?_
  rintro e w4 ⟨rfl, hb4⟩
  obtain ⟨hp1, hp2⟩ := place_range (unhide HSd).d3 (unhide HSd).d4 kv (hN kv)
  generalize hpl : placeI d kv (hN kv) = pl at HR hp1 hp2
  clear hpl
  have x2' : w.heap.size + 1 + 1 < w4.heap.size := Nat.lt_of_lt_of_le x2 hb4.size
  have s0 := (hb4.cell (p := ⟨w.heap.size + 1 + 1, 0, none⟩) x2).trans r0
  have s1 := (hb4.cell (p := ⟨w.heap.size + 1 + 1, 1, none⟩) x2).trans r1
  have s2 := (hb4.cell (p := ⟨w.heap.size + 1 + 1, 2, none⟩) x2).trans r2
  have s3 := (hb4.cell (p := ⟨w.heap.size + 1 + 1, 3, none⟩) x2).trans r3
  have s4 := (hb4.cell (p := ⟨w.heap.size + 1 + 1, 4, none⟩) x2).trans r4
  have fr4 : ∀ o, w4.frozen? ⟨w.heap.size + 1 + 1, o, none⟩ = false := fun o => (hb4.frozen (p := ⟨w.heap.size + 1 + 1, o, none⟩) x2).trans (fr3 o)
  have hP4 := (unhide HP3).below hb4
  have c0 := hP4.c0
  have hlt4 := hP4.lt
  have HP4 := hide hP4
  have HB4 := hide ((unhide HB3).trans (hb4.mono (unhide HB3).size))
  have hn := (unhide HS).n
  clear hb4 hP4 fr3 r0 r1 r2 r3 r4 k0' k1' k2' k3' k4' k5'
  by_cases hneg : pl < 0
  · have HR2 : Hid (getV d 0 kv = default) := hide ((unhide HR).trans (if_neg (by omega)))
    go_wp2
    refine bodyPost_ret (v := .agg #[.int .i64 0, .int .i64 0, .float .f64 0, .string ⟨#[]⟩, .int .i64 0]) (by simp [results, Tryz.results33, go_sem, s0, s1, s2, s3, s4]) rfl ⟨by rw [unhide HR2]; rfl, ?_⟩
    iterate 5 (refine Below.setCell ?_ (by show w.heap.size ≤ w.heap.size + 1 + 1; omega) _)
    exact unhide HB4
  · obtain ⟨q, hq⟩ : ∃ q : Nat, pl = (q : Int) := ⟨pl.toNat, by omega⟩
    subst hq
    have hqn : q < d.n := by omega
    have HR2 : Hid (getV d 0 kv = (d.L q).val) := hide ((unhide HR).trans (by unfold atPlace; rw [if_pos (by omega)]; rfl))
    obtain ⟨b, off, rfl, hbl, hcs⟩ := (unhide HP4).rows.log.resolve_left (by omega)
    obtain ⟨_, _, _, _, _, e5, e6, e7, e8, e9, _⟩ := hcs q hqn
    clear hcs hp1 hp2 hneg
    go_wp2
    refine bodyPost_ret (v := VV (d.L q).val) (by simp [results, Tryz.results33, go_sem, s0, s1, s2, s3, s4]) rfl ⟨by rw [unhide HR2], ?_⟩
    iterate 5 (refine Below.setCell ?_ (by show w.heap.size ≤ w.heap.size + 1 + 1; omega) _)
    exact unhide HB4
end Go.Proofs.YtglcaejddckleaaGreatDoor

namespace Go.Proofs.YtglcaejddckleaaGreatDoor
open Go.RowKit Go.Shelf
set_option linter.unusedVariables false
attribute [local go_sem] run_store_float run_equalIn_float

set_option maxRecDepth 100000 in
set_option maxHeartbeats 2000000 in
theorem implGet (la : Option Addr) (lc : Nat) (ia : Option Addr) (ic : Nat) (xa : Option Addr) (xc : Nat) (d : Dc) (v : Vl) (c : Int) (kv : Vl) (w : World) (hA : DAt w la ia xa d) (hS : Small d) (hW : WfD d) (hk : keyV v.kind v.num v.flt v.str v.ref = KV c kv.kind kv.num kv.flt kv.str kv.ref) (hh : c = 0 → HsI Tabs kv (hN kv)) (hT : Tabs w) :
    Calls Tryz.prog 20 #[Dv la lc ia ic xa xc d, VV v] w fun e w' => e = .returned (VV (getV d c kv)) ∧ Below w.heap.size w w' := by
  have HA := hide hA
  have HS := hide hS
  have HW := hide hW
  have HKV := hide hk
  have HH := hide hh
  have HT := hide hT
  clear hA hS hW hk hh hT
  have hb0 : Below w.heap.size w (((w.alloc (.cells #[.slice la d.n lc, .slice ia d.m ic, .slice xa d.x xc, .int .i64 d.used, .int .i64 d.live, .int .i64 d.turns] 26)).alloc (.cells #[.int .i64 v.kind, .int .i64 v.num, .float .f64 v.flt, .string v.str, .int .i64 v.ref] 30)).alloc (.cells #[.int .i64 0, .int .i64 0, .float .f64 0, .string ⟨#[]⟩, .int .i64 0] 30)) := (((Below.refl _ _).alloc (Nat.le_refl _) _).alloc (by simp) _).alloc (by simp; omega) _
  have HB0 := hide hb0
  clear hb0
  go_enter Tryz.func20, Tryz.ntmps20
  go_wp2_with fail
  refine (ikey_any v.kind v.num v.flt v.str v.ref _).mono ?_
  rintro e w1 ⟨rfl, hb1⟩
  rw [unhide HKV]
  obtain ⟨hc1, hf1⟩ := bcell hb1
  have hz1 := hb1.size
  simp at hz1
  have y0 : w.heap.size < w1.heap.size := by omega
  have y2 : w.heap.size + 1 + 1 < w1.heap.size := by omega
  have q0 : w1.cell? ⟨w.heap.size, 0, none⟩ = some (.slice la d.n lc) := by rw [hc1 _ _ (by simp; omega)]; simp [go_sem]
  have q1 : w1.cell? ⟨w.heap.size, 1, none⟩ = some (.slice ia d.m ic) := by rw [hc1 _ _ (by simp; omega)]; simp [go_sem]
  have q2 : w1.cell? ⟨w.heap.size, 2, none⟩ = some (.slice xa d.x xc) := by rw [hc1 _ _ (by simp; omega)]; simp [go_sem]
  have q3 : w1.cell? ⟨w.heap.size, 3, none⟩ = some (.int .i64 d.used) := by rw [hc1 _ _ (by simp; omega)]; simp [go_sem]
  have q4 : w1.cell? ⟨w.heap.size, 4, none⟩ = some (.int .i64 d.live) := by rw [hc1 _ _ (by simp; omega)]; simp [go_sem]
  have q5 : w1.cell? ⟨w.heap.size, 5, none⟩ = some (.int .i64 d.turns) := by rw [hc1 _ _ (by simp; omega)]; simp [go_sem]
  have r0 : w1.cell? ⟨w.heap.size + 1 + 1, 0, none⟩ = some (.int .i64 0) := by rw [hc1 _ _ (by simp)]; simp [go_sem]
  have r1 : w1.cell? ⟨w.heap.size + 1 + 1, 1, none⟩ = some (.int .i64 0) := by rw [hc1 _ _ (by simp)]; simp [go_sem]
  have r2 : w1.cell? ⟨w.heap.size + 1 + 1, 2, none⟩ = some (.float .f64 0) := by rw [hc1 _ _ (by simp)]; simp [go_sem]
  have r3 : w1.cell? ⟨w.heap.size + 1 + 1, 3, none⟩ = some (.string ⟨#[]⟩) := by rw [hc1 _ _ (by simp)]; simp [go_sem]
  have r4 : w1.cell? ⟨w.heap.size + 1 + 1, 4, none⟩ = some (.int .i64 0) := by rw [hc1 _ _ (by simp)]; simp [go_sem]
  have fr : ∀ o, w1.frozen? ⟨w.heap.size + 1 + 1, o, none⟩ = false := fun o => by rw [hf1 _ _ (by simp)]; simp [go_sem]
  have HB1 := hide ((unhide HB0).trans (hb1.mono (unhide HB0).size))
  have HBs1 : Hid (∀ o, Below w.heap.size w (w1.alloc o)) := hide (fun o => (unhide HB1).alloc (by omega) _)
  clear hb1 hc1 hf1
  by_cases hc : c = 0
  case neg =>
    have HR : Hid (getV d c kv = default) := hide (if_neg (fun h => hc h.2))
    have hc' : (c != 0) = true := by simp [hc]
    clear hc
    go_wp2
    refine bodyPost_ret (v := .agg #[.int .i64 0, .int .i64 0, .float .f64 0, .string ⟨#[]⟩, .int .i64 0]) (by simp [results, Tryz.results20, go_sem, World.cell?_alloc_lt, y2, r0, r1, r2, r3, r4]) rfl ⟨by rw [unhide HR]; rfl, ?_⟩
    refine Below.alloc ?_ (by simp; omega) _
    iterate 5 (refine Below.setCell ?_ (by show w.heap.size ≤ w.heap.size + 1 + 1; omega) _)
    exact unhide HB1
  have HHs := hide (unhide HH hc)
  subst hc
  go_wp2_with fail
  refine (implOk la lc ia ic xa xc d _ (lastsT _ _ (unhide HT) (unhide HBs1 _)) ((unhide HA).below (unhide HBs1 _)) (unhide HS) (unhide HW)).mono ?_
  rintro e w2 ⟨rfl, hb2⟩
  obtain ⟨hc2, hf2⟩ := bcell hb2
  have hz2 := hb2.size
  simp at hz2
  have z0 : w.heap.size < w2.heap.size := by omega
  have z2 : w.heap.size + 1 + 1 < w2.heap.size := by omega
  have z3 : w1.heap.size < w2.heap.size := by omega
  have q0' : w2.cell? ⟨w.heap.size, 0, none⟩ = some (.slice la d.n lc) := by rw [hc2 _ _ (by simp; omega), World.cell?_alloc_lt _ _ _ (by exact y0)]; exact q0
  have q1' : w2.cell? ⟨w.heap.size, 1, none⟩ = some (.slice ia d.m ic) := by rw [hc2 _ _ (by simp; omega), World.cell?_alloc_lt _ _ _ (by exact y0)]; exact q1
  have q2' : w2.cell? ⟨w.heap.size, 2, none⟩ = some (.slice xa d.x xc) := by rw [hc2 _ _ (by simp; omega), World.cell?_alloc_lt _ _ _ (by exact y0)]; exact q2
  have q3' : w2.cell? ⟨w.heap.size, 3, none⟩ = some (.int .i64 d.used) := by rw [hc2 _ _ (by simp; omega), World.cell?_alloc_lt _ _ _ (by exact y0)]; exact q3
  have q4' : w2.cell? ⟨w.heap.size, 4, none⟩ = some (.int .i64 d.live) := by rw [hc2 _ _ (by simp; omega), World.cell?_alloc_lt _ _ _ (by exact y0)]; exact q4
  have q5' : w2.cell? ⟨w.heap.size, 5, none⟩ = some (.int .i64 d.turns) := by rw [hc2 _ _ (by simp; omega), World.cell?_alloc_lt _ _ _ (by exact y0)]; exact q5
  have r0' : w2.cell? ⟨w.heap.size + 1 + 1, 0, none⟩ = some (.int .i64 0) := by rw [hc2 _ _ (by simp; omega), World.cell?_alloc_lt _ _ _ (by exact y2)]; exact r0
  have r1' : w2.cell? ⟨w.heap.size + 1 + 1, 1, none⟩ = some (.int .i64 0) := by rw [hc2 _ _ (by simp; omega), World.cell?_alloc_lt _ _ _ (by exact y2)]; exact r1
  have r2' : w2.cell? ⟨w.heap.size + 1 + 1, 2, none⟩ = some (.float .f64 0) := by rw [hc2 _ _ (by simp; omega), World.cell?_alloc_lt _ _ _ (by exact y2)]; exact r2
  have r3' : w2.cell? ⟨w.heap.size + 1 + 1, 3, none⟩ = some (.string ⟨#[]⟩) := by rw [hc2 _ _ (by simp; omega), World.cell?_alloc_lt _ _ _ (by exact y2)]; exact r3
  have r4' : w2.cell? ⟨w.heap.size + 1 + 1, 4, none⟩ = some (.int .i64 0) := by rw [hc2 _ _ (by simp; omega), World.cell?_alloc_lt _ _ _ (by exact y2)]; exact r4
  have k0 : w2.cell? ⟨w1.heap.size, 0, none⟩ = some (.int .i64 0) := by rw [hc2 _ _ (by simp)]; simp [go_sem]
  have k1 : w2.cell? ⟨w1.heap.size, 1, none⟩ = some (.int .i64 kv.kind) := by rw [hc2 _ _ (by simp)]; simp [go_sem]
  have k2 : w2.cell? ⟨w1.heap.size, 2, none⟩ = some (.int .i64 kv.num) := by rw [hc2 _ _ (by simp)]; simp [go_sem]
  have k3 : w2.cell? ⟨w1.heap.size, 3, none⟩ = some (.float .f64 kv.flt) := by rw [hc2 _ _ (by simp)]; simp [go_sem]
  have k4 : w2.cell? ⟨w1.heap.size, 4, none⟩ = some (.string kv.str) := by rw [hc2 _ _ (by simp)]; simp [go_sem]
  have k5 : w2.cell? ⟨w1.heap.size, 5, none⟩ = some (.int .i64 kv.ref) := by rw [hc2 _ _ (by simp)]; simp [go_sem]
  have fr2 : ∀ o, w2.frozen? ⟨w.heap.size + 1 + 1, o, none⟩ = false := fun o => by rw [hf2 _ _ (by simp; omega)]; exact (((Below.refl w1.heap.size w1).alloc (Nat.le_refl _) _).frozen (p := ⟨w.heap.size + 1 + 1, o, none⟩) y2).trans (fr o)
  have HB2 := hide ((unhide HBs1 _).trans (hb2.mono (unhide HBs1 _).size))
  clear hb2 hc2 hf2 fr q0 q1 q2 q3 q4 q5 r0 r1 r2 r3 r4
  by_cases hok : dictOk d (hD d) = 0
  case neg =>
    have HR : Hid (getV d 0 kv = default) := hide (if_neg (fun h => hok h.1))
    have hk' : (dictOk d (hD d) != 0) = true := by simp [hok]
    clear hok
    generalize dictOk d (hD d) = ok at hk'
    go_wp2
    refine bodyPost_ret (v := .agg #[.int .i64 0, .int .i64 0, .float .f64 0, .string ⟨#[]⟩, .int .i64 0]) (by simp [results, Tryz.results20, go_sem, r0', r1', r2', r3', r4']) rfl ⟨by rw [unhide HR]; rfl, ?_⟩
    iterate 5 (refine Below.setCell ?_ (by show w.heap.size ≤ w.heap.size + 1 + 1; omega) _)
    exact unhide HB2
  have HR : Hid (getV d 0 kv = atPlace d (placeI d kv (hN kv))) := hide (if_pos ⟨hok, rfl⟩)
  have HSd := hide (sound_of hok)
  rw [hok]
  clear hok
  have HAd := hide ((unhide HA).below (unhide HB2).drew)
  have HTd := hide (lastsT _ _ (unhide HT) (unhide HB2).drew)
  have HB2d := hide (unhide HB2).drew
  go_wp2_with fail
  go_region_law (first
    | (go_simp; go_at_call 52; refine (openBook_any la lc ia ic xa xc d _ (unhide HAd) (unhide HS) (unhide HSd).d3 (unhide HSd).d4).mono ?_; rintro e w3 ⟨⟨bk, R0, R1, R2, E, S, rfl, hBk⟩, hb3⟩; have n1 := (hb3.cell (p := ⟨w1.heap.size, 1, none⟩) z3).trans k1; have n2 := (hb3.cell (p := ⟨w1.heap.size, 2, none⟩) z3).trans k2; have n3 := (hb3.cell (p := ⟨w1.heap.size, 3, none⟩) z3).trans k3; have n4 := (hb3.cell (p := ⟨w1.heap.size, 4, none⟩) z3).trans k4; have n5 := (hb3.cell (p := ⟨w1.heap.size, 5, none⟩) z3).trans k5; have m0 := (hb3.cell (p := ⟨w.heap.size + 1 + 1, 0, none⟩) z2).trans r0'; have m1 := (hb3.cell (p := ⟨w.heap.size + 1 + 1, 1, none⟩) z2).trans r1'; have m2 := (hb3.cell (p := ⟨w.heap.size + 1 + 1, 2, none⟩) z2).trans r2'; have m3 := (hb3.cell (p := ⟨w.heap.size + 1 + 1, 3, none⟩) z2).trans r3'; have m4 := (hb3.cell (p := ⟨w.heap.size + 1 + 1, 4, none⟩) z2).trans r4'; have mf : ∀ o, w3.frozen? ⟨w.heap.size + 1 + 1, o, none⟩ = false := fun o => (hb3.frozen (p := ⟨w.heap.size + 1 + 1, o, none⟩) z2).trans (fr2 o); have x2 := Nat.lt_of_lt_of_le z2 hb3.size; have x3 := Nat.lt_of_lt_of_le z3 hb3.size; have HT3 := hide (lastsT _ _ (unhide HTd) hb3); have HBk := hide hBk; have HB3 := hide ((unhide HB2d).trans (hb3.mono (unhide HB2d).size)); clear hb3 hBk)
    | (go_simp; go_at_call 67; refine (bfind_any Tabs lastsT bk R0 R1 R2 E S d kv (hN kv) (unhide HHs) _ (unhide HT3) (unhide HBk) (unhide HS) (unhide HSd).d3 (unhide HSd).d4).mono ?_; rintro e w4 ⟨rfl, hb4⟩; have s0 := (hb4.cell (p := ⟨w.heap.size + 1 + 1, 0, none⟩) x2).trans m0; have s1 := (hb4.cell (p := ⟨w.heap.size + 1 + 1, 1, none⟩) x2).trans m1; have s2 := (hb4.cell (p := ⟨w.heap.size + 1 + 1, 2, none⟩) x2).trans m2; have s3 := (hb4.cell (p := ⟨w.heap.size + 1 + 1, 3, none⟩) x2).trans m3; have s4 := (hb4.cell (p := ⟨w.heap.size + 1 + 1, 4, none⟩) x2).trans m4; have sf : ∀ o, w4.frozen? ⟨w.heap.size + 1 + 1, o, none⟩ = false := fun o => (hb4.frozen (p := ⟨w.heap.size + 1 + 1, o, none⟩) x2).trans (mf o); have x4 := Nat.lt_of_lt_of_le x2 hb4.size; have HBk4 := hide ((unhide HBk).below hb4); have HB4 := hide ((unhide HB3).trans (hb4.mono (unhide HB3).size)); clear hb4))
  all_goals
    clear HBk HB3 HT3 HAd HTd HB2d m0 m1 m2 m3 m4 n1 n2 n3 n4 n5 mf x2 x3
    obtain ⟨hp1, hp2⟩ := place_range (unhide HSd).d3 (unhide HSd).d4 kv (hN kv)
    generalize hpl : placeI d kv (hN kv) = pl at HR hp1 hp2 ⊢
    clear hpl
    have hn := (unhide HS).n
    by_cases hneg : pl < 0
    · have HR2 : Hid (getV d 0 kv = default) := hide ((unhide HR).trans (if_neg (by omega)))
      have hpp : placeP E pl = none := if_neg (by omega)
      rw [hpp]
      clear hpp
      go_wp2
      refine bodyPost_ret (v := .agg #[.int .i64 0, .int .i64 0, .float .f64 0, .string ⟨#[]⟩, .int .i64 0]) (by simp [results, Tryz.results20, go_sem, s0, s1, s2, s3, s4]) rfl ⟨by rw [unhide HR2]; rfl, ?_⟩
      iterate 5 (refine Below.setCell ?_ (by show w.heap.size ≤ w.heap.size + 1 + 1; omega) _)
      exact unhide HB4
    · obtain ⟨q, hq⟩ : ∃ q : Nat, pl = (q : Int) := ⟨pl.toNat, by omega⟩
      subst hq
      have hqn : q < d.n := by omega
      have HR2 : Hid (getV d 0 kv = (d.L q).val) := hide ((unhide HR).trans (by unfold atPlace; rw [if_pos (by omega)]; rfl))
      have hpp : placeP E (q : Int) = some ⟨E q, 0, none⟩ := by unfold placeP; rw [if_pos (by omega)]; rfl
      rw [hpp]
      have hE := (unhide HBk4).ent q hqn
      have e0 := hE.v0
      have e1 := hE.v1
      have e2 := hE.v2
      have e3 := hE.v3
      have e4 := hE.v4
      have el := hE.lt
      clear hpp hE hp1 hp2 hneg
      go_wp2
      refine bodyPost_ret (v := VV (d.L q).val) (by simp [results, Tryz.results20, go_sem, s0, s1, s2, s3, s4]) rfl ⟨by rw [unhide HR2], ?_⟩
      iterate 5 (refine Below.setCell ?_ (by show w.heap.size ≤ w.heap.size + 1 + 1; omega) _)
      exact unhide HB4
end Go.Proofs.YtglcaejddckleaaGreatDoor

namespace Go.Proofs.YtglcaejddckleaaGreatDoor
open Go.RowKit
set_option linter.unusedVariables false
attribute [local go_sem] run_store_float run_equalIn_float

theorem keep6 {w w' : World} {b : Nat} {v0 v1 v2 v3 v4 v5 : Value} (hb : Below w.heap.size w w') (hl : b < w.heap.size) (h : w.cell? ⟨b, 0, none⟩ = some v0 ∧ w.cell? ⟨b, 1, none⟩ = some v1 ∧ w.cell? ⟨b, 2, none⟩ = some v2 ∧ w.cell? ⟨b, 3, none⟩ = some v3 ∧ w.cell? ⟨b, 4, none⟩ = some v4 ∧ w.cell? ⟨b, 5, none⟩ = some v5) :
    w'.cell? ⟨b, 0, none⟩ = some v0 ∧ w'.cell? ⟨b, 1, none⟩ = some v1 ∧ w'.cell? ⟨b, 2, none⟩ = some v2 ∧ w'.cell? ⟨b, 3, none⟩ = some v3 ∧ w'.cell? ⟨b, 4, none⟩ = some v4 ∧ w'.cell? ⟨b, 5, none⟩ = some v5 :=
  ⟨(hb.cell (p := ⟨b, 0, none⟩) hl).trans h.1, (hb.cell (p := ⟨b, 1, none⟩) hl).trans h.2.1, (hb.cell (p := ⟨b, 2, none⟩) hl).trans h.2.2.1, (hb.cell (p := ⟨b, 3, none⟩) hl).trans h.2.2.2.1, (hb.cell (p := ⟨b, 4, none⟩) hl).trans h.2.2.2.2.1, (hb.cell (p := ⟨b, 5, none⟩) hl).trans h.2.2.2.2.2⟩
theorem keep5 {w w' : World} {b : Nat} {v0 v1 v2 v3 v4 : Value} (hb : Below w.heap.size w w') (hl : b < w.heap.size) (h : w.cell? ⟨b, 0, none⟩ = some v0 ∧ w.cell? ⟨b, 1, none⟩ = some v1 ∧ w.cell? ⟨b, 2, none⟩ = some v2 ∧ w.cell? ⟨b, 3, none⟩ = some v3 ∧ w.cell? ⟨b, 4, none⟩ = some v4) :
    w'.cell? ⟨b, 0, none⟩ = some v0 ∧ w'.cell? ⟨b, 1, none⟩ = some v1 ∧ w'.cell? ⟨b, 2, none⟩ = some v2 ∧ w'.cell? ⟨b, 3, none⟩ = some v3 ∧ w'.cell? ⟨b, 4, none⟩ = some v4 :=
  ⟨(hb.cell (p := ⟨b, 0, none⟩) hl).trans h.1, (hb.cell (p := ⟨b, 1, none⟩) hl).trans h.2.1, (hb.cell (p := ⟨b, 2, none⟩) hl).trans h.2.2.1, (hb.cell (p := ⟨b, 3, none⟩) hl).trans h.2.2.2.1, (hb.cell (p := ⟨b, 4, none⟩) hl).trans h.2.2.2.2⟩

theorem keepF {w w' : World} {b : Nat} (hb : Below w.heap.size w w') (hl : b < w.heap.size) (h : ∀ o, w.frozen? ⟨b, o, none⟩ = false) : ∀ o, w'.frozen? ⟨b, o, none⟩ = false := fun o => (hb.frozen (p := ⟨b, o, none⟩) hl).trans (h o)
theorem join6 {a b c d e f X : Prop} (h : a ∧ b ∧ c ∧ d ∧ e ∧ f) (x : X) : a ∧ b ∧ c ∧ d ∧ e ∧ f ∧ X := ⟨h.1, h.2.1, h.2.2.1, h.2.2.2.1, h.2.2.2.2.1, h.2.2.2.2.2, x⟩

/-- What stands behind the first answer: the two boxes, and the answer's. -/
structure R8 (w : World) (la : Option Addr) (lc : Nat) (ia : Option Addr) (ic : Nat) (xa : Option Addr) (xc : Nat) (d : Dc) (v oo : Vl) (bx : Nat) (w' : World) : Prop where
  p : w'.cell? ⟨w.heap.size, 0, none⟩ = some (.slice la d.n lc) ∧ w'.cell? ⟨w.heap.size, 1, none⟩ = some (.slice ia d.m ic) ∧ w'.cell? ⟨w.heap.size, 2, none⟩ = some (.slice xa d.x xc) ∧ w'.cell? ⟨w.heap.size, 3, none⟩ = some (.int .i64 d.used) ∧ w'.cell? ⟨w.heap.size, 4, none⟩ = some (.int .i64 d.live) ∧ w'.cell? ⟨w.heap.size, 5, none⟩ = some (.int .i64 d.turns)
  c : w'.cell? ⟨w.heap.size + 1, 0, none⟩ = some (.int .i64 v.kind) ∧ w'.cell? ⟨w.heap.size + 1, 1, none⟩ = some (.int .i64 v.num) ∧ w'.cell? ⟨w.heap.size + 1, 2, none⟩ = some (.float .f64 v.flt) ∧ w'.cell? ⟨w.heap.size + 1, 3, none⟩ = some (.string v.str) ∧ w'.cell? ⟨w.heap.size + 1, 4, none⟩ = some (.int .i64 v.ref)
  x : w'.cell? ⟨bx, 0, none⟩ = some (.int .i64 oo.kind) ∧ w'.cell? ⟨bx, 1, none⟩ = some (.int .i64 oo.num) ∧ w'.cell? ⟨bx, 2, none⟩ = some (.float .f64 oo.flt) ∧ w'.cell? ⟨bx, 3, none⟩ = some (.string oo.str) ∧ w'.cell? ⟨bx, 4, none⟩ = some (.int .i64 oo.ref)
  b : Below w.heap.size w w'
  l : w.heap.size + 1 < bx
  u : bx < w'.heap.size

theorem set5_other (w : World) (bx b o : Nat) (v0 v1 v2 v3 v4 : Value) (h : b ≠ bx) : (((((w.setCell ⟨bx, 0, none⟩ v0).setCell ⟨bx, 1, none⟩ v1).setCell ⟨bx, 2, none⟩ v2).setCell ⟨bx, 3, none⟩ v3).setCell ⟨bx, 4, none⟩ v4).cell? ⟨b, o, none⟩ = w.cell? ⟨b, o, none⟩ :=
  World.cell?_of_block (((((Deep.blk_setCell_other _ _ _ _ h).trans (Deep.blk_setCell_other _ _ _ _ h)).trans (Deep.blk_setCell_other _ _ _ _ h)).trans (Deep.blk_setCell_other _ _ _ _ h)).trans (Deep.blk_setCell_other _ _ _ _ h))

theorem R8.of_set {w : World} {la : Option Addr} {lc : Nat} {ia : Option Addr} {ic : Nat} {xa : Option Addr} {xc : Nat} {d : Dc} {v oo : Vl} {bx : Nat} {w5 : World} {z0 z1 z2 z3 z4 : Value}
    (p : w5.cell? ⟨w.heap.size, 0, none⟩ = some (.slice la d.n lc) ∧ w5.cell? ⟨w.heap.size, 1, none⟩ = some (.slice ia d.m ic) ∧ w5.cell? ⟨w.heap.size, 2, none⟩ = some (.slice xa d.x xc) ∧ w5.cell? ⟨w.heap.size, 3, none⟩ = some (.int .i64 d.used) ∧ w5.cell? ⟨w.heap.size, 4, none⟩ = some (.int .i64 d.live) ∧ w5.cell? ⟨w.heap.size, 5, none⟩ = some (.int .i64 d.turns))
    (c : w5.cell? ⟨w.heap.size + 1, 0, none⟩ = some (.int .i64 v.kind) ∧ w5.cell? ⟨w.heap.size + 1, 1, none⟩ = some (.int .i64 v.num) ∧ w5.cell? ⟨w.heap.size + 1, 2, none⟩ = some (.float .f64 v.flt) ∧ w5.cell? ⟨w.heap.size + 1, 3, none⟩ = some (.string v.str) ∧ w5.cell? ⟨w.heap.size + 1, 4, none⟩ = some (.int .i64 v.ref))
    (x0 : w5.cell? ⟨bx, 0, none⟩ = some z0) (x1 : w5.cell? ⟨bx, 1, none⟩ = some z1) (x2 : w5.cell? ⟨bx, 2, none⟩ = some z2) (x3 : w5.cell? ⟨bx, 3, none⟩ = some z3) (x4 : w5.cell? ⟨bx, 4, none⟩ = some z4)
    (b : Below w.heap.size w w5) (l : w.heap.size + 1 < bx) (u : bx < w5.heap.size) :
    R8 w la lc ia ic xa xc d v oo bx (((((w5.setCell ⟨bx, 0, none⟩ (.int .i64 oo.kind)).setCell ⟨bx, 1, none⟩ (.int .i64 oo.num)).setCell ⟨bx, 2, none⟩ (.float .f64 oo.flt)).setCell ⟨bx, 3, none⟩ (.string oo.str)).setCell ⟨bx, 4, none⟩ (.int .i64 oo.ref)) := by
  have n0 : w.heap.size ≠ bx := by omega
  have n1 : w.heap.size + 1 ≠ bx := by omega
  refine ⟨?_, ?_, ?_, ?_, l, by simpa using u⟩
  · simp only [set5_other _ _ _ _ _ _ _ _ _ n0]; exact p
  · simp only [set5_other _ _ _ _ _ _ _ _ _ n1]; exact c
  · refine ⟨?_, ?_, ?_, ?_, ?_⟩ <;> simp [go_sem, x0, x1, x2, x3, x4]
  · exact ((((b.setCell (by show _ ≤ bx; omega) _).setCell (by show _ ≤ bx; omega) _).setCell (by show _ ≤ bx; omega) _).setCell (by show _ ≤ bx; omega) _).setCell (by show _ ≤ bx; omega) _

theorem R8.of_alloc {w : World} {la : Option Addr} {lc : Nat} {ia : Option Addr} {ic : Nat} {xa : Option Addr} {xc : Nat} {d : Dc} {v oo : Vl} {w5 : World} {t : TypeId}
    (p : w5.cell? ⟨w.heap.size, 0, none⟩ = some (.slice la d.n lc) ∧ w5.cell? ⟨w.heap.size, 1, none⟩ = some (.slice ia d.m ic) ∧ w5.cell? ⟨w.heap.size, 2, none⟩ = some (.slice xa d.x xc) ∧ w5.cell? ⟨w.heap.size, 3, none⟩ = some (.int .i64 d.used) ∧ w5.cell? ⟨w.heap.size, 4, none⟩ = some (.int .i64 d.live) ∧ w5.cell? ⟨w.heap.size, 5, none⟩ = some (.int .i64 d.turns))
    (c : w5.cell? ⟨w.heap.size + 1, 0, none⟩ = some (.int .i64 v.kind) ∧ w5.cell? ⟨w.heap.size + 1, 1, none⟩ = some (.int .i64 v.num) ∧ w5.cell? ⟨w.heap.size + 1, 2, none⟩ = some (.float .f64 v.flt) ∧ w5.cell? ⟨w.heap.size + 1, 3, none⟩ = some (.string v.str) ∧ w5.cell? ⟨w.heap.size + 1, 4, none⟩ = some (.int .i64 v.ref))
    (b : Below w.heap.size w w5) (l : w.heap.size + 1 < w5.heap.size) :
    R8 w la lc ia ic xa xc d v oo w5.heap.size (w5.alloc (.cells #[.int .i64 oo.kind, .int .i64 oo.num, .float .f64 oo.flt, .string oo.str, .int .i64 oo.ref] t)) :=
  ⟨keep6 ((Below.refl _ _).alloc (Nat.le_refl _) _) (by omega) p, keep5 ((Below.refl _ _).alloc (Nat.le_refl _) _) l c, by refine ⟨?_, ?_, ?_, ?_, ?_⟩ <;> simp [go_sem], b.alloc (by omega) _, l, by simp⟩

/-- What stands behind the second answer. -/
structure R10 (w6 : World) (t0 t1 t2 : Nat) (d : Dc) (oo : Vl) (bx : Nat) (w' : World) : Prop where
  q : w'.cell? ⟨w6.heap.size, 0, none⟩ = some (.slice (some ⟨t0, 0, none⟩) d.n d.n) ∧ w'.cell? ⟨w6.heap.size, 1, none⟩ = some (.slice (some ⟨t1, 0, none⟩) d.m d.m) ∧ w'.cell? ⟨w6.heap.size, 2, none⟩ = some (.slice (some ⟨t2, 0, none⟩) d.x d.x) ∧ w'.cell? ⟨w6.heap.size, 3, none⟩ = some (.int .i64 d.used) ∧ w'.cell? ⟨w6.heap.size, 4, none⟩ = some (.int .i64 d.live) ∧ w'.cell? ⟨w6.heap.size, 5, none⟩ = some (.int .i64 d.turns)
  x : w'.cell? ⟨bx, 0, none⟩ = some (.int .i64 oo.kind) ∧ w'.cell? ⟨bx, 1, none⟩ = some (.int .i64 oo.num) ∧ w'.cell? ⟨bx, 2, none⟩ = some (.float .f64 oo.flt) ∧ w'.cell? ⟨bx, 3, none⟩ = some (.string oo.str) ∧ w'.cell? ⟨bx, 4, none⟩ = some (.int .i64 oo.ref)
  b : Below w6.heap.size w6 w'
  l : w6.heap.size < bx
  u : bx < w'.heap.size

theorem R10.of_set {w6 : World} {t0 t1 t2 : Nat} {d : Dc} {oo : Vl} {bx : Nat} {w5 : World} {z0 z1 z2 z3 z4 : Value}
    (q : w5.cell? ⟨w6.heap.size, 0, none⟩ = some (.slice (some ⟨t0, 0, none⟩) d.n d.n) ∧ w5.cell? ⟨w6.heap.size, 1, none⟩ = some (.slice (some ⟨t1, 0, none⟩) d.m d.m) ∧ w5.cell? ⟨w6.heap.size, 2, none⟩ = some (.slice (some ⟨t2, 0, none⟩) d.x d.x) ∧ w5.cell? ⟨w6.heap.size, 3, none⟩ = some (.int .i64 d.used) ∧ w5.cell? ⟨w6.heap.size, 4, none⟩ = some (.int .i64 d.live) ∧ w5.cell? ⟨w6.heap.size, 5, none⟩ = some (.int .i64 d.turns))
    (x0 : w5.cell? ⟨bx, 0, none⟩ = some z0) (x1 : w5.cell? ⟨bx, 1, none⟩ = some z1) (x2 : w5.cell? ⟨bx, 2, none⟩ = some z2) (x3 : w5.cell? ⟨bx, 3, none⟩ = some z3) (x4 : w5.cell? ⟨bx, 4, none⟩ = some z4)
    (b : Below w6.heap.size w6 w5) (l : w6.heap.size < bx) (u : bx < w5.heap.size) :
    R10 w6 t0 t1 t2 d oo bx (((((w5.setCell ⟨bx, 0, none⟩ (.int .i64 oo.kind)).setCell ⟨bx, 1, none⟩ (.int .i64 oo.num)).setCell ⟨bx, 2, none⟩ (.float .f64 oo.flt)).setCell ⟨bx, 3, none⟩ (.string oo.str)).setCell ⟨bx, 4, none⟩ (.int .i64 oo.ref)) := by
  have n0 : w6.heap.size ≠ bx := by omega
  refine ⟨?_, ?_, ?_, l, by simpa using u⟩
  · simp only [set5_other _ _ _ _ _ _ _ _ _ n0]; exact q
  · refine ⟨?_, ?_, ?_, ?_, ?_⟩ <;> simp [go_sem, x0, x1, x2, x3, x4]
  · exact ((((b.setCell (by show _ ≤ bx; omega) _).setCell (by show _ ≤ bx; omega) _).setCell (by show _ ≤ bx; omega) _).setCell (by show _ ≤ bx; omega) _).setCell (by show _ ≤ bx; omega) _

theorem R10.of_alloc {w6 : World} {t0 t1 t2 : Nat} {d : Dc} {oo : Vl} {w5 : World} {t : TypeId}
    (q : w5.cell? ⟨w6.heap.size, 0, none⟩ = some (.slice (some ⟨t0, 0, none⟩) d.n d.n) ∧ w5.cell? ⟨w6.heap.size, 1, none⟩ = some (.slice (some ⟨t1, 0, none⟩) d.m d.m) ∧ w5.cell? ⟨w6.heap.size, 2, none⟩ = some (.slice (some ⟨t2, 0, none⟩) d.x d.x) ∧ w5.cell? ⟨w6.heap.size, 3, none⟩ = some (.int .i64 d.used) ∧ w5.cell? ⟨w6.heap.size, 4, none⟩ = some (.int .i64 d.live) ∧ w5.cell? ⟨w6.heap.size, 5, none⟩ = some (.int .i64 d.turns))
    (b : Below w6.heap.size w6 w5) (l : w6.heap.size < w5.heap.size) :
    R10 w6 t0 t1 t2 d oo w5.heap.size (w5.alloc (.cells #[.int .i64 oo.kind, .int .i64 oo.num, .float .f64 oo.flt, .string oo.str, .int .i64 oo.ref] t)) :=
  ⟨keep6 ((Below.refl _ _).alloc (Nat.le_refl _) _) l q, by refine ⟨?_, ?_, ?_, ?_, ?_⟩ <;> simp [go_sem], b.alloc (by omega) _, l, by simp⟩

set_option maxRecDepth 100000 in
set_option maxHeartbeats 40000000 in
theorem law_dictGet (la : Option Addr) (lc : Nat) (ia : Option Addr) (ic : Nat) (xa : Option Addr) (xc : Nat) (d : Dc) (v : Vl) (hv : Wf v) (hs : v.str.size ≤ maxLen) (w : World) (hA : DAt w la ia xa d) (hL : Lens d) (hW : WfD d) (hT : Tabs w) :
    Calls Tryz.prog 6 #[Dv la lc ia ic xa xc d, VV v] w fun e w' => e = .returned (.bool true) ∧ Below w.heap.size w w' := by
  obtain ⟨c, kv, hk, hh⟩ := keyed v hv
  obtain ⟨oo, hoo⟩ : ∃ oo, oo = getV d c kv := ⟨_, rfl⟩
  have HOO := hide hoo
  have HK := hide hk
  have HH := hide hh
  have HA := hide hA
  have HL := hide hL
  have HW := hide hW
  have HT := hide hT
  have HSP : Hid (∀ (W : World) (s0 s1 s2 : Nat), DAt W (some ⟨s0, 0, none⟩) (some ⟨s1, 0, none⟩) (some ⟨s2, 0, none⟩) d → Small d → Calls Tryz.prog 33 #[Dv (some ⟨s0, 0, none⟩) d.n (some ⟨s1, 0, none⟩) d.m (some ⟨s2, 0, none⟩) d.x d, VV v] W fun e w' => e = .returned (VV oo) ∧ Below W.heap.size W w') := hide (fun W s0 s1 s2 hD hSm => by rw [hoo]; exact specGet (some ⟨s0, 0, none⟩) d.n (some ⟨s1, 0, none⟩) d.m (some ⟨s2, 0, none⟩) d.x d v c kv W hD hSm hW hk (fun hc => (hh hc).1))
  have HIP : Hid (∀ (W : World) (s0 s1 s2 : Nat), Tabs W → DAt W (some ⟨s0, 0, none⟩) (some ⟨s1, 0, none⟩) (some ⟨s2, 0, none⟩) d → Small d → Calls Tryz.prog 20 #[Dv (some ⟨s0, 0, none⟩) d.n (some ⟨s1, 0, none⟩) d.m (some ⟨s2, 0, none⟩) d.x d, VV v] W fun e w' => e = .returned (VV oo) ∧ Below W.heap.size W w') := hide (fun W s0 s1 s2 hTT hD hSm => by rw [hoo]; exact implGet (some ⟨s0, 0, none⟩) d.n (some ⟨s1, 0, none⟩) d.m (some ⟨s2, 0, none⟩) d.x d v c kv W hD hSm hW hk (fun hc => (hh hc).2) hTT)
  clear hA hL hW hT hoo hk hh
  have hb0 : Below w.heap.size w ((w.alloc (.cells #[.slice la d.n lc, .slice ia d.m ic, .slice xa d.x xc, .int .i64 d.used, .int .i64 d.live, .int .i64 d.turns] 53)).alloc (.cells #[.int .i64 v.kind, .int .i64 v.num, .float .f64 v.flt, .string v.str, .int .i64 v.ref] 57)) := ((Below.refl _ _).alloc (Nat.le_refl _) _).alloc (by simp) _
  have HB0 := hide hb0
  clear hb0
  go_enter Tryz.func6, Tryz.ntmps6
  go_wp2_with fail
  refine (szDict_any la lc ia ic xa xc d 1048576 _ ((unhide HA).below (unhide HB0)) (unhide HL) (by omega) (by omega)).mono ?_
  rintro e w1 ⟨⟨r, rfl, hr⟩, hb1⟩
  obtain ⟨hc1, hf1⟩ := bcell hb1
  have hz1 := hb1.size
  simp at hz1
  have y1 : w.heap.size < w1.heap.size := by omega
  have u1 : w.heap.size + 1 < w1.heap.size := by omega
  have a1 : w1.cell? ⟨w.heap.size, 0, none⟩ = some (.slice la d.n lc) ∧ w1.cell? ⟨w.heap.size, 1, none⟩ = some (.slice ia d.m ic) ∧ w1.cell? ⟨w.heap.size, 2, none⟩ = some (.slice xa d.x xc) ∧ w1.cell? ⟨w.heap.size, 3, none⟩ = some (.int .i64 d.used) ∧ w1.cell? ⟨w.heap.size, 4, none⟩ = some (.int .i64 d.live) ∧ w1.cell? ⟨w.heap.size, 5, none⟩ = some (.int .i64 d.turns) := by
    refine ⟨?_, ?_, ?_, ?_, ?_, ?_⟩ <;> (rw [hc1 _ _ (by simp; omega)]; simp [go_sem])
  have b1 : w1.cell? ⟨w.heap.size + 1, 0, none⟩ = some (.int .i64 v.kind) ∧ w1.cell? ⟨w.heap.size + 1, 1, none⟩ = some (.int .i64 v.num) ∧ w1.cell? ⟨w.heap.size + 1, 2, none⟩ = some (.float .f64 v.flt) ∧ w1.cell? ⟨w.heap.size + 1, 3, none⟩ = some (.string v.str) ∧ w1.cell? ⟨w.heap.size + 1, 4, none⟩ = some (.int .i64 v.ref) := by
    refine ⟨?_, ?_, ?_, ?_, ?_⟩ <;> (rw [hc1 _ _ (by simp)]; simp [go_sem])
  have HB1 := hide ((unhide HB0).trans (hb1.mono (unhide HB0).size))
  clear hb1 hc1 hf1 hz1
  rcases hr with rfl | ⟨hr0, hr1, hS⟩
  · clear a1 b1
    go_wp2_with fail
    go_ret
    exact ⟨rfl, unhide HB1⟩
  have HS := hide hS
  clear hS
  obtain ⟨c0, c1, c2, c3, c4⟩ := b1
  go_wp2_with fail
  refine (sz_any v.kind v.num v.flt v.str v.ref r _ hs (by omega) (by omega)).mono ?_
  rintro e w2 ⟨rfl, hb2⟩
  have y2 := Nat.lt_of_lt_of_le y1 hb2.size
  have u2 := Nat.lt_of_lt_of_le u1 hb2.size
  have a2 := keep6 hb2 y1 a1
  have b2 := keep5 hb2 u1 ⟨c0, c1, c2, c3, c4⟩
  have HB2 := hide ((unhide HB1).trans (hb2.mono (unhide HB1).size))
  clear hb2 a1 c0 c1 c2 c3 c4
  by_cases hneg : r < v.str.size
  · rw [if_pos hneg]
    clear a2 b2
    go_wp2_with fail
    go_ret
    exact ⟨rfl, unhide HB2⟩
  rw [if_neg hneg]
  have hge : ¬ (r - v.str.size < 0) := by omega
  go_wp2_with fail
  refine Code.wp_mono (Q := fun e a' w' => e = .normal ∧ ∃ bx s0 s1 s2 : Nat, a' = { tmps := #[Dv la lc ia ic xa xc d, VV v, .pointer (some ⟨w.heap.size, 0, none⟩), .pointer (some ⟨w.heap.size + 1, 0, none⟩), .bool false, .int .i64 (r - (v.str.size : Int)), .pointer (some ⟨bx, 0, none⟩), undef, undef, Dv la lc ia ic xa xc d, .int .i64 1048576, .int .i64 r, .int .i64 r, .bool (decide (r < 0)), VV v, .int .i64 r, .int .i64 (r - (v.str.size : Int)), .int .i64 (r - (v.str.size : Int)), .bool (decide (r - (v.str.size : Int) < 0)), Dv la lc ia ic xa xc d, Dv (some ⟨s0, 0, none⟩) d.n (some ⟨s1, 0, none⟩) d.m (some ⟨s2, 0, none⟩) d.x d, VV v, VV v, VV oo, undef, undef, undef, undef, undef, undef, undef, undef, undef, undef, undef, undef, undef, undef, undef], defers := [] } ∧ R8 w la lc ia ic xa xc d v oo bx w') ?cont ?reg
  case reg =>
    have HBd : Hid (Below w.heap.size w w2.drew) := hide (unhide HB2).drew
    have pd : w2.drew.cell? ⟨w.heap.size, 0, none⟩ = some (.slice la d.n lc) ∧ w2.drew.cell? ⟨w.heap.size, 1, none⟩ = some (.slice ia d.m ic) ∧ w2.drew.cell? ⟨w.heap.size, 2, none⟩ = some (.slice xa d.x xc) ∧ w2.drew.cell? ⟨w.heap.size, 3, none⟩ = some (.int .i64 d.used) ∧ w2.drew.cell? ⟨w.heap.size, 4, none⟩ = some (.int .i64 d.live) ∧ w2.drew.cell? ⟨w.heap.size, 5, none⟩ = some (.int .i64 d.turns) := a2
    have vd : w2.drew.cell? ⟨w.heap.size + 1, 0, none⟩ = some (.int .i64 v.kind) ∧ w2.drew.cell? ⟨w.heap.size + 1, 1, none⟩ = some (.int .i64 v.num) ∧ w2.drew.cell? ⟨w.heap.size + 1, 2, none⟩ = some (.float .f64 v.flt) ∧ w2.drew.cell? ⟨w.heap.size + 1, 3, none⟩ = some (.string v.str) ∧ w2.drew.cell? ⟨w.heap.size + 1, 4, none⟩ = some (.int .i64 v.ref) := b2
    have yy : w.heap.size < w2.drew.heap.size := y2
    have uu : w.heap.size + 1 < w2.drew.heap.size := u2
    clear a2 b2
    obtain ⟨p0, p1, p2, p3, p4, p5⟩ := pd
    obtain ⟨c0, c1, c2, c3, c4⟩ := vd
    have na2 : w.heap.size ≠ w2.heap.size := (by omega); have nb2 : w.heap.size + 1 ≠ w2.heap.size := (by omega); have nc2 : w2.heap.size ≠ w.heap.size := (by omega); have nd2 : w2.heap.size ≠ w.heap.size + 1 := (by omega)
    go_region_held3 (fun w' => w'.cell? ⟨w.heap.size, 0, none⟩ = some (.slice la d.n lc) ∧ w'.cell? ⟨w.heap.size, 1, none⟩ = some (.slice ia d.m ic) ∧ w'.cell? ⟨w.heap.size, 2, none⟩ = some (.slice xa d.x xc) ∧ w'.cell? ⟨w.heap.size, 3, none⟩ = some (.int .i64 d.used) ∧ w'.cell? ⟨w.heap.size, 4, none⟩ = some (.int .i64 d.live) ∧ w'.cell? ⟨w.heap.size, 5, none⟩ = some (.int .i64 d.turns) ∧ w'.cell? ⟨w.heap.size + 1, 0, none⟩ = some (.int .i64 v.kind) ∧ w'.cell? ⟨w.heap.size + 1, 1, none⟩ = some (.int .i64 v.num) ∧ w'.cell? ⟨w.heap.size + 1, 2, none⟩ = some (.float .f64 v.flt) ∧ w'.cell? ⟨w.heap.size + 1, 3, none⟩ = some (.string v.str) ∧ w'.cell? ⟨w.heap.size + 1, 4, none⟩ = some (.int .i64 v.ref)) (first | (with_reducible exact ⟨by assumption, by assumption, by assumption, by assumption, by assumption, by assumption, by assumption, by assumption, by assumption, by assumption, by assumption⟩) | (with_reducible exact join6 (keep6 ((Below.refl _ _).alloc (Nat.le_refl _) _) yy ⟨p0, p1, p2, p3, p4, p5⟩) (keep5 ((Below.refl _ _).alloc (Nat.le_refl _) _) uu ⟨c0, c1, c2, c3, c4⟩)) | go_keep)
      (first
        | (go_at_call 30; refine (toDict_any la lc ia ic xa xc d _ ((unhide HA).below (by first | (with_reducible exact unhide HBd) | exact (unhide HBd).alloc (by simp; omega) _)) (unhide HS)).mono ?_; rintro e w3 ⟨⟨s0, s1, s2, rfl, hrow⟩, hb⟩; (first
            | (have hB : Below w2.drew.heap.size w2.drew w3 := (by with_reducible exact hb); (first | (have _hx := bl; obtain ⟨x0, x1, x2, x3, x4⟩ := keep5 hb bl ⟨x0, x1, x2, x3, x4⟩; have bf := keepF hb bl bf; have bl := Nat.lt_of_lt_of_le bl hb.size) | (fail_if_success have _hx := bl)))
            | (have hB : Below w2.drew.heap.size w2.drew w3 := ((Below.refl _ _).alloc (Nat.le_refl _) _).trans (hb.mono (by simp)); obtain ⟨hcx, hfx⟩ := bcell hb; have hzx := hb.size; simp at hzx; have bu : w.heap.size + 1 < w2.heap.size := (by first | exact uu | simpa using uu); have bl : w2.heap.size < w3.heap.size := (by omega); have bx : w3.cell? ⟨w2.heap.size, 0, none⟩ = some (.int .i64 0) ∧ w3.cell? ⟨w2.heap.size, 1, none⟩ = some (.int .i64 0) ∧ w3.cell? ⟨w2.heap.size, 2, none⟩ = some (.float .f64 0) ∧ w3.cell? ⟨w2.heap.size, 3, none⟩ = some (.string ⟨#[]⟩) ∧ w3.cell? ⟨w2.heap.size, 4, none⟩ = some (.int .i64 0) := (by refine ⟨?_, ?_, ?_, ?_, ?_⟩ <;> (rw [hcx _ _ (by simp)]; simp [go_sem])); have bf : ∀ o, w3.frozen? ⟨w2.heap.size, o, none⟩ = false := (fun o => by rw [hfx _ _ (by simp)]; simp [go_sem]); obtain ⟨x0, x1, x2, x3, x4⟩ := bx; clear hcx hfx hzx)); obtain ⟨p0, p1, p2, p3, p4, p5⟩ := keep6 hB yy ⟨p0, p1, p2, p3, p4, p5⟩; obtain ⟨c0, c1, c2, c3, c4⟩ := keep5 hB uu ⟨c0, c1, c2, c3, c4⟩; have yy := Nat.lt_of_lt_of_le yy hB.size; have uu := Nat.lt_of_lt_of_le uu hB.size; have HR3 := hide hrow; have HB3 := hide ((unhide HBd).trans (hB.mono (unhide HBd).size)); clear hrow; have na3 : w.heap.size ≠ w3.heap.size := (by omega); have nb3 : w.heap.size + 1 ≠ w3.heap.size := (by omega); have nc3 : w3.heap.size ≠ w.heap.size := (by omega); have nd3 : w3.heap.size ≠ w.heap.size + 1 := (by omega); clear hb hB)
        | (go_at_call 34; refine (toValue_any v.kind v.num v.flt v.str v.ref _).mono ?_; rintro e w4 ⟨rfl, hb⟩; (first
            | (have hB : Below w3.heap.size w3 w4 := (by with_reducible exact hb); (first | (have _hx := bl; obtain ⟨x0, x1, x2, x3, x4⟩ := keep5 hb bl ⟨x0, x1, x2, x3, x4⟩; have bf := keepF hb bl bf; have bl := Nat.lt_of_lt_of_le bl hb.size) | (fail_if_success have _hx := bl)))
            | (have hB : Below w3.heap.size w3 w4 := ((Below.refl _ _).alloc (Nat.le_refl _) _).trans (hb.mono (by simp)); obtain ⟨hcx, hfx⟩ := bcell hb; have hzx := hb.size; simp at hzx; have bu : w.heap.size + 1 < w3.heap.size := (by first | exact uu | simpa using uu); have bl : w3.heap.size < w4.heap.size := (by omega); have bx : w4.cell? ⟨w3.heap.size, 0, none⟩ = some (.int .i64 0) ∧ w4.cell? ⟨w3.heap.size, 1, none⟩ = some (.int .i64 0) ∧ w4.cell? ⟨w3.heap.size, 2, none⟩ = some (.float .f64 0) ∧ w4.cell? ⟨w3.heap.size, 3, none⟩ = some (.string ⟨#[]⟩) ∧ w4.cell? ⟨w3.heap.size, 4, none⟩ = some (.int .i64 0) := (by refine ⟨?_, ?_, ?_, ?_, ?_⟩ <;> (rw [hcx _ _ (by simp)]; simp [go_sem])); have bf : ∀ o, w4.frozen? ⟨w3.heap.size, o, none⟩ = false := (fun o => by rw [hfx _ _ (by simp)]; simp [go_sem]); obtain ⟨x0, x1, x2, x3, x4⟩ := bx; clear hcx hfx hzx)); obtain ⟨p0, p1, p2, p3, p4, p5⟩ := keep6 hB yy ⟨p0, p1, p2, p3, p4, p5⟩; obtain ⟨c0, c1, c2, c3, c4⟩ := keep5 hB uu ⟨c0, c1, c2, c3, c4⟩; have yy := Nat.lt_of_lt_of_le yy hB.size; have uu := Nat.lt_of_lt_of_le uu hB.size; have HR4 := hide ((unhide HR3).below hB); have HB4 := hide ((unhide HB3).trans (hB.mono (unhide HB3).size)); have na4 : w.heap.size ≠ w4.heap.size := (by omega); have nb4 : w.heap.size + 1 ≠ w4.heap.size := (by omega); have nc4 : w4.heap.size ≠ w.heap.size := (by omega); have nd4 : w4.heap.size ≠ w.heap.size + 1 := (by omega); clear hb hB)
        | (go_at_call 33; refine (unhide HSP _ s0 s1 s2 (by first | (with_reducible exact unhide HR4) | exact (unhide HR4).below ((Below.refl _ _).alloc (Nat.le_refl _) _)) (unhide HS)).mono ?_; rintro e w5 ⟨rfl, hb⟩; (first
            | (have hB : Below w4.heap.size w4 w5 := (by with_reducible exact hb); (first | (have _hx := bl; obtain ⟨x0, x1, x2, x3, x4⟩ := keep5 hb bl ⟨x0, x1, x2, x3, x4⟩; have bf := keepF hb bl bf; have bl := Nat.lt_of_lt_of_le bl hb.size) | (fail_if_success have _hx := bl)))
            | (have hB : Below w4.heap.size w4 w5 := ((Below.refl _ _).alloc (Nat.le_refl _) _).trans (hb.mono (by simp)); obtain ⟨hcx, hfx⟩ := bcell hb; have hzx := hb.size; simp at hzx; have bu : w.heap.size + 1 < w4.heap.size := (by first | exact uu | simpa using uu); have bl : w4.heap.size < w5.heap.size := (by omega); have bx : w5.cell? ⟨w4.heap.size, 0, none⟩ = some (.int .i64 0) ∧ w5.cell? ⟨w4.heap.size, 1, none⟩ = some (.int .i64 0) ∧ w5.cell? ⟨w4.heap.size, 2, none⟩ = some (.float .f64 0) ∧ w5.cell? ⟨w4.heap.size, 3, none⟩ = some (.string ⟨#[]⟩) ∧ w5.cell? ⟨w4.heap.size, 4, none⟩ = some (.int .i64 0) := (by refine ⟨?_, ?_, ?_, ?_, ?_⟩ <;> (rw [hcx _ _ (by simp)]; simp [go_sem])); have bf : ∀ o, w5.frozen? ⟨w4.heap.size, o, none⟩ = false := (fun o => by rw [hfx _ _ (by simp)]; simp [go_sem]); obtain ⟨x0, x1, x2, x3, x4⟩ := bx; clear hcx hfx hzx)); obtain ⟨p0, p1, p2, p3, p4, p5⟩ := keep6 hB yy ⟨p0, p1, p2, p3, p4, p5⟩; obtain ⟨c0, c1, c2, c3, c4⟩ := keep5 hB uu ⟨c0, c1, c2, c3, c4⟩; have yy := Nat.lt_of_lt_of_le yy hB.size; have uu := Nat.lt_of_lt_of_le uu hB.size; have HB5 := hide ((unhide HB4).trans (hB.mono (unhide HB4).size)); have na5 : w.heap.size ≠ w5.heap.size := (by omega); have nb5 : w.heap.size + 1 ≠ w5.heap.size := (by omega); have nc5 : w5.heap.size ≠ w.heap.size := (by omega); have nd5 : w5.heap.size ≠ w.heap.size + 1 := (by omega); clear hb hB))
    all_goals
      refine ⟨rfl, _, s0, s1, s2, rfl, ?_⟩
      first
      | exact R8.of_set ⟨p0, p1, p2, p3, p4, p5⟩ ⟨c0, c1, c2, c3, c4⟩ x0 x1 x2 x3 x4 (unhide HB5) bu bl
      | exact R8.of_alloc ⟨p0, p1, p2, p3, p4, p5⟩ ⟨c0, c1, c2, c3, c4⟩ (unhide HB5) uu
  case cont =>
    rintro e a' W ⟨rfl, bx, s0, s1, s2, rfl, hR⟩
    have y := hR.u
    have l := hR.l
    have yW : w.heap.size < W.heap.size := by omega
    have uW : w.heap.size + 1 < W.heap.size := by omega
    obtain ⟨p0, p1, p2, p3, p4, p5⟩ := hR.p
    obtain ⟨c0, c1, c2, c3, c4⟩ := hR.c
    obtain ⟨x0, x1, x2, x3, x4⟩ := hR.x
    have HBW := hide hR.b
    clear hR
    go_wp2_with fail
    refine (toDict_any la lc ia ic xa xc d _ ((unhide HA).below (unhide HBW)) (unhide HS)).mono ?_
    rintro e w6 ⟨⟨t0, t1, t2, rfl, hrow⟩, hb⟩
    obtain ⟨p0, p1, p2, p3, p4, p5⟩ := keep6 hb yW ⟨p0, p1, p2, p3, p4, p5⟩
    obtain ⟨c0, c1, c2, c3, c4⟩ := keep5 hb uW ⟨c0, c1, c2, c3, c4⟩
    obtain ⟨x0, x1, x2, x3, x4⟩ := keep5 hb y ⟨x0, x1, x2, x3, x4⟩
    have y6 := Nat.lt_of_lt_of_le yW hb.size
    have u6 := Nat.lt_of_lt_of_le uW hb.size
    have b6 := Nat.lt_of_lt_of_le y hb.size
    have HB6 := hide ((unhide HBW).trans (hb.mono (unhide HBW).size))
    have HR6 := hide hrow
    have HP6 := hide (And.intro (And.intro p0 (And.intro p1 (And.intro p2 (And.intro p3 (And.intro p4 p5))))) (And.intro x0 (And.intro x1 (And.intro x2 (And.intro x3 x4)))))
    clear hb hrow p0 p1 p2 p3 p4 p5 x0 x1 x2 x3 x4
    go_wp2_with fail
    obtain ⟨W7, hW7⟩ : ∃ W7, W7 = w6.alloc (.cells #[.slice (some ⟨t0, 0, none⟩) d.n d.n, .slice (some ⟨t1, 0, none⟩) d.m d.m, .slice (some ⟨t2, 0, none⟩) d.x d.x, .int .i64 d.used, .int .i64 d.live, .int .i64 d.turns] 26) := ⟨_, rfl⟩
    rw [← hW7]
    have hb7 : Below w6.heap.size w6 W7 := by rw [hW7]; exact (Below.refl _ _).alloc (Nat.le_refl _) _
    have hz7 : W7.heap.size = w6.heap.size + 1 := by rw [hW7]; simp
    have qd : W7.drew.cell? ⟨w6.heap.size, 0, none⟩ = some (.slice (some ⟨t0, 0, none⟩) d.n d.n) ∧ W7.drew.cell? ⟨w6.heap.size, 1, none⟩ = some (.slice (some ⟨t1, 0, none⟩) d.m d.m) ∧ W7.drew.cell? ⟨w6.heap.size, 2, none⟩ = some (.slice (some ⟨t2, 0, none⟩) d.x d.x) ∧ W7.drew.cell? ⟨w6.heap.size, 3, none⟩ = some (.int .i64 d.used) ∧ W7.drew.cell? ⟨w6.heap.size, 4, none⟩ = some (.int .i64 d.live) ∧ W7.drew.cell? ⟨w6.heap.size, 5, none⟩ = some (.int .i64 d.turns) := by
      rw [hW7]; refine ⟨?_, ?_, ?_, ?_, ?_, ?_⟩ <;> simp [go_sem]
    have cd : W7.drew.cell? ⟨w.heap.size + 1, 0, none⟩ = some (.int .i64 v.kind) ∧ W7.drew.cell? ⟨w.heap.size + 1, 1, none⟩ = some (.int .i64 v.num) ∧ W7.drew.cell? ⟨w.heap.size + 1, 2, none⟩ = some (.float .f64 v.flt) ∧ W7.drew.cell? ⟨w.heap.size + 1, 3, none⟩ = some (.string v.str) ∧ W7.drew.cell? ⟨w.heap.size + 1, 4, none⟩ = some (.int .i64 v.ref) := keep5 hb7.drew u6 ⟨c0, c1, c2, c3, c4⟩
    have HBd : Hid (Below w6.heap.size w6 W7.drew) := hide hb7.drew
    have yy : w6.heap.size < W7.drew.heap.size := by show w6.heap.size < W7.heap.size; omega
    have uu : w.heap.size + 1 < W7.drew.heap.size := by show w.heap.size + 1 < W7.heap.size; omega
    have HT6 := hide (lastsT _ _ (unhide HT) (unhide HB6))
    have hz7' : w6.heap.size < W7.heap.size := by omega
    clear hW7 hb7 hz7 c0 c1 c2 c3 c4
    refine Code.wp_mono (Q := fun e a' w' => e = .normal ∧ ∃ by' : Nat, a' = { tmps := #[Dv la lc ia ic xa xc d, VV v, .pointer (some ⟨w.heap.size, 0, none⟩), .pointer (some ⟨w.heap.size + 1, 0, none⟩), .bool false, .int .i64 (r - (v.str.size : Int)), .pointer (some ⟨bx, 0, none⟩), .pointer (some ⟨w6.heap.size, 0, none⟩), .pointer (some ⟨by', 0, none⟩), Dv la lc ia ic xa xc d, .int .i64 1048576, .int .i64 r, .int .i64 r, .bool (decide (r < 0)), VV v, .int .i64 r, .int .i64 (r - (v.str.size : Int)), .int .i64 (r - (v.str.size : Int)), .bool (decide (r - (v.str.size : Int) < 0)), Dv la lc ia ic xa xc d, Dv (some ⟨s0, 0, none⟩) d.n (some ⟨s1, 0, none⟩) d.m (some ⟨s2, 0, none⟩) d.x d, VV v, VV v, VV oo, Dv la lc ia ic xa xc d, Dv (some ⟨t0, 0, none⟩) d.n (some ⟨t1, 0, none⟩) d.m (some ⟨t2, 0, none⟩) d.x d, Dv (some ⟨t0, 0, none⟩) d.n (some ⟨t1, 0, none⟩) d.m (some ⟨t2, 0, none⟩) d.x d, VV v, VV v, VV oo, undef, undef, undef, undef, undef, undef, undef, undef, undef], defers := [] } ∧ R10 w6 t0 t1 t2 d oo by' w') ?cont10 ?reg10
    case reg10 =>
      obtain ⟨q0, q1, q2, q3, q4, q5⟩ := qd
      obtain ⟨c0, c1, c2, c3, c4⟩ := cd
      have na2 : w6.heap.size ≠ W7.heap.size := (by omega)
      have nb2 : w.heap.size + 1 ≠ W7.heap.size := (by omega)
      have nc2 : W7.heap.size ≠ w6.heap.size := (by omega)
      have nd2 : W7.heap.size ≠ w.heap.size + 1 := (by omega)
      go_region_held3 (fun w' => w'.cell? ⟨w6.heap.size, 0, none⟩ = some (.slice (some ⟨t0, 0, none⟩) d.n d.n) ∧ w'.cell? ⟨w6.heap.size, 1, none⟩ = some (.slice (some ⟨t1, 0, none⟩) d.m d.m) ∧ w'.cell? ⟨w6.heap.size, 2, none⟩ = some (.slice (some ⟨t2, 0, none⟩) d.x d.x) ∧ w'.cell? ⟨w6.heap.size, 3, none⟩ = some (.int .i64 d.used) ∧ w'.cell? ⟨w6.heap.size, 4, none⟩ = some (.int .i64 d.live) ∧ w'.cell? ⟨w6.heap.size, 5, none⟩ = some (.int .i64 d.turns) ∧ w'.cell? ⟨w.heap.size + 1, 0, none⟩ = some (.int .i64 v.kind) ∧ w'.cell? ⟨w.heap.size + 1, 1, none⟩ = some (.int .i64 v.num) ∧ w'.cell? ⟨w.heap.size + 1, 2, none⟩ = some (.float .f64 v.flt) ∧ w'.cell? ⟨w.heap.size + 1, 3, none⟩ = some (.string v.str) ∧ w'.cell? ⟨w.heap.size + 1, 4, none⟩ = some (.int .i64 v.ref)) (first | (with_reducible exact ⟨by assumption, by assumption, by assumption, by assumption, by assumption, by assumption, by assumption, by assumption, by assumption, by assumption, by assumption⟩) | (with_reducible exact join6 (keep6 ((Below.refl _ _).alloc (Nat.le_refl _) _) yy ⟨q0, q1, q2, q3, q4, q5⟩) (keep5 ((Below.refl _ _).alloc (Nat.le_refl _) _) uu ⟨c0, c1, c2, c3, c4⟩)) | go_keep)
        (first
          | (go_at_call 34; refine (toValue_any v.kind v.num v.flt v.str v.ref _).mono ?_; rintro e w8 ⟨rfl, hb⟩; (first | (have hB : Below W7.drew.heap.size W7.drew w8 := (by with_reducible exact hb); (first | (have _hx := bl; obtain ⟨z0, z1, z2, z3, z4⟩ := keep5 hb bl ⟨z0, z1, z2, z3, z4⟩; have bf := keepF hb bl bf; have bl := Nat.lt_of_lt_of_le bl hb.size) | (fail_if_success have _hx := bl))) | (have hB : Below W7.drew.heap.size W7.drew w8 := ((Below.refl _ _).alloc (Nat.le_refl _) _).trans (hb.mono (by simp)); obtain ⟨hcx, hfx⟩ := bcell hb; have hzx := hb.size; simp at hzx; have bu : w6.heap.size < W7.heap.size := (by first | exact yy | simpa using yy); have bl : W7.heap.size < w8.heap.size := (by omega); have bx' : w8.cell? ⟨W7.heap.size, 0, none⟩ = some (.int .i64 0) ∧ w8.cell? ⟨W7.heap.size, 1, none⟩ = some (.int .i64 0) ∧ w8.cell? ⟨W7.heap.size, 2, none⟩ = some (.float .f64 0) ∧ w8.cell? ⟨W7.heap.size, 3, none⟩ = some (.string ⟨#[]⟩) ∧ w8.cell? ⟨W7.heap.size, 4, none⟩ = some (.int .i64 0) := (by refine ⟨?_, ?_, ?_, ?_, ?_⟩ <;> (rw [hcx _ _ (by simp)]; simp [go_sem])); have bf : ∀ o, w8.frozen? ⟨W7.heap.size, o, none⟩ = false := (fun o => by rw [hfx _ _ (by simp)]; simp [go_sem]); obtain ⟨z0, z1, z2, z3, z4⟩ := bx'; clear hcx hfx hzx)); obtain ⟨q0, q1, q2, q3, q4, q5⟩ := keep6 hB yy ⟨q0, q1, q2, q3, q4, q5⟩; obtain ⟨c0, c1, c2, c3, c4⟩ := keep5 hB uu ⟨c0, c1, c2, c3, c4⟩; have yy := Nat.lt_of_lt_of_le yy hB.size; have uu := Nat.lt_of_lt_of_le uu hB.size; have HB8 := hide ((unhide HBd).trans (hB.mono (unhide HBd).size)); have na8 : w6.heap.size ≠ w8.heap.size := (by omega); have nb8 : w.heap.size + 1 ≠ w8.heap.size := (by omega); have nc8 : w8.heap.size ≠ w6.heap.size := (by omega); have nd8 : w8.heap.size ≠ w.heap.size + 1 := (by omega); have HT8 := hide (lastsT _ _ (unhide HT6) (unhide HB8)); have HR8 := hide ((unhide HR6).below (unhide HB8)); clear hb hB)
          | (go_at_call 20; refine (unhide HIP _ t0 t1 t2 (by first | (with_reducible exact unhide HT8) | exact lastsT _ _ (unhide HT8) ((Below.refl _ _).alloc (Nat.le_refl _) _)) (by first | (with_reducible exact unhide HR8) | exact (unhide HR8).below ((Below.refl _ _).alloc (Nat.le_refl _) _)) (unhide HS)).mono ?_; rintro e w9 ⟨rfl, hb⟩; (first | (have hB : Below w8.heap.size w8 w9 := (by with_reducible exact hb); (first | (have _hx := bl; obtain ⟨z0, z1, z2, z3, z4⟩ := keep5 hb bl ⟨z0, z1, z2, z3, z4⟩; have bf := keepF hb bl bf; have bl := Nat.lt_of_lt_of_le bl hb.size) | (fail_if_success have _hx := bl))) | (have hB : Below w8.heap.size w8 w9 := ((Below.refl _ _).alloc (Nat.le_refl _) _).trans (hb.mono (by simp)); obtain ⟨hcx, hfx⟩ := bcell hb; have hzx := hb.size; simp at hzx; have bu : w6.heap.size < w8.heap.size := (by first | exact yy | simpa using yy); have bl : w8.heap.size < w9.heap.size := (by omega); have bx' : w9.cell? ⟨w8.heap.size, 0, none⟩ = some (.int .i64 0) ∧ w9.cell? ⟨w8.heap.size, 1, none⟩ = some (.int .i64 0) ∧ w9.cell? ⟨w8.heap.size, 2, none⟩ = some (.float .f64 0) ∧ w9.cell? ⟨w8.heap.size, 3, none⟩ = some (.string ⟨#[]⟩) ∧ w9.cell? ⟨w8.heap.size, 4, none⟩ = some (.int .i64 0) := (by refine ⟨?_, ?_, ?_, ?_, ?_⟩ <;> (rw [hcx _ _ (by simp)]; simp [go_sem])); have bf : ∀ o, w9.frozen? ⟨w8.heap.size, o, none⟩ = false := (fun o => by rw [hfx _ _ (by simp)]; simp [go_sem]); obtain ⟨z0, z1, z2, z3, z4⟩ := bx'; clear hcx hfx hzx)); obtain ⟨q0, q1, q2, q3, q4, q5⟩ := keep6 hB yy ⟨q0, q1, q2, q3, q4, q5⟩; obtain ⟨c0, c1, c2, c3, c4⟩ := keep5 hB uu ⟨c0, c1, c2, c3, c4⟩; have yy := Nat.lt_of_lt_of_le yy hB.size; have uu := Nat.lt_of_lt_of_le uu hB.size; have HB9 := hide ((unhide HB8).trans (hB.mono (unhide HB8).size)); have na9 : w6.heap.size ≠ w9.heap.size := (by omega); have nb9 : w.heap.size + 1 ≠ w9.heap.size := (by omega); have nc9 : w9.heap.size ≠ w6.heap.size := (by omega); have nd9 : w9.heap.size ≠ w.heap.size + 1 := (by omega); clear hb hB))
      all_goals
        refine ⟨rfl, _, rfl, ?_⟩
        first
        | exact R10.of_set ⟨q0, q1, q2, q3, q4, q5⟩ z0 z1 z2 z3 z4 (unhide HB9) bu bl
        | exact R10.of_alloc ⟨q0, q1, q2, q3, q4, q5⟩ (unhide HB9) yy
    case cont10 =>
    rintro e a' wB ⟨rfl, by', rfl, hR⟩
    have hl := hR.l
    have hu := hR.u
    obtain ⟨q0, q1, q2, q3, q4, q5⟩ := hR.q
    obtain ⟨z0, z1, z2, z3, z4⟩ := hR.x
    have p := keep6 hR.b y6 (unhide HP6).1
    have x := keep5 hR.b b6 (unhide HP6).2
    obtain ⟨p0, p1, p2, p3, p4, p5⟩ := p
    obtain ⟨x0, x1, x2, x3, x4⟩ := x
    have HBB := hide ((unhide HB6).trans (hR.b.mono (unhide HB6).size))
    have HRB := hide ((unhide HR6).below hR.b)
    have yB := Nat.lt_of_lt_of_le y6 hR.b.size
    have zB : w6.heap.size < wB.heap.size := by omega
    clear hR cd qd HBd yy uu
    go_wp2_with fail
    refine (eqValue_self oo.kind oo.num oo.flt oo.str oo.ref _).mono ?_
    rintro e wA ⟨rfl, hb56⟩
    have y6 : w.heap.size < wA.heap.size := Nat.lt_of_lt_of_le yB hb56.size
    have z6 : w6.heap.size < wA.heap.size := Nat.lt_of_lt_of_le zB hb56.size
    obtain ⟨p0', p1', p2', p3', p4', p5'⟩ := keep6 hb56 yB ⟨p0, p1, p2, p3, p4, p5⟩
    obtain ⟨q0', q1', q2', q3', q4', q5'⟩ := keep6 hb56 zB ⟨q0, q1, q2, q3, q4, q5⟩
    have HB6 := hide ((unhide HBB).trans (hb56.mono (unhide HBB).size))
    have HR6 := hide ((unhide HRB).below hb56)
    clear hb56 p0 p1 p2 p3 p4 p5 q0 q1 q2 q3 q4 q5 x0 x1 x2 x3 x4 z0 z1 z2 z3 z4
    go_wp2
    have HBd : Hid (Below w.heap.size w wA.drew) := hide (unhide HB6).drew
    have HRd : Hid (DAt wA.drew (some ⟨t0, 0, none⟩) (some ⟨t1, 0, none⟩) (some ⟨t2, 0, none⟩) d) := hide ((unhide HR6).below (Below.refl _ _).drew)
    have pd : wA.drew.cell? ⟨w.heap.size, 0, none⟩ = some (.slice la d.n lc) ∧ wA.drew.cell? ⟨w.heap.size, 1, none⟩ = some (.slice ia d.m ic) ∧ wA.drew.cell? ⟨w.heap.size, 2, none⟩ = some (.slice xa d.x xc) ∧ wA.drew.cell? ⟨w.heap.size, 3, none⟩ = some (.int .i64 d.used) ∧ wA.drew.cell? ⟨w.heap.size, 4, none⟩ = some (.int .i64 d.live) ∧ wA.drew.cell? ⟨w.heap.size, 5, none⟩ = some (.int .i64 d.turns) := ⟨p0', p1', p2', p3', p4', p5'⟩
    have qd : wA.drew.cell? ⟨w6.heap.size, 0, none⟩ = some (.slice (some ⟨t0, 0, none⟩) d.n d.n) ∧ wA.drew.cell? ⟨w6.heap.size, 1, none⟩ = some (.slice (some ⟨t1, 0, none⟩) d.m d.m) ∧ wA.drew.cell? ⟨w6.heap.size, 2, none⟩ = some (.slice (some ⟨t2, 0, none⟩) d.x d.x) ∧ wA.drew.cell? ⟨w6.heap.size, 3, none⟩ = some (.int .i64 d.used) ∧ wA.drew.cell? ⟨w6.heap.size, 4, none⟩ = some (.int .i64 d.live) ∧ wA.drew.cell? ⟨w6.heap.size, 5, none⟩ = some (.int .i64 d.turns) := ⟨q0', q1', q2', q3', q4', q5'⟩
    obtain ⟨p0, p1, p2, p3, p4, p5⟩ := pd
    obtain ⟨q0, q1, q2, q3, q4, q5⟩ := qd
    go_region_held3 (fun w' => w'.cell? ⟨w.heap.size, 0, none⟩ = some (.slice la d.n lc) ∧ w'.cell? ⟨w.heap.size, 1, none⟩ = some (.slice ia d.m ic) ∧ w'.cell? ⟨w.heap.size, 2, none⟩ = some (.slice xa d.x xc) ∧ w'.cell? ⟨w.heap.size, 3, none⟩ = some (.int .i64 d.used) ∧ w'.cell? ⟨w.heap.size, 4, none⟩ = some (.int .i64 d.live) ∧ w'.cell? ⟨w.heap.size, 5, none⟩ = some (.int .i64 d.turns) ∧ w'.cell? ⟨w6.heap.size, 0, none⟩ = some (.slice (some ⟨t0, 0, none⟩) d.n d.n) ∧ w'.cell? ⟨w6.heap.size, 1, none⟩ = some (.slice (some ⟨t1, 0, none⟩) d.m d.m) ∧ w'.cell? ⟨w6.heap.size, 2, none⟩ = some (.slice (some ⟨t2, 0, none⟩) d.x d.x) ∧ w'.cell? ⟨w6.heap.size, 3, none⟩ = some (.int .i64 d.used) ∧ w'.cell? ⟨w6.heap.size, 4, none⟩ = some (.int .i64 d.live) ∧ w'.cell? ⟨w6.heap.size, 5, none⟩ = some (.int .i64 d.turns)) (first | exact ⟨by assumption, by assumption, by assumption, by assumption, by assumption, by assumption, by assumption, by assumption, by assumption, by assumption, by assumption, by assumption⟩ | go_keep)
      (first
        | (go_at_call 30; refine (toDict_any la lc ia ic xa xc d _ ((unhide HA).below (unhide HBd)) (unhide HS)).mono ?_; rintro e wC ⟨⟨v0, v1, v2, rfl, hrowA⟩, hb8⟩; obtain ⟨m0, m1, m2, m3, m4, m5⟩ := keep6 hb8 y6 ⟨p0, p1, p2, p3, p4, p5⟩; obtain ⟨n0, n1, n2, n3, n4, n5⟩ := keep6 hb8 z6 ⟨q0, q1, q2, q3, q4, q5⟩; have y8 := Nat.lt_of_lt_of_le y6 hb8.size; have z8 := Nat.lt_of_lt_of_le z6 hb8.size; have HR8 := hide hrowA; have HX8 := hide ((unhide HRd).below hb8); have HB8 := hide ((unhide HBd).trans (hb8.mono (unhide HBd).size)); clear hrowA hb8)
        | (go_at_call 31; refine (eqDict_same (some ⟨t0, 0, none⟩) (some ⟨v0, 0, none⟩) (some ⟨t1, 0, none⟩) (some ⟨v1, 0, none⟩) (some ⟨t2, 0, none⟩) (some ⟨v2, 0, none⟩) d.n d.n d.m d.m d.x d.x d _ (unhide HX8) (unhide HR8) (unhide HS)).mono ?_; rintro e wE ⟨rfl, hb9⟩; obtain ⟨m0', m1', m2', m3', m4', m5'⟩ := keep6 hb9 y8 ⟨m0, m1, m2, m3, m4, m5⟩; obtain ⟨n0', n1', n2', n3', n4', n5'⟩ := keep6 hb9 z8 ⟨n0, n1, n2, n3, n4, n5⟩; have HB9 := hide ((unhide HB8).trans (hb9.mono (unhide HB8).size)); clear hb9))
    go_wp2
    go_ret
    exact ⟨rfl, unhide HB9⟩
end Go.Proofs.YtglcaejddckleaaGreatDoor
