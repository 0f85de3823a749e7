import Derived.Test.YtglcaejddckleaaGreatDoorFA
import Derived.Deep.RegionHeld3
import Derived.Test.YtglcaejddckleaaGreatDoorChecked
import GoSem.Claim
import GoSem.ClaimJoined
import GoSem.ClaimMapViews
import Derived.JoinedTies
import Derived.KernelRfl
import Derived.RowKit
import Derived.WalkKit
import Derived.WalkSpells
import Derived.WalkLawsBesides
import Derived.Deep.QuietTactic
import Derived.BigQuiet
import Derived.Test.YtglcaejddckleaaGreatDoorHashA
import Derived.Laws.BitsAllLaws
import Derived.Test.YtglcaejddckleaaGreatDoorHide
import Derived.Laws.BytesString
import Derived.Laws.IdiomStrings
import Derived.Test.YtglcaejddckleaaGreatDoorHashE
import Derived.Test.YtglcaejddckleaaGreatDoorKeyD
import Derived.Test.YtglcaejddckleaaGreatDoorKeyE
set_option linter.unusedVariables false
namespace Go.Proofs.YtglcaejddckleaaGreatDoor
section
open Go.RowKit
attribute [local go_sem] run_store_float run_equalIn_float
abbrev VV (v : Vl) : Value := V v.kind v.num v.flt v.str v.ref
def atPlace (d : Dc) (p : Int) : Vl := if 0 ≤ p then (d.L p.toNat).val else default
open Classical in
noncomputable def getV (d : Dc) (c : Int) (kv : Vl) : Vl := if dictOk d (hD d) = 0 ∧ c = 0 then atPlace d (placeI d kv (hN kv)) else default
end
section
open Go.RowKit Go.Shelf
attribute [local go_sem] run_store_float run_equalIn_float
set_option maxRecDepth 100000 in
set_option maxHeartbeats 2000000 in
theorem implGet (la : Option Addr) (lc : Nat) (ia : Option Addr) (ic : Nat) (xa : Option Addr) (xc : Nat) (d : Dc) (v : Vl) (c : Int) (kv : Vl) (w : World) (hA : DAt w la ia xa d) (hS : Small d) (hW : WfD d) (hk : keyV v.kind v.num v.flt v.str v.ref = KV c kv.kind kv.num kv.flt kv.str kv.ref) (hh : c = 0 → HsI Tabs kv (hN kv)) (hT : Tabs w) :
  Calls Tryz.prog 20 #[Dv la lc ia ic xa xc d, VV v] w fun e w' => e = .returned (VV (getV d c kv)) ∧ Below w.heap.size w w' := by
 have HA := uy hA
 have HS := uy hS
 have HW := uy hW
 have HKV := uy hk
 have HH := uy hh
 have HT := uy hT
 clear hA hS hW hk hh hT
 have hb0 : Below w.heap.size w (((w.alloc (.cells #[.slice la d.n lc, .slice ia d.m ic, .slice xa d.x xc, .int .i64 d.used, .int .i64 d.live, .int .i64 d.turns] 26)).alloc (.cells #[.int .i64 v.kind, .int .i64 v.num, .float .f64 v.flt, .string v.str, .int .i64 v.ref] 30)).alloc (.cells #[.int .i64 0, .int .i64 0, .float .f64 0, .string ⟨#[]⟩, .int .i64 0] 30)) := (((Below.refl _ _).alloc (Nat.le_refl _) _).alloc (by simp) _).alloc (by simp; omega) _
 have HB0 := uy hb0
 clear hb0
 go_enter Tryz.func20, Tryz.ntmps20
 go_wp2_with fail
 refine (ikey_any v.kind v.num v.flt v.str v.ref _).mono ?_
 rintro e w1 ⟨rfl, hb1⟩
 rw [uh HKV]
 obtain ⟨hc1, hf1⟩ := bcell hb1
 have hz1 := hb1.size
 simp at hz1
 have y0 : w.heap.size < w1.heap.size := by omega
 have y2 : w.heap.size + 1 + 1 < w1.heap.size := by omega
 have q0 : w1.cell? ⟨w.heap.size, 0, none⟩ = some (.slice la d.n lc) := by rw [hc1 _ _ (by simp; omega)]; simp [go_sem]
 have q1 : w1.cell? ⟨w.heap.size, 1, none⟩ = some (.slice ia d.m ic) := by rw [hc1 _ _ (by simp; omega)]; simp [go_sem]
 have q2 : w1.cell? ⟨w.heap.size, 2, none⟩ = some (.slice xa d.x xc) := by rw [hc1 _ _ (by simp; omega)]; simp [go_sem]
 have q3 : w1.cell? ⟨w.heap.size, 3, none⟩ = some (.int .i64 d.used) := by rw [hc1 _ _ (by simp; omega)]; simp [go_sem]
 have q4 : w1.cell? ⟨w.heap.size, 4, none⟩ = some (.int .i64 d.live) := by rw [hc1 _ _ (by simp; omega)]; simp [go_sem]
 have q5 : w1.cell? ⟨w.heap.size, 5, none⟩ = some (.int .i64 d.turns) := by rw [hc1 _ _ (by simp; omega)]; simp [go_sem]
 have r0 : w1.cell? ⟨w.heap.size + 1 + 1, 0, none⟩ = some (.int .i64 0) := by rw [hc1 _ _ (by simp)]; simp [go_sem]
 have r1 : w1.cell? ⟨w.heap.size + 1 + 1, 1, none⟩ = some (.int .i64 0) := by rw [hc1 _ _ (by simp)]; simp [go_sem]
 have r2 : w1.cell? ⟨w.heap.size + 1 + 1, 2, none⟩ = some (.float .f64 0) := by rw [hc1 _ _ (by simp)]; simp [go_sem]
 have r3 : w1.cell? ⟨w.heap.size + 1 + 1, 3, none⟩ = some (.string ⟨#[]⟩) := by rw [hc1 _ _ (by simp)]; simp [go_sem]
 have r4 : w1.cell? ⟨w.heap.size + 1 + 1, 4, none⟩ = some (.int .i64 0) := by rw [hc1 _ _ (by simp)]; simp [go_sem]
 have fr : ∀ o, w1.frozen? ⟨w.heap.size + 1 + 1, o, none⟩ = false := fun o => by rw [hf1 _ _ (by simp)]; simp [go_sem]
 have HB1 := uy ((uh HB0).trans (hb1.mono (uh HB0).size))
 have HBs1 : Hid (∀ o, Below w.heap.size w (w1.alloc o)) := uy (fun o => (uh HB1).alloc (by omega) _)
 clear hb1 hc1 hf1
 by_cases hc : c = 0
 case neg =>
  have HR : Hid (getV d c kv = default) := uy (if_neg (fun h => hc h.2))
  have hc' : (c != 0) = true := by simp [hc]
  clear hc
  go_wp2
  refine bodyPost_ret (v := .agg #[.int .i64 0, .int .i64 0, .float .f64 0, .string ⟨#[]⟩, .int .i64 0]) (by simp [results, Tryz.results20, go_sem, World.cell?_alloc_lt, y2, r0, r1, r2, r3, r4]) rfl ⟨by rw [uh HR]; rfl, ?_⟩
  refine Below.alloc ?_ (by simp; omega) _
  iterate 5 (refine Below.setCell ?_ (by show w.heap.size ≤ w.heap.size + 1 + 1; omega) _)
  exact uh HB1
 have HHs := uy (uh HH hc)
 subst hc
 go_wp2_with fail
 refine (implOk la lc ia ic xa xc d _ (lastsT _ _ (uh HT) (uh HBs1 _)) ((uh HA).below (uh HBs1 _)) (uh HS) (uh HW)).mono ?_
 rintro e w2 ⟨rfl, hb2⟩
 obtain ⟨hc2, hf2⟩ := bcell hb2
 have hz2 := hb2.size
 simp at hz2
 have z0 : w.heap.size < w2.heap.size := by omega
 have z2 : w.heap.size + 1 + 1 < w2.heap.size := by omega
 have z3 : w1.heap.size < w2.heap.size := by omega
 have q0' : w2.cell? ⟨w.heap.size, 0, none⟩ = some (.slice la d.n lc) := by rw [hc2 _ _ (by simp; omega), World.cell?_alloc_lt _ _ _ (by exact y0)]; exact q0
 have q1' : w2.cell? ⟨w.heap.size, 1, none⟩ = some (.slice ia d.m ic) := by rw [hc2 _ _ (by simp; omega), World.cell?_alloc_lt _ _ _ (by exact y0)]; exact q1
 have q2' : w2.cell? ⟨w.heap.size, 2, none⟩ = some (.slice xa d.x xc) := by rw [hc2 _ _ (by simp; omega), World.cell?_alloc_lt _ _ _ (by exact y0)]; exact q2
 have q3' : w2.cell? ⟨w.heap.size, 3, none⟩ = some (.int .i64 d.used) := by rw [hc2 _ _ (by simp; omega), World.cell?_alloc_lt _ _ _ (by exact y0)]; exact q3
 have q4' : w2.cell? ⟨w.heap.size, 4, none⟩ = some (.int .i64 d.live) := by rw [hc2 _ _ (by simp; omega), World.cell?_alloc_lt _ _ _ (by exact y0)]; exact q4
 have q5' : w2.cell? ⟨w.heap.size, 5, none⟩ = some (.int .i64 d.turns) := by rw [hc2 _ _ (by simp; omega), World.cell?_alloc_lt _ _ _ (by exact y0)]; exact q5
 have r0' : w2.cell? ⟨w.heap.size + 1 + 1, 0, none⟩ = some (.int .i64 0) := by rw [hc2 _ _ (by simp; omega), World.cell?_alloc_lt _ _ _ (by exact y2)]; exact r0
 have r1' : w2.cell? ⟨w.heap.size + 1 + 1, 1, none⟩ = some (.int .i64 0) := by rw [hc2 _ _ (by simp; omega), World.cell?_alloc_lt _ _ _ (by exact y2)]; exact r1
 have r2' : w2.cell? ⟨w.heap.size + 1 + 1, 2, none⟩ = some (.float .f64 0) := by rw [hc2 _ _ (by simp; omega), World.cell?_alloc_lt _ _ _ (by exact y2)]; exact r2
 have r3' : w2.cell? ⟨w.heap.size + 1 + 1, 3, none⟩ = some (.string ⟨#[]⟩) := by rw [hc2 _ _ (by simp; omega), World.cell?_alloc_lt _ _ _ (by exact y2)]; exact r3
 have r4' : w2.cell? ⟨w.heap.size + 1 + 1, 4, none⟩ = some (.int .i64 0) := by rw [hc2 _ _ (by simp; omega), World.cell?_alloc_lt _ _ _ (by exact y2)]; exact r4
 have k0 : w2.cell? ⟨w1.heap.size, 0, none⟩ = some (.int .i64 0) := by rw [hc2 _ _ (by simp)]; simp [go_sem]
 have k1 : w2.cell? ⟨w1.heap.size, 1, none⟩ = some (.int .i64 kv.kind) := by rw [hc2 _ _ (by simp)]; simp [go_sem]
 have k2 : w2.cell? ⟨w1.heap.size, 2, none⟩ = some (.int .i64 kv.num) := by rw [hc2 _ _ (by simp)]; simp [go_sem]
 have k3 : w2.cell? ⟨w1.heap.size, 3, none⟩ = some (.float .f64 kv.flt) := by rw [hc2 _ _ (by simp)]; simp [go_sem]
 have k4 : w2.cell? ⟨w1.heap.size, 4, none⟩ = some (.string kv.str) := by rw [hc2 _ _ (by simp)]; simp [go_sem]
 have k5 : w2.cell? ⟨w1.heap.size, 5, none⟩ = some (.int .i64 kv.ref) := by rw [hc2 _ _ (by simp)]; simp [go_sem]
 have fr2 : ∀ o, w2.frozen? ⟨w.heap.size + 1 + 1, o, none⟩ = false := fun o => by rw [hf2 _ _ (by simp; omega)]; exact (((Below.refl w1.heap.size w1).alloc (Nat.le_refl _) _).frozen (p := ⟨w.heap.size + 1 + 1, o, none⟩) y2).trans (fr o)
 have HB2 := uy ((uh HBs1 _).trans (hb2.mono (uh HBs1 _).size))
 clear hb2 hc2 hf2 fr q0 q1 q2 q3 q4 q5 r0 r1 r2 r3 r4
 by_cases hok : dictOk d (hD d) = 0
 case neg =>
  have HR : Hid (getV d 0 kv = default) := uy (if_neg (fun h => hok h.1))
  have hk' : (dictOk d (hD d) != 0) = true := by simp [hok]
  clear hok
  generalize dictOk d (hD d) = ok at hk'
  go_wp2
  refine bodyPost_ret (v := .agg #[.int .i64 0, .int .i64 0, .float .f64 0, .string ⟨#[]⟩, .int .i64 0]) (by simp [results, Tryz.results20, go_sem, r0', r1', r2', r3', r4']) rfl ⟨by rw [uh HR]; rfl, ?_⟩
  iterate 5 (refine Below.setCell ?_ (by show w.heap.size ≤ w.heap.size + 1 + 1; omega) _)
  exact uh HB2
 have HR : Hid (getV d 0 kv = atPlace d (placeI d kv (hN kv))) := uy (if_pos ⟨hok, rfl⟩)
 have HSd := uy (sound_of hok)
 rw [hok]
 clear hok
 have HAd := uy ((uh HA).below (uh HB2).drew)
 have HTd := uy (lastsT _ _ (uh HT) (uh HB2).drew)
 have HB2d := uy (uh HB2).drew
 go_wp2_with fail
 go_region_law (first
  | (go_simp; go_at_call 52; refine (openBook_any la lc ia ic xa xc d _ (uh HAd) (uh HS) (uh HSd).d3 (uh HSd).d4).mono ?_; rintro e w3 ⟨⟨bk, R0, R1, R2, E, S, rfl, hBk⟩, hb3⟩; have n1 := (hb3.cell (p := ⟨w1.heap.size, 1, none⟩) z3).trans k1; have n2 := (hb3.cell (p := ⟨w1.heap.size, 2, none⟩) z3).trans k2; have n3 := (hb3.cell (p := ⟨w1.heap.size, 3, none⟩) z3).trans k3; have n4 := (hb3.cell (p := ⟨w1.heap.size, 4, none⟩) z3).trans k4; have n5 := (hb3.cell (p := ⟨w1.heap.size, 5, none⟩) z3).trans k5; have m0 := (hb3.cell (p := ⟨w.heap.size + 1 + 1, 0, none⟩) z2).trans r0'; have m1 := (hb3.cell (p := ⟨w.heap.size + 1 + 1, 1, none⟩) z2).trans r1'; have m2 := (hb3.cell (p := ⟨w.heap.size + 1 + 1, 2, none⟩) z2).trans r2'; have m3 := (hb3.cell (p := ⟨w.heap.size + 1 + 1, 3, none⟩) z2).trans r3'; have m4 := (hb3.cell (p := ⟨w.heap.size + 1 + 1, 4, none⟩) z2).trans r4'; have mf : ∀ o, w3.frozen? ⟨w.heap.size + 1 + 1, o, none⟩ = false := fun o => (hb3.frozen (p := ⟨w.heap.size + 1 + 1, o, none⟩) z2).trans (fr2 o); have x2 := Nat.lt_of_lt_of_le z2 hb3.size; have x3 := Nat.lt_of_lt_of_le z3 hb3.size; have HT3 := uy (lastsT _ _ (uh HTd) hb3); have HBk := uy hBk; have HB3 := uy ((uh HB2d).trans (hb3.mono (uh HB2d).size)); clear hb3 hBk)
  | (go_simp; go_at_call 67; refine (bfind_any Tabs lastsT bk R0 R1 R2 E S d kv (hN kv) (uh HHs) _ (uh HT3) (uh HBk) (uh HS) (uh HSd).d3 (uh HSd).d4).mono ?_; rintro e w4 ⟨rfl, hb4⟩; have s0 := (hb4.cell (p := ⟨w.heap.size + 1 + 1, 0, none⟩) x2).trans m0; have s1 := (hb4.cell (p := ⟨w.heap.size + 1 + 1, 1, none⟩) x2).trans m1; have s2 := (hb4.cell (p := ⟨w.heap.size + 1 + 1, 2, none⟩) x2).trans m2; have s3 := (hb4.cell (p := ⟨w.heap.size + 1 + 1, 3, none⟩) x2).trans m3; have s4 := (hb4.cell (p := ⟨w.heap.size + 1 + 1, 4, none⟩) x2).trans m4; have sf : ∀ o, w4.frozen? ⟨w.heap.size + 1 + 1, o, none⟩ = false := fun o => (hb4.frozen (p := ⟨w.heap.size + 1 + 1, o, none⟩) x2).trans (mf o); have x4 := Nat.lt_of_lt_of_le x2 hb4.size; have HBk4 := uy ((uh HBk).below hb4); have HB4 := uy ((uh HB3).trans (hb4.mono (uh HB3).size)); clear hb4))
 all_goals
  clear HBk HB3 HT3 HAd HTd HB2d m0 m1 m2 m3 m4 n1 n2 n3 n4 n5 mf x2 x3
  obtain ⟨hp1, hp2⟩ := place_range (uh HSd).d3 (uh HSd).d4 kv (hN kv)
  generalize hpl : placeI d kv (hN kv) = pl at HR hp1 hp2 ⊢
  clear hpl
  have hn := (uh HS).n
  by_cases hneg : pl < 0
  ·have HR2 : Hid (getV d 0 kv = default) := uy ((uh HR).trans (if_neg (by omega)))
   have hpp : placeP E pl = none := if_neg (by omega)
   rw [hpp]
   clear hpp
   go_wp2
   refine bodyPost_ret (v := .agg #[.int .i64 0, .int .i64 0, .float .f64 0, .string ⟨#[]⟩, .int .i64 0]) (by simp [results, Tryz.results20, go_sem, s0, s1, s2, s3, s4]) rfl ⟨by rw [uh HR2]; rfl, ?_⟩
   iterate 5 (refine Below.setCell ?_ (by show w.heap.size ≤ w.heap.size + 1 + 1; omega) _)
   exact uh HB4
  ·obtain ⟨q, hq⟩ : ∃ q : Nat, pl = (q : Int) := ⟨pl.toNat, by omega⟩
   subst hq
   have hqn : q < d.n := by omega
   have HR2 : Hid (getV d 0 kv = (d.L q).val) := uy ((uh HR).trans (by unfold atPlace; rw [if_pos (by omega)]; rfl))
   have hpp : placeP E (q : Int) = some ⟨E q, 0, none⟩ := by unfold placeP; rw [if_pos (by omega)]; rfl
   rw [hpp]
   have hE := (uh HBk4).ent q hqn
   have e0 := hE.v0
   have e1 := hE.v1
   have e2 := hE.v2
   have e3 := hE.v3
   have e4 := hE.v4
   have el := hE.lt
   clear hpp hE hp1 hp2 hneg
   go_wp2
   refine bodyPost_ret (v := VV (d.L q).val) (by simp [results, Tryz.results20, go_sem, s0, s1, s2, s3, s4]) rfl ⟨by rw [uh HR2], ?_⟩
   iterate 5 (refine Below.setCell ?_ (by show w.heap.size ≤ w.heap.size + 1 + 1; omega) _)
   exact uh HB4
end
section
open Go.RowKit
attribute [local go_sem] run_store_float run_equalIn_float
structure R8 (w : World) (la : Option Addr) (lc : Nat) (ia : Option Addr) (ic : Nat) (xa : Option Addr) (xc : Nat) (d : Dc) (v oo : Vl) (bx : Nat) (w' : World) : Prop where
 p : w'.cell? ⟨w.heap.size, 0, none⟩ = some (.slice la d.n lc) ∧ w'.cell? ⟨w.heap.size, 1, none⟩ = some (.slice ia d.m ic) ∧ w'.cell? ⟨w.heap.size, 2, none⟩ = some (.slice xa d.x xc) ∧ w'.cell? ⟨w.heap.size, 3, none⟩ = some (.int .i64 d.used) ∧ w'.cell? ⟨w.heap.size, 4, none⟩ = some (.int .i64 d.live) ∧ w'.cell? ⟨w.heap.size, 5, none⟩ = some (.int .i64 d.turns)
 c : w'.cell? ⟨w.heap.size + 1, 0, none⟩ = some (.int .i64 v.kind) ∧ w'.cell? ⟨w.heap.size + 1, 1, none⟩ = some (.int .i64 v.num) ∧ w'.cell? ⟨w.heap.size + 1, 2, none⟩ = some (.float .f64 v.flt) ∧ w'.cell? ⟨w.heap.size + 1, 3, none⟩ = some (.string v.str) ∧ w'.cell? ⟨w.heap.size + 1, 4, none⟩ = some (.int .i64 v.ref)
 x : w'.cell? ⟨bx, 0, none⟩ = some (.int .i64 oo.kind) ∧ w'.cell? ⟨bx, 1, none⟩ = some (.int .i64 oo.num) ∧ w'.cell? ⟨bx, 2, none⟩ = some (.float .f64 oo.flt) ∧ w'.cell? ⟨bx, 3, none⟩ = some (.string oo.str) ∧ w'.cell? ⟨bx, 4, none⟩ = some (.int .i64 oo.ref)
 b : Below w.heap.size w w'
 l : w.heap.size + 1 < bx
 u : bx < w'.heap.size
structure R10 (w6 : World) (t0 t1 t2 : Nat) (d : Dc) (oo : Vl) (bx : Nat) (w' : World) : Prop where
 q : w'.cell? ⟨w6.heap.size, 0, none⟩ = some (.slice (some ⟨t0, 0, none⟩) d.n d.n) ∧ w'.cell? ⟨w6.heap.size, 1, none⟩ = some (.slice (some ⟨t1, 0, none⟩) d.m d.m) ∧ w'.cell? ⟨w6.heap.size, 2, none⟩ = some (.slice (some ⟨t2, 0, none⟩) d.x d.x) ∧ w'.cell? ⟨w6.heap.size, 3, none⟩ = some (.int .i64 d.used) ∧ w'.cell? ⟨w6.heap.size, 4, none⟩ = some (.int .i64 d.live) ∧ w'.cell? ⟨w6.heap.size, 5, none⟩ = some (.int .i64 d.turns)
 x : w'.cell? ⟨bx, 0, none⟩ = some (.int .i64 oo.kind) ∧ w'.cell? ⟨bx, 1, none⟩ = some (.int .i64 oo.num) ∧ w'.cell? ⟨bx, 2, none⟩ = some (.float .f64 oo.flt) ∧ w'.cell? ⟨bx, 3, none⟩ = some (.string oo.str) ∧ w'.cell? ⟨bx, 4, none⟩ = some (.int .i64 oo.ref)
 b : Below w6.heap.size w6 w'
 l : w6.heap.size < bx
 u : bx < w'.heap.size
end
section
open Go.RowKit
attribute [local go_sem] run_store_float run_equalIn_float
theorem zero_num' {x : Nat} (h : fz x = true) : ∃ s i, Ieee.double.read x = .number s 0 i := by
 have h' : (Ieee.double.order x 0 == some .eq) = true := h
 rcases Fl.read_cases x with ⟨s, m, i, hr, hi, hi2, hm, _⟩ | ⟨s, hr⟩ | ⟨s, t, hr⟩
 ·rw [Fl.ord_of hr Fl.read_nil hi (by omega), Fl.cmp_eq, Fl.sc_zero] at h'
  have h0 : Fl.sc s m i = 0 := by simpa using h'
  unfold Fl.sc at h0
  rw [Fl.signed_eq] at h0
  have hp := Fl.pow_pos' (i + 1074).toNat
  have : m = 0 := by
   generalize (2 : Int) ^ (i + 1074).toNat = u at h0 hp
   have h1 : (m : Int) * u = 0 := by
    cases s
    ·simpa using h0
    ·simpa using h0
   rcases Int.mul_eq_zero.1 h1 with h | h <;> omega
  subst this
  exact ⟨s, i, hr⟩
 ·exfalso
  unfold Ieee.Format.order at h'
  rw [hr, Fl.read_nil] at h'
  cases s <;> simp [Ieee.Datum.order] at h'
 ·exfalso
  unfold Ieee.Format.order at h'
  rw [hr] at h'
  simp [Ieee.Datum.order] at h'
theorem quo_zero' {x : Nat} (h : fz x = true) : ∃ r, floatBits .quo .f64 4607182418800017408 x = some r ∧ (FloatKind.f64.format.order r r == some .eq) = true := by
 obtain ⟨s, i, hr⟩ := zero_num' h
 refine ⟨Ieee.double.write (.infinity (false ^^ s)), ?_, ?_⟩
 ·show ((Ieee.double.read 4607182418800017408).quotient _ (Ieee.double.read x)).map Ieee.double.write = _
  rw [hr, Fl.read_one]
  simp [Ieee.Datum.quotient]
 ·cases s <;> decide
set_option maxHeartbeats 1000000 in
theorem wVal_self (kind num : Int) (flt : Nat) (s : ByteArray) (ref : Int) (w : World) :
  Calls Tryz.prog 22 #[V kind num flt s ref, V kind num flt s ref] w fun e w' => e = .returned (.bool true) ∧ Below w.heap.size w w' := by
 by_cases h1 : fnan flt = true
 ·have g1 : (FloatKind.f64.format.order flt flt != some .eq) = true := h1
  clear h1
  go_enter Tryz.func22, Tryz.ntmps22
  go_wp2
  go_ret
  exact ⟨rfl, ((Below.refl _ _).alloc (Nat.le_refl _) _).alloc (by simp) _⟩
 have g1 : (FloatKind.f64.format.order flt flt != some .eq) = false := (by simpa using h1 : fnan flt = false)
 have g2 : (FloatKind.f64.format.order flt flt == some .eq) = true := by simpa using g1
 by_cases h2 : fz flt = true
 ·have g3 : (FloatKind.f64.format.order flt 0 != some .eq) = false := by
   have : (FloatKind.f64.format.order flt 0 == some .eq) = true := h2
   simpa using this
  obtain ⟨r, hr, g4⟩ := quo_zero' h2
  have hq : ∀ w : World, (binOp .quo 28 (.float .f64 4607182418800017408) (.float .f64 flt)).run Tryz.prog w = .ok (.float .f64 r) w := fun w => run_float_arith w .quo 28 .f64 _ _ r hr
  clear h1 h2 hr
  go_enter Tryz.func22, Tryz.ntmps22
  go_wp2
  go_ret
  exact ⟨rfl, ((Below.refl _ _).alloc (Nat.le_refl _) _).alloc (by simp) _⟩
 ·have g3 : (FloatKind.f64.format.order flt 0 != some .eq) = true := by
   have : (FloatKind.f64.format.order flt 0 == some .eq) = false := (by simpa using h2 : fz flt = false)
   simpa using this
  clear h1 h2
  go_enter Tryz.func22, Tryz.ntmps22
  go_wp2
  go_ret
  exact ⟨rfl, ((Below.refl _ _).alloc (Nat.le_refl _) _).alloc (by simp) _⟩
end
section
open Go.RowKit
def CodeAt (w : World) (b : Nat) (a : Option Addr) (len : Nat) : Prop :=
 len < 9007199254740992 ∧ (len = 0 ∨ ∃ k off, a = some ⟨k, off, none⟩ ∧ k < b ∧ ∀ i, i < len → ∃ z : Int, w.cell? ⟨k, off + i, none⟩ = some (.int .u8 z) ∧ 0 ≤ z ∧ z < 256)
structure Cu (b N : Nat) (w : World) : Prop where
 ex : ∃ a len cap at_ seed, w.cell? ⟨b, 0, none⟩ = some (.slice a len cap) ∧ w.cell? ⟨b, 1, none⟩ = some (.int .i64 at_) ∧ w.cell? ⟨b, 2, none⟩ = some (.int .u64 seed) ∧ 0 ≤ at_ ∧ at_ ≤ N ∧ 0 ≤ seed ∧ seed < 18446744073709551616 ∧ CodeAt w b a len
 fz : ∀ o, w.frozen? ⟨b, o, none⟩ = false
structure Stc (b : Nat) (w w' : World) : Prop where
 os : w'.os = w.os
 tape : w'.tape = w.tape
 output : w'.output = w.output
 size : w'.heap.size = w.heap.size
 block : ∀ k, k ≠ b → w'.heap[k]? = w.heap[k]?
theorem Stc.refl (b : Nat) (w : World) : Stc b w w := ⟨rfl, rfl, rfl, rfl, fun _ _ => rfl⟩
theorem Stc.trans {b : Nat} {u v w : World} (h : Stc b u v) (k : Stc b v w) : Stc b u w :=
 ⟨k.os.trans h.os, k.tape.trans h.tape, k.output.trans h.output, k.size.trans h.size, fun i hi => (k.block i hi).trans (h.block i hi)⟩
theorem Stc.cell {b : Nat} {w w' : World} (h : Stc b w w') (k o : Nat) (hk : k ≠ b) : w'.cell? ⟨k, o, none⟩ = w.cell? ⟨k, o, none⟩ := World.cell?_of_block (w := w) (h.block k hk)
theorem Stc.frozen {b : Nat} {w w' : World} (h : Stc b w w') (k o : Nat) (hk : k ≠ b) : w'.frozen? ⟨k, o, none⟩ = w.frozen? ⟨k, o, none⟩ := World.frozen?_of_block (w := w) (h.block k hk)
theorem Stc.below {b B : Nat} {w w' : World} (h : Stc b w w') (hB : B ≤ b) : Below B w w' := ⟨h.os, h.tape, h.output, by rw [h.size]; exact Nat.le_refl _, fun k hk => h.block k (by omega)⟩
theorem stp_set (b o : Nat) (w : World) (v : Value) : Stc b w (w.setCell ⟨b, o, none⟩ v) :=
 ⟨rfl, rfl, rfl, by simp [World.setCell], fun k hk => Below.heap_setCell _ _ _ _ (by simpa using hk)⟩
theorem stp_drewN (b n : Nat) (w : World) : Stc b w (w.drewN n) := ⟨rfl, rfl, rfl, rfl, fun _ _ => rfl⟩
theorem stp_two (b o o' n : Nat) (w : World) (v v' : Value) : Stc b w (((w.drewN n).setCell ⟨b, o, none⟩ v).setCell ⟨b, o', none⟩ v') :=
 ((stp_drewN b n w).trans (stp_set b o _ v)).trans (stp_set b o' _ v')
theorem CodeAt.stp {b : Nat} {w w' : World} {a : Option Addr} {len : Nat} (h : CodeAt w b a len) (s : Stc b w w') : CodeAt w' b a len := by
 refine ⟨h.1, ?_⟩
 rcases h.2 with h | ⟨k, off, e, hk, hc⟩
 ·exact .inl h
 ·refine .inr ⟨k, off, e, hk, fun i hi => ?_⟩
  obtain ⟨z, h1, h2⟩ := hc i hi
  exact ⟨z, by rw [s.cell k _ (by omega)]; exact h1, h2⟩
theorem cu_two {b N : Nat} {w : World} {a : Option Addr} {len cap : Nat} {at_ seed : Int} (fz : ∀ o, w.frozen? ⟨b, o, none⟩ = false)
  (h0 : w.cell? ⟨b, 0, none⟩ = some (.slice a len cap)) (h1 : w.cell? ⟨b, 1, none⟩ = some (.int .i64 at_)) (h2 : w.cell? ⟨b, 2, none⟩ = some (.int .u64 seed))
  (ha0 : 0 ≤ at_) (ha1 : at_ ≤ N) (hc : CodeAt w b a len) (n : Nat) (s : Int) (hs0 : 0 ≤ s) (hs1 : s < 18446744073709551616) :
  Cu b (N + 1) (((w.drewN n).setCell ⟨b, 1, none⟩ (.int .i64 (at_ + 1))).setCell ⟨b, 2, none⟩ (.int .u64 s)) ∧ Cu b (N + 1) (((w.drewN n).setCell ⟨b, 2, none⟩ (.int .u64 s)).setCell ⟨b, 1, none⟩ (.int .i64 (at_ + 1))) := by
 constructor
 ·exact ⟨⟨a, len, cap, at_ + 1, s, by simp [go_sem, h0], by simp [go_sem, h1], by simp [go_sem, h2], by omega, by omega, hs0, hs1, hc.stp (stp_two b 1 2 n w _ _)⟩, fun o => by simp [go_sem, fz]⟩
 ·exact ⟨⟨a, len, cap, at_ + 1, s, by simp [go_sem, h0], by simp [go_sem, h1], by simp [go_sem, h2], by omega, by omega, hs0, hs1, hc.stp (stp_two b 2 1 n w _ _)⟩, fun o => by simp [go_sem, fz]⟩
set_option maxHeartbeats 1000000 in
theorem next_in (b N : Nat) (len cap : Nat) (at_ seed z : Int) (k off : Nat) (w : World) (fz : ∀ o, w.frozen? ⟨b, o, none⟩ = false) (hcode : CodeAt w b (some ⟨k, off, none⟩) len)
  (h0 : w.cell? ⟨b, 0, none⟩ = some (.slice (some ⟨k, off, none⟩) len cap)) (h1 : w.cell? ⟨b, 1, none⟩ = some (.int .i64 at_)) (h2 : w.cell? ⟨b, 2, none⟩ = some (.int .u64 seed))
  (ha0 : 0 ≤ at_) (ha1 : at_ ≤ N) (hN : N ≤ 1099511627776) (hlt : at_ < len) (hlen : (len : Int) < 9007199254740992) (hk : k < b) (hz0 : 0 ≤ z) (hz1 : z < 256)
  (hc : w.cell? ⟨k, off + at_.toNat, none⟩ = some (.int .u8 z)) :
  Calls Tryz.prog 90 #[.pointer (some ⟨b, 0, none⟩)] w fun e w' => e = .returned (.int .i64 z) ∧ Cu b (N + 1) w' ∧ Stc b w w' := by
 have hkb : ¬ k = b := by omega
 have f1 := fz 1
 have f2 := fz 2
 have FZ : Hid (∀ o, w.frozen? ⟨b, o, none⟩ = false) := fz
 have HC : Hid (CodeAt w b (some ⟨k, off, none⟩) len) := hcode
 clear fz hcode
 go_enter Tryz.func90, Tryz.ntmps90
 go_wp2
 go_quiet (fail)
 go_wp2
 go_quiet (fail)
 go_wp2
 go_ret
 have hr := wrap_u64_range (IntKind.u64.wrap (IntKind.u64.wrap (seed * 6364136223846793005) + z) + 1442695040888963407)
 exact ⟨rfl, (cu_two FZ.out h0 h1 h2 ha0 ha1 HC.out _ _ hr.1 hr.2).1, stp_two _ _ _ _ _ _ _⟩
theorem and255 (X : Int) (h0 : 0 ≤ X) (h1 : X < 18446744073709551616) : 0 ≤ wrap64 (bits BinOp.and IntKind.u64 X 255) ∧ wrap64 (bits BinOp.and IntKind.u64 X 255) < 256 := by
 have h := u64_and X 255 h0 h1 (by omega) (by omega)
 have e : (255 : Int).toNat = 2 ^ 8 - 1 := by decide
 rw [e, Nat.and_two_pow_sub_one_eq_mod] at h
 rw [h]
 have hm : X.toNat % 2 ^ 8 < 256 := Nat.mod_lt _ (by decide)
 generalize X.toNat % 2 ^ 8 = q at hm
 have : wrap64 (q : Int) = q := by unfold wrap64; omega
 rw [this]; omega
set_option maxHeartbeats 1000000 in
theorem next_out (b N : Nat) (a : Option Addr) (len cap : Nat) (at_ seed : Int) (w : World) (fz : ∀ o, w.frozen? ⟨b, o, none⟩ = false) (hcode : CodeAt w b a len)
  (h0 : w.cell? ⟨b, 0, none⟩ = some (.slice a len cap)) (h1 : w.cell? ⟨b, 1, none⟩ = some (.int .i64 at_)) (h2 : w.cell? ⟨b, 2, none⟩ = some (.int .u64 seed))
  (ha0 : 0 ≤ at_) (ha1 : at_ ≤ N) (hN : N ≤ 1099511627776) (hlt : (len : Int) ≤ at_) :
  Calls Tryz.prog 90 #[.pointer (some ⟨b, 0, none⟩)] w fun e w' => (∃ z : Int, e = .returned (.int .i64 z) ∧ 0 ≤ z ∧ z < 256) ∧ Cu b (N + 1) w' ∧ Stc b w w' := by
 have f1 := fz 1
 have f2 := fz 2
 have FZ : Hid (∀ o, w.frozen? ⟨b, o, none⟩ = false) := fz
 have HC : Hid (CodeAt w b a len) := hcode
 clear fz hcode
 go_enter Tryz.func90, Tryz.ntmps90
 go_wp2
 go_quiet (fail)
 go_wp2
 go_ret
 have hr := wrap_u64_range (IntKind.u64.wrap (seed * 6364136223846793005) + 1442695040888963407)
 have h2 := and255 (IntKind.u64.wrap (IntKind.u64.wrap (seed * 6364136223846793005) + 1442695040888963407) / 1099511627776) (by omega) (by omega)
 exact ⟨⟨_, rfl, h2.1, h2.2⟩, (cu_two FZ.out h0 h1 ‹_› ha0 ha1 HC.out _ _ hr.1 hr.2).2, stp_two _ _ _ _ _ _ _⟩
theorem next_any (b N : Nat) (w : World) (h : Cu b N w) (hN : N ≤ 1099511627776) :
  Calls Tryz.prog 90 #[.pointer (some ⟨b, 0, none⟩)] w fun e w' => (∃ z : Int, e = .returned (.int .i64 z) ∧ 0 ≤ z ∧ z < 256) ∧ Cu b (N + 1) w' ∧ Stc b w w' := by
 obtain ⟨a, len, cap, at_, seed, h0, h1, h2, ha0, ha1, _, _, hc⟩ := h.ex
 by_cases hlt : at_ < len
 ·rcases hc.2 with e | ⟨k, off, rfl, hk, hcc⟩
  ·subst e; exfalso; simp at hlt; omega
  ·obtain ⟨z, hz, hz0, hz1⟩ := hcc at_.toNat (by omega)
   refine (next_in b N len cap at_ seed z k off w h.fz hc h0 h1 h2 ha0 ha1 hN hlt (by have := hc.1; omega) hk hz0 hz1 hz).mono ?_
   rintro e w' ⟨rfl, h3⟩
   exact ⟨⟨z, rfl, hz0, hz1⟩, h3⟩
 ·exact next_out b N a len cap at_ seed w h.fz hc h0 h1 h2 ha0 ha1 hN (by omega)
set_option maxHeartbeats 1000000 in
theorem pick_any (b N : Nat) (n : Int) (w : World) (h : Cu b N w) (hN : N ≤ 1099511627000) (hn1 : 1 < n) (hn2 : n ≤ 70000) :
  Calls Tryz.prog 45 #[.pointer (some ⟨b, 0, none⟩), .int .i64 n] w fun e w' => (∃ x : Int, e = .returned (.int .i64 x) ∧ 0 ≤ x ∧ x < n) ∧ Cu b (N + 2) w' ∧ Stc b w w' := by
 have H : Hid (Cu b N w) := h
 clear h
 by_cases hs : n ≤ 200
 ·go_enter Tryz.func45, Tryz.ntmps45
  go_wp2_with fail
  refine (next_any b N _ H.out (by omega)).mono ?_
  rintro e w1 ⟨⟨z, rfl, hz0, hz1⟩, hc1, hs1⟩
  go_wp2_with fail
  go_ret
  refine ⟨⟨_, rfl, ?_, ?_⟩, ⟨?_, hc1.fz⟩, hs1⟩
  ·exact Int.emod_nonneg _ (by omega)
  ·exact Int.emod_lt_of_pos _ (by omega)
  ·obtain ⟨a, len, cap, at_, seed, h0, h1, h2, ha0, ha1, r⟩ := hc1.ex
   exact ⟨a, len, cap, at_, seed, h0, h1, h2, ha0, by omega, r⟩
 ·have hs' : 200 < n := by omega
  go_enter Tryz.func45, Tryz.ntmps45
  go_wp2_with fail
  refine (next_any b N _ H.out (by omega)).mono ?_
  rintro e w1 ⟨⟨z, rfl, hz0, hz1⟩, hc1, hs1⟩
  go_wp2_with fail
  refine (next_any b (N + 1) _ hc1 (by omega)).mono ?_
  rintro e w2 ⟨⟨y, rfl, hy0, hy1⟩, hc2, hs2⟩
  go_wp2_with fail
  go_ret
  refine ⟨⟨_, rfl, ?_, ?_⟩, hc2, hs1.trans hs2⟩
  ·exact Int.emod_nonneg _ (by omega)
  ·exact Int.emod_lt_of_pos _ (by omega)
end
section
open Go.RowKit
structure Gr (b : Nat) (w w' : World) : Prop where
 os : w'.os = w.os
 tape : w'.tape = w.tape
 output : w'.output = w.output
 size : w.heap.size ≤ w'.heap.size
 block : ∀ k, k ≠ b → k < w.heap.size → w'.heap[k]? = w.heap[k]?
theorem Stc.gr {b : Nat} {w w' : World} (h : Stc b w w') : Gr b w w' := ⟨h.os, h.tape, h.output, by rw [h.size]; exact Nat.le_refl _, fun k hk _ => h.block k hk⟩
theorem Gr.trans {b : Nat} {u v w : World} (h : Gr b u v) (k : Gr b v w) : Gr b u w :=
 ⟨k.os.trans h.os, k.tape.trans h.tape, k.output.trans h.output, Nat.le_trans h.size k.size, fun i hi hs => (k.block i hi (Nat.lt_of_lt_of_le hs h.size)).trans (h.block i hi hs)⟩
theorem Gr.of_below {b : Nat} {w w' : World} (h : Below w.heap.size w w') : Gr b w w' := ⟨h.os, h.tape, h.output, h.size, fun k _ hk => h.block k hk⟩
theorem Gr.cell {b : Nat} {w w' : World} (h : Gr b w w') : ∀ k o, k ≠ b → k < w.heap.size → w'.cell? ⟨k, o, none⟩ = w.cell? ⟨k, o, none⟩ := fun k o hk hs => World.cell?_of_block (w := w) (h.block k hk hs)
theorem Gr.frozen {b : Nat} {w w' : World} (h : Gr b w w') : ∀ k o, k ≠ b → k < w.heap.size → w'.frozen? ⟨k, o, none⟩ = w.frozen? ⟨k, o, none⟩ := fun k o hk hs => World.frozen?_of_block (w := w) (h.block k hk hs)
theorem Gr.below {b B : Nat} {w w' : World} (h : Gr b w w') (h1 : B ≤ b) (h2 : B ≤ w.heap.size) : Below B w w' := ⟨h.os, h.tape, h.output, h.size, fun k hk => h.block k (by omega) (by omega)⟩
theorem below_set5 {B : Nat} {a w : World} (h : Below B a w) (b : Nat) (hb : B ≤ b) (v0 v1 v2 v3 v4 : Value) :
  Below B a (((((w.setCell ⟨b, 0, none⟩ v0).setCell ⟨b, 1, none⟩ v1).setCell ⟨b, 2, none⟩ v2).setCell ⟨b, 3, none⟩ v3).setCell ⟨b, 4, none⟩ v4) :=
 ((((h.setCell (p := ⟨b, 0, none⟩) hb v0).setCell (p := ⟨b, 1, none⟩) hb v1).setCell (p := ⟨b, 2, none⟩) hb v2).setCell (p := ⟨b, 3, none⟩) hb v3).setCell (p := ⟨b, 4, none⟩) hb v4
theorem Gr.then_below {b B : Nat} {u v w : World} (h : Gr b u v) (k : Below B v w) (hB : u.heap.size ≤ B) : Gr b u w :=
 ⟨k.os.trans h.os, k.tape.trans h.tape, k.output.trans h.output, Nat.le_trans h.size k.size, fun i hi hs => (k.block i (by omega)).trans (h.block i hi hs)⟩
theorem CodeAt.of_eq {b : Nat} {w w' : World} {a : Option Addr} {len : Nat} (h : CodeAt w b a len) (s : ∀ k, k < b → w'.heap[k]? = w.heap[k]?) : CodeAt w' b a len := by
 refine ⟨h.1, ?_⟩
 rcases h.2 with h | ⟨k, off, e, hk, hc⟩
 ·exact .inl h
 ·refine .inr ⟨k, off, e, hk, fun i hi => ?_⟩
  obtain ⟨z, h1, h2⟩ := hc i hi
  exact ⟨z, (World.cell?_of_block (w := w) (a := ⟨k, off + i, none⟩) (s k hk)).trans h1, h2⟩
theorem Cu.below {b N : Nat} {w w' : World} (h : Cu b N w) {B : Nat} (hb : Below B w w') (hB : b < B) : Cu b N w' := by
 obtain ⟨a, len, cap, at_, seed, h0, h1, h2, r1, r2, r3, r4, hc⟩ := h.ex
 refine ⟨⟨a, len, cap, at_, seed, ?_, ?_, ?_, r1, r2, r3, r4, hc.of_eq fun k hk => hb.block k (by omega)⟩, fun o => ?_⟩
 ·rw [hb.cell (p := ⟨b, 0, none⟩) hB]; exact h0
 ·rw [hb.cell (p := ⟨b, 1, none⟩) hB]; exact h1
 ·rw [hb.cell (p := ⟨b, 2, none⟩) hB]; exact h2
 ·rw [hb.frozen (p := ⟨b, o, none⟩) hB]; exact h.fz o
theorem Cu.mono {b N M : Nat} {w : World} (h : Cu b N w) (hNM : N ≤ M) : Cu b M w := by
 obtain ⟨a, len, cap, at_, seed, h0, h1, h2, r1, r2, r⟩ := h.ex
 exact ⟨⟨a, len, cap, at_, seed, h0, h1, h2, r1, by omega, r⟩, h.fz⟩
theorem Cu.lt {b N : Nat} {w : World} (h : Cu b N w) : b < w.heap.size := by
 obtain ⟨a, len, cap, at_, seed, h0, _⟩ := h.ex
 exact World.block_lt_of_cell? _ _ h0
theorem conv_letter (v : Int) (h0 : 0 ≤ v) (h1 : v < 256) (wr : World) : (convert 22 9 (.slice (some ⟨wr.heap.size, 0, none⟩) 1 1)).run Tryz.prog (wr.alloc (.cells #[.int .u8 v] 5)) = .ok (.string ⟨[UInt8.ofNat v.toNat].toArray⟩) (wr.alloc (.cells #[.int .u8 v] 5)) :=
 run_convert_bytes_back (P := Tryz.prog) (wr.alloc (.cells #[.int .u8 v] 5)) 22 9 5 ⟨wr.heap.size, 0, none⟩ 1 [UInt8.ofNat v.toNat] Tryz.underlying22 Tryz.underlying5 Tryz.underlying9 (by
  intro j hj
  have : j = 0 := by simpa using hj
  subst this
  have e : ((UInt8.ofNat v.toNat).toNat : Int) = v := by rw [UInt8.toNat_ofNat']; omega
  have e2 : ([UInt8.ofNat v.toNat][0]'hj) = UInt8.ofNat v.toNat := rfl
  rw [e2, e]
  simp [Addr.add, go_sem])
def strOf : Value → ByteArray | .string s => s | _ => ByteArray.empty
set_option maxRecDepth 100000 in
set_option maxHeartbeats 1000000 in
theorem word_any (b N : Nat) (w : World) (h : Cu b N w) (hN : N ≤ 1099511620000) :
  Calls Tryz.prog 89 #[.pointer (some ⟨b, 0, none⟩)] w fun e w' => (∃ s : ByteArray, e = .returned (.string s) ∧ s.size ≤ 4000) ∧ Cu b (N + 4) w' ∧ Gr b w w' := by
 have H : Hid (Cu b N w) := h
 clear h
 go_enter Tryz.func89, Tryz.ntmps89
 go_wp2_with fail
 refine (pick_any b N 40 _ H.out (by omega) (by omega) (by omega)).mono ?_
 rintro e w1 ⟨⟨x, rfl, hx0, hx1⟩, hc1, hs1⟩
 by_cases x0 : x = 0
 ·subst x0
  go_wp2_with fail
  go_loop [3] (fun t => ∃ s : ByteArray, t = .string s ∧ 10 ≤ s.size ∧ s.size < 8000) (fun t => 8000 - (strOf t).size)
  case atStart => exact ⟨_, rfl, by decide, by decide⟩
  case round =>
   obtain ⟨s, rfl, h1, h2⟩ := hrel
   by_cases hlt : s.size < 4000
   ·have hl : ((s.size : Nat) : Int) < 4000 := by omega
    go_wp2_with fail
    go_round
    case rel => exact ⟨_, rfl, by simp; omega, by simp; omega⟩
    case measure => simp [strOf]; omega
   ·have hl : (4000 : Int) ≤ ((s.size : Nat) : Int) := by omega
    go_wp2_with fail
    refine (pick_any b (N + 2) 2 _ hc1 (by omega) (by omega) (by omega)).mono ?_
    rintro e w2 ⟨⟨y, rfl, hy0, hy1⟩, hc2, hs2⟩
    go_wp2_with fail
    go_ret
    refine ⟨⟨_, rfl, ?_⟩, hc2, (hs1.trans hs2).gr⟩
    simp; omega
 have b0 : (x == 0) = false := by simp [x0]
 go_wp2_with fail
 refine (pick_any b (N + 2) 15 _ hc1 (by omega) (by omega) (by omega)).mono ?_
 rintro e w2 ⟨⟨y, rfl, hy0, hy1⟩, hc2, hs2⟩
 have hcv := conv_letter (97 + y) (by omega) (by omega) w2
 go_wp2_with fail
 go_ret
 have hb : Below w2.heap.size w2 (w2.alloc (.cells #[.int .u8 (97 + y)] 5)) := (Below.refl _ _).alloc (Nat.le_refl _) _
 exact ⟨⟨_, rfl, by simp [ByteArray.size]⟩, hc2.below hb hc2.lt, ((hs1.trans hs2).gr).trans (Gr.of_below hb)⟩
end
section
open Go.RowKit
attribute [local go_sem] run_store_float run_equalIn_float
set_option maxHeartbeats 1000000 in
theorem whole_any (b N : Nat) (w : World) (h : Cu b N w) (hN : N ≤ 1099511620000) :
  Calls Tryz.prog 91 #[.pointer (some ⟨b, 0, none⟩)] w fun e w' => (∃ z : Int, e = .returned (.int .i64 z)) ∧ Cu b (N + 4) w' ∧ Stc b w w' := by
 have H : Hid (Cu b N w) := h
 clear h
 go_enter Tryz.func91, Tryz.ntmps91
 go_wp2_with fail
 refine (pick_any b N 6 _ H.out (by omega) (by omega) (by omega)).mono ?_
 rintro e w1 ⟨⟨x, rfl, hx0, hx1⟩, hc1, hs1⟩
 by_cases x0 : x = 0
 ·subst x0
  go_wp2_with fail
  refine (pick_any b (N + 2) 3 _ hc1 (by omega) (by omega) (by omega)).mono ?_
  rintro e w2 ⟨⟨y, rfl, hy0, hy1⟩, hc2, hs2⟩
  go_wp2_with fail
  go_ret
  exact ⟨⟨_, rfl⟩, hc2, hs1.trans hs2⟩
 have b0 : (x == 0) = false := by simp [x0]
 by_cases x1 : x = 1
 ·subst x1
  go_wp2_with fail
  refine (pick_any b (N + 2) 3 _ hc1 (by omega) (by omega) (by omega)).mono ?_
  rintro e w2 ⟨⟨y, rfl, hy0, hy1⟩, hc2, hs2⟩
  go_wp2_with fail
  go_ret
  exact ⟨⟨_, rfl⟩, hc2, hs1.trans hs2⟩
 have b1 : (x == 1) = false := by simp [x1]
 by_cases x2 : x = 2
 ·subst x2
  go_wp2_with fail
  refine (pick_any b (N + 2) 70000 _ hc1 (by omega) (by omega) (by omega)).mono ?_
  rintro e w2 ⟨⟨y, rfl, hy0, hy1⟩, hc2, hs2⟩
  go_wp2_with fail
  go_ret
  exact ⟨⟨_, rfl⟩, hc2, hs1.trans hs2⟩
 have b2 : (x == 2) = false := by simp [x2]
 go_wp2_with fail
 refine (pick_any b (N + 2) 12 _ hc1 (by omega) (by omega) (by omega)).mono ?_
 rintro e w2 ⟨⟨y, rfl, hy0, hy1⟩, hc2, hs2⟩
 go_wp2_with fail
 go_ret
 exact ⟨⟨_, rfl⟩, hc2, hs1.trans hs2⟩
abbrev FOk (x : Nat) : Prop := x < 18446744073709551616 ∧ x ≠ 9223372036854775808
theorem div_nan : FloatKind.f64.format.div 0 0 = none := by decide
theorem nan_run (w : World) : ∃ r, (binOp .quo 28 (.float .f64 0) (.float .f64 0)).run Tryz.prog w = .ok (.float .f64 r) w.drew ∧ FOk r := by
 refine ⟨(Question.nanBits .f64 0 0).cut (w.tape w.drawn (.nanBits .f64 0 0)), ?_, ?_⟩
 ·simp [binOp, Op.floatArith, div_nan, Question.forced]
 ·unfold FOk; simp only [Question.cut]; omega
theorem div_one : floatBits .quo .f64 4607182418800017408 0 = some 9218868437227405312 := by decide
theorem div_mone : floatBits .quo .f64 13830554455654793216 0 = some 18442240474082181120 := by decide
set_option maxHeartbeats 400000 in
theorem l1flt_any (f : Nat) (w : World)  :
  Calls Tryz.prog 115 #[.float .f64 f] w fun e w' => e = .returned (V 3 0 f ⟨#[]⟩ 0) ∧ Below w.heap.size w w' := by
 go_enter Tryz.func115, Tryz.ntmps115
 go_wp2
 exact bodyPost_ret (v := V 3 0 f ⟨#[]⟩ 0) (by simp [results, go_sem]) rfl ⟨rfl, (Below.refl _ _).alloc (Nat.le_refl _) _⟩
set_option maxHeartbeats 400000 in
theorem l1str_any (s : ByteArray) (w : World)  :
  Calls Tryz.prog 88 #[.string s] w fun e w' => e = .returned (V 4 0 0 s 0) ∧ Below w.heap.size w w' := by
 go_enter Tryz.func88, Tryz.ntmps88
 go_wp2
 exact bodyPost_ret (v := V 4 0 0 s 0) (by simp [results, go_sem]) rfl ⟨rfl, (Below.refl _ _).alloc (Nat.le_refl _) _⟩
set_option maxHeartbeats 1000000 in
theorem flt_any (b N : Nat) (w : World) (h : Cu b N w) (hN : N ≤ 1099511620000) :
  Calls Tryz.prog 92 #[.pointer (some ⟨b, 0, none⟩)] w fun e w' => (∃ f : Nat, e = .returned (V 3 0 f ⟨#[]⟩ 0) ∧ FOk f) ∧ Cu b (N + 2) w' ∧ Gr b w w' := by
 have H : Hid (Cu b N w) := h
 have hbw := h.lt
 clear h
 have d1 : ∀ w : World, (binOp .quo 28 (.float .f64 4607182418800017408) (.float .f64 0)).run Tryz.prog w = .ok (.float .f64 9218868437227405312) w := fun w => run_float_arith w .quo 28 .f64 _ _ _ div_one
 have d2 : ∀ w : World, (binOp .quo 28 (.float .f64 13830554455654793216) (.float .f64 0)).run Tryz.prog w = .ok (.float .f64 18442240474082181120) w := fun w => run_float_arith w .quo 28 .f64 _ _ _ div_mone
 obtain ⟨r, d3, hr⟩ := nan_run (w.alloc (.cells #[.int .i64 0, .int .i64 0, .float .f64 0, .string ⟨#[]⟩, .int .i64 0] 30))
 go_enter Tryz.func92, Tryz.ntmps92
 go_wp2_with fail
 have hcu := H.out.below ((((Below.refl w.heap.size w).alloc (Nat.le_refl _) (.cells #[.int .i64 0, .int .i64 0, .float .f64 0, .string ⟨#[]⟩, .int .i64 0] 30)).alloc (by simp) (.cells #[.float .f64 4602678819172646912, .float .f64 4609434218613702656, .float .f64 4611686018427387904, .float .f64 13821547256400052224, .float .f64 9094988921128908188, .float .f64 4845873199050653696, .float .f64 14114281232179134464, .float .f64 4890909195324358656, .float .f64 9218868437227405312, .float .f64 18442240474082181120, .float .f64 r, .float .f64 0, .float .f64 4613937818241073152] 28)).drew) hbw
 refine (pick_any b N 13 _ hcu (by omega) (by omega) (by omega)).mono ?_
 rintro e w2 ⟨⟨x, rfl, hx0, hx1⟩, hc2, hs2⟩
 have n0 : ¬ w.heap.size = b := by omega
 have n1 : ¬ w.heap.size + 1 = b := by omega
 obtain ⟨g, hg, hg1⟩ : ∃ g : Nat, w2.cell? ⟨w.heap.size + 1, x.toNat, none⟩ = some (.float .f64 g) ∧ FOk g := by
  rw [hs2.cell _ _ n1]
  have hx : x = 0 ∨ x = 1 ∨ x = 2 ∨ x = 3 ∨ x = 4 ∨ x = 5 ∨ x = 6 ∨ x = 7 ∨ x = 8 ∨ x = 9 ∨ x = 10 ∨ x = 11 ∨ x = 12 := by omega
  rcases hx with rfl | rfl | rfl | rfl | rfl | rfl | rfl | rfl | rfl | rfl | rfl | rfl | rfl
  all_goals (refine ⟨_, by simp [go_sem]; rfl, by first | exact hr | decide⟩)
 have rc : ∀ o, w2.cell? ⟨w.heap.size, o, none⟩ = _ := fun o => hs2.cell w.heap.size o n0
 have rf : ∀ o, w2.frozen? ⟨w.heap.size, o, none⟩ = _ := fun o => hs2.frozen w.heap.size o n0
 have hz := hs2.size
 simp at hz
 have HS := uy hs2
 have HC := uy hc2
 clear hs2 hc2 hcu d1 d2 d3
 go_wp2_with (go_at_call 115; refine (l1flt_any g _).mono ?_; rintro e w3 ⟨rfl, hb3⟩; obtain ⟨hc3, hf3⟩ := bcell hb3; have hz3 := hb3.size; have hlt3 : w.heap.size < w2.heap.size := (by omega))
 have hT : Gr b w w2 := (Gr.of_below ((((Below.refl w.heap.size w).alloc (Nat.le_refl _) _).alloc (by simp) _).drew)).trans (uh HS).gr
 have b3 := below_set5 (hb3.mono (Nat.le_of_lt hlt3)) w.heap.size (Nat.le_refl _) (.int .i64 3) (.int .i64 0) (.float .f64 g) (.string ⟨#[]⟩) (.int .i64 0)
 exact bodyPost_ret (v := V 3 0 g ⟨#[]⟩ 0) (by simp [results, Tryz.results92, go_sem, hc3, hlt3, rc]) rfl ⟨⟨g, rfl, hg1⟩, (uh HC).below b3 hbw, hT.then_below b3 (by omega)⟩
end
section
open Go.RowKit
attribute [local go_sem] run_store_float run_equalIn_float
set_option maxHeartbeats 4000000 in
theorem key_any (b N : Nat) (w : World) (h : Cu b N w) (hN : N ≤ 1099511610000) :
  Calls Tryz.prog 47 #[.pointer (some ⟨b, 0, none⟩)] w fun e w' => (∃ (kind num : Int) (flt : Nat) (s : ByteArray) (ref : Int), e = .returned (V kind num flt s ref) ∧ s.size ≤ 4000 ∧ FOk flt) ∧ Cu b (N + 10) w' ∧ Gr b w w' := by
 have hbw := h.lt
 have n0 : ¬ w.heap.size = b := by omega
 have hG0 : Gr b w (w.alloc (.cells #[.int .i64 0, .int .i64 0, .float .f64 0, .string ⟨#[]⟩, .int .i64 0] 30)) := Gr.of_below ((Below.refl w.heap.size w).alloc (Nat.le_refl _) _)
 have HG0 := uy hG0
 have H := uy (h.below ((Below.refl w.heap.size w).alloc (Nat.le_refl _) (.cells #[.int .i64 0, .int .i64 0, .float .f64 0, .string ⟨#[]⟩, .int .i64 0] 30)) hbw)
 clear h hG0
 go_enter Tryz.func47, Tryz.ntmps47
 go_wp2_with fail
 refine (pick_any b N 12 _ (uh H) (by omega) (by omega) (by omega)).mono ?_
 rintro e w1 ⟨⟨x, rfl, hx0, hx1⟩, hc1, hs1⟩
 have hG0 := uh HG0
 have HC1 := uy hc1
 have HS1 := uy hs1
 clear hc1 hs1
 by_cases x0 : x = 0
 ·subst x0
  clear hG0
  go_wp2_with fail
  refine (pick_any b (N + 2) 9 _ (uh HC1) (by omega) (by omega) (by omega)).mono ?_
  rintro e w2 ⟨⟨y, rfl, hy0, hy1⟩, hc2, hs2⟩
  have HG := uy ((uh HS1).gr.trans hs2.gr)
  have HC2 := uy hc2
  clear hc2 hs2
  go_wp2_with fail
  refine (l1int_any (1 + y) _).mono ?_
  rintro e w3 ⟨rfl, hb3⟩
  have HG3 := uy ((uh HG).trans (Gr.of_below hb3))
  have HC3 := uy ((uh HC2).below hb3 (uh HC2).lt)
  clear hb3
  have rc : ∀ o, w3.cell? ⟨w.heap.size, o, none⟩ = (w.alloc (.cells #[.int .i64 0, .int .i64 0, .float .f64 0, .string ⟨#[]⟩, .int .i64 0] 30)).cell? ⟨w.heap.size, o, none⟩ := fun o => ((uh HG3)).cell w.heap.size o n0 (by simp)
  have rf : ∀ o, w3.frozen? ⟨w.heap.size, o, none⟩ = (w.alloc (.cells #[.int .i64 0, .int .i64 0, .float .f64 0, .string ⟨#[]⟩, .int .i64 0] 30)).frozen? ⟨w.heap.size, o, none⟩ := fun o => ((uh HG3)).frozen w.heap.size o n0 (by simp)
  go_wp2_with fail
  have hG0 := uh HG0
  have b9 := below_set5 (Below.refl w.heap.size w3) w.heap.size (Nat.le_refl _) (.int .i64 2) (.int .i64 (1 + y)) (.float .f64 0) (.string ⟨#[]⟩) (.int .i64 0)
  exact bodyPost_ret (v := V 2 (1 + y) 0 ⟨#[]⟩ 0) (by simp [results, Tryz.results47, go_sem, rc]) rfl ⟨⟨2, (1 + y), 0, ⟨#[]⟩, 0, rfl, by decide, by decide⟩, ((uh HC3).mono (by omega)).below b9 hbw, (hG0.trans (uh HG3)).then_below b9 (Nat.le_refl _)⟩
 have b0 : (x == 0) = false := by simp [x0]
 by_cases x1 : x = 1
 ·subst x1
  clear hG0
  go_wp2_with fail
  refine (pick_any b (N + 2) 9 _ (uh HC1) (by omega) (by omega) (by omega)).mono ?_
  rintro e w2 ⟨⟨y, rfl, hy0, hy1⟩, hc2, hs2⟩
  have HG := uy ((uh HS1).gr.trans hs2.gr)
  have HC2 := uy hc2
  clear hc2 hs2
  go_wp2_with fail
  refine (l1int_any (1 + y) _).mono ?_
  rintro e w3 ⟨rfl, hb3⟩
  have HG3 := uy ((uh HG).trans (Gr.of_below hb3))
  have HC3 := uy ((uh HC2).below hb3 (uh HC2).lt)
  clear hb3
  have rc : ∀ o, w3.cell? ⟨w.heap.size, o, none⟩ = (w.alloc (.cells #[.int .i64 0, .int .i64 0, .float .f64 0, .string ⟨#[]⟩, .int .i64 0] 30)).cell? ⟨w.heap.size, o, none⟩ := fun o => ((uh HG3)).cell w.heap.size o n0 (by simp)
  have rf : ∀ o, w3.frozen? ⟨w.heap.size, o, none⟩ = (w.alloc (.cells #[.int .i64 0, .int .i64 0, .float .f64 0, .string ⟨#[]⟩, .int .i64 0] 30)).frozen? ⟨w.heap.size, o, none⟩ := fun o => ((uh HG3)).frozen w.heap.size o n0 (by simp)
  go_wp2_with fail
  have hG0 := uh HG0
  have b9 := below_set5 (Below.refl w.heap.size w3) w.heap.size (Nat.le_refl _) (.int .i64 2) (.int .i64 (1 + y)) (.float .f64 0) (.string ⟨#[]⟩) (.int .i64 0)
  exact bodyPost_ret (v := V 2 (1 + y) 0 ⟨#[]⟩ 0) (by simp [results, Tryz.results47, go_sem, rc]) rfl ⟨⟨2, (1 + y), 0, ⟨#[]⟩, 0, rfl, by decide, by decide⟩, ((uh HC3).mono (by omega)).below b9 hbw, (hG0.trans (uh HG3)).then_below b9 (Nat.le_refl _)⟩
 have b1 : (x == 1) = false := by simp [x1]
 by_cases x2 : x = 2
 ·subst x2
  clear hG0
  go_wp2_with fail
  refine (pick_any b (N + 2) 9 _ (uh HC1) (by omega) (by omega) (by omega)).mono ?_
  rintro e w2 ⟨⟨y, rfl, hy0, hy1⟩, hc2, hs2⟩
  have HG := uy ((uh HS1).gr.trans hs2.gr)
  have HC2 := uy hc2
  clear hc2 hs2
  go_wp2_with fail
  refine (l1int_any (1 + y) _).mono ?_
  rintro e w3 ⟨rfl, hb3⟩
  have HG3 := uy ((uh HG).trans (Gr.of_below hb3))
  have HC3 := uy ((uh HC2).below hb3 (uh HC2).lt)
  clear hb3
  have rc : ∀ o, w3.cell? ⟨w.heap.size, o, none⟩ = (w.alloc (.cells #[.int .i64 0, .int .i64 0, .float .f64 0, .string ⟨#[]⟩, .int .i64 0] 30)).cell? ⟨w.heap.size, o, none⟩ := fun o => ((uh HG3)).cell w.heap.size o n0 (by simp)
  have rf : ∀ o, w3.frozen? ⟨w.heap.size, o, none⟩ = (w.alloc (.cells #[.int .i64 0, .int .i64 0, .float .f64 0, .string ⟨#[]⟩, .int .i64 0] 30)).frozen? ⟨w.heap.size, o, none⟩ := fun o => ((uh HG3)).frozen w.heap.size o n0 (by simp)
  go_wp2_with fail
  have hG0 := uh HG0
  have b9 := below_set5 (Below.refl w.heap.size w3) w.heap.size (Nat.le_refl _) (.int .i64 2) (.int .i64 (1 + y)) (.float .f64 0) (.string ⟨#[]⟩) (.int .i64 0)
  exact bodyPost_ret (v := V 2 (1 + y) 0 ⟨#[]⟩ 0) (by simp [results, Tryz.results47, go_sem, rc]) rfl ⟨⟨2, (1 + y), 0, ⟨#[]⟩, 0, rfl, by decide, by decide⟩, ((uh HC3).mono (by omega)).below b9 hbw, (hG0.trans (uh HG3)).then_below b9 (Nat.le_refl _)⟩
 have b2 : (x == 2) = false := by simp [x2]
 by_cases x3 : x = 3
 ·subst x3
  clear hG0
  go_wp2_with fail
  refine (pick_any b (N + 2) 9 _ (uh HC1) (by omega) (by omega) (by omega)).mono ?_
  rintro e w2 ⟨⟨y, rfl, hy0, hy1⟩, hc2, hs2⟩
  have HG := uy ((uh HS1).gr.trans hs2.gr)
  have HC2 := uy hc2
  clear hc2 hs2
  go_wp2_with fail
  refine (l1int_any (1 + y) _).mono ?_
  rintro e w3 ⟨rfl, hb3⟩
  have HG3 := uy ((uh HG).trans (Gr.of_below hb3))
  have HC3 := uy ((uh HC2).below hb3 (uh HC2).lt)
  clear hb3
  have rc : ∀ o, w3.cell? ⟨w.heap.size, o, none⟩ = (w.alloc (.cells #[.int .i64 0, .int .i64 0, .float .f64 0, .string ⟨#[]⟩, .int .i64 0] 30)).cell? ⟨w.heap.size, o, none⟩ := fun o => ((uh HG3)).cell w.heap.size o n0 (by simp)
  have rf : ∀ o, w3.frozen? ⟨w.heap.size, o, none⟩ = (w.alloc (.cells #[.int .i64 0, .int .i64 0, .float .f64 0, .string ⟨#[]⟩, .int .i64 0] 30)).frozen? ⟨w.heap.size, o, none⟩ := fun o => ((uh HG3)).frozen w.heap.size o n0 (by simp)
  go_wp2_with fail
  have hG0 := uh HG0
  have b9 := below_set5 (Below.refl w.heap.size w3) w.heap.size (Nat.le_refl _) (.int .i64 2) (.int .i64 (1 + y)) (.float .f64 0) (.string ⟨#[]⟩) (.int .i64 0)
  exact bodyPost_ret (v := V 2 (1 + y) 0 ⟨#[]⟩ 0) (by simp [results, Tryz.results47, go_sem, rc]) rfl ⟨⟨2, (1 + y), 0, ⟨#[]⟩, 0, rfl, by decide, by decide⟩, ((uh HC3).mono (by omega)).below b9 hbw, (hG0.trans (uh HG3)).then_below b9 (Nat.le_refl _)⟩
 have b3 : (x == 3) = false := by simp [x3]
 by_cases x4 : x = 4
 ·subst x4
  clear hG0
  go_wp2_with fail
  refine (whole_any b (N + 2) _ (uh HC1) (by omega)).mono ?_
  rintro e w2 ⟨⟨y, rfl⟩, hc2, hs2⟩
  have HG := uy ((uh HS1).gr.trans hs2.gr)
  have HC2 := uy hc2
  clear hc2 hs2
  go_wp2_with fail
  refine (l1int_any y _).mono ?_
  rintro e w3 ⟨rfl, hb3⟩
  have HG3 := uy ((uh HG).trans (Gr.of_below hb3))
  have HC3 := uy ((uh HC2).below hb3 (uh HC2).lt)
  clear hb3
  have rc : ∀ o, w3.cell? ⟨w.heap.size, o, none⟩ = (w.alloc (.cells #[.int .i64 0, .int .i64 0, .float .f64 0, .string ⟨#[]⟩, .int .i64 0] 30)).cell? ⟨w.heap.size, o, none⟩ := fun o => ((uh HG3)).cell w.heap.size o n0 (by simp)
  have rf : ∀ o, w3.frozen? ⟨w.heap.size, o, none⟩ = (w.alloc (.cells #[.int .i64 0, .int .i64 0, .float .f64 0, .string ⟨#[]⟩, .int .i64 0] 30)).frozen? ⟨w.heap.size, o, none⟩ := fun o => ((uh HG3)).frozen w.heap.size o n0 (by simp)
  go_wp2_with fail
  have hG0 := uh HG0
  have b9 := below_set5 (Below.refl w.heap.size w3) w.heap.size (Nat.le_refl _) (.int .i64 2) (.int .i64 y) (.float .f64 0) (.string ⟨#[]⟩) (.int .i64 0)
  exact bodyPost_ret (v := V 2 y 0 ⟨#[]⟩ 0) (by simp [results, Tryz.results47, go_sem, rc]) rfl ⟨⟨2, y, 0, ⟨#[]⟩, 0, rfl, by decide, by decide⟩, ((uh HC3).mono (by omega)).below b9 hbw, (hG0.trans (uh HG3)).then_below b9 (Nat.le_refl _)⟩
 have b4 : (x == 4) = false := by simp [x4]
 by_cases x5 : x = 5
 ·subst x5
  clear hG0
  go_wp2_with fail
  refine (word_any b (N + 2) _ (uh HC1) (by omega)).mono ?_
  rintro e w2 ⟨⟨s, rfl, hsz⟩, hc2, hg2⟩
  have HG := uy ((uh HS1).gr.trans hg2)
  have HC2 := uy hc2
  clear hc2 hg2
  go_wp2_with fail
  refine (l1str_any s _).mono ?_
  rintro e w3 ⟨rfl, hb3⟩
  have HG3 := uy ((uh HG).trans (Gr.of_below hb3))
  have HC3 := uy ((uh HC2).below hb3 (uh HC2).lt)
  clear hb3
  have rc : ∀ o, w3.cell? ⟨w.heap.size, o, none⟩ = (w.alloc (.cells #[.int .i64 0, .int .i64 0, .float .f64 0, .string ⟨#[]⟩, .int .i64 0] 30)).cell? ⟨w.heap.size, o, none⟩ := fun o => ((uh HG3)).cell w.heap.size o n0 (by simp)
  have rf : ∀ o, w3.frozen? ⟨w.heap.size, o, none⟩ = (w.alloc (.cells #[.int .i64 0, .int .i64 0, .float .f64 0, .string ⟨#[]⟩, .int .i64 0] 30)).frozen? ⟨w.heap.size, o, none⟩ := fun o => ((uh HG3)).frozen w.heap.size o n0 (by simp)
  go_wp2_with fail
  have hG0 := uh HG0
  have b9 := below_set5 (Below.refl w.heap.size w3) w.heap.size (Nat.le_refl _) (.int .i64 4) (.int .i64 0) (.float .f64 0) (.string s) (.int .i64 0)
  exact bodyPost_ret (v := V 4 0 0 s 0) (by simp [results, Tryz.results47, go_sem, rc]) rfl ⟨⟨4, 0, 0, s, 0, rfl, hsz, by decide⟩, ((uh HC3).mono (by omega)).below b9 hbw, (hG0.trans (uh HG3)).then_below b9 (Nat.le_refl _)⟩
 have b5 : (x == 5) = false := by simp [x5]
 by_cases x6 : x = 6
 ·subst x6
  clear hG0
  go_wp2_with fail
  refine (word_any b (N + 2) _ (uh HC1) (by omega)).mono ?_
  rintro e w2 ⟨⟨s, rfl, hsz⟩, hc2, hg2⟩
  have HG := uy ((uh HS1).gr.trans hg2)
  have HC2 := uy hc2
  clear hc2 hg2
  go_wp2_with fail
  refine (l1str_any s _).mono ?_
  rintro e w3 ⟨rfl, hb3⟩
  have HG3 := uy ((uh HG).trans (Gr.of_below hb3))
  have HC3 := uy ((uh HC2).below hb3 (uh HC2).lt)
  clear hb3
  have rc : ∀ o, w3.cell? ⟨w.heap.size, o, none⟩ = (w.alloc (.cells #[.int .i64 0, .int .i64 0, .float .f64 0, .string ⟨#[]⟩, .int .i64 0] 30)).cell? ⟨w.heap.size, o, none⟩ := fun o => ((uh HG3)).cell w.heap.size o n0 (by simp)
  have rf : ∀ o, w3.frozen? ⟨w.heap.size, o, none⟩ = (w.alloc (.cells #[.int .i64 0, .int .i64 0, .float .f64 0, .string ⟨#[]⟩, .int .i64 0] 30)).frozen? ⟨w.heap.size, o, none⟩ := fun o => ((uh HG3)).frozen w.heap.size o n0 (by simp)
  go_wp2_with fail
  have hG0 := uh HG0
  have b9 := below_set5 (Below.refl w.heap.size w3) w.heap.size (Nat.le_refl _) (.int .i64 4) (.int .i64 0) (.float .f64 0) (.string s) (.int .i64 0)
  exact bodyPost_ret (v := V 4 0 0 s 0) (by simp [results, Tryz.results47, go_sem, rc]) rfl ⟨⟨4, 0, 0, s, 0, rfl, hsz, by decide⟩, ((uh HC3).mono (by omega)).below b9 hbw, (hG0.trans (uh HG3)).then_below b9 (Nat.le_refl _)⟩
 have b6 : (x == 6) = false := by simp [x6]
 by_cases x7 : x = 7
 ·subst x7
  clear hG0
  go_wp2_with fail
  refine (word_any b (N + 2) _ (uh HC1) (by omega)).mono ?_
  rintro e w2 ⟨⟨s, rfl, hsz⟩, hc2, hg2⟩
  have HG := uy ((uh HS1).gr.trans hg2)
  have HC2 := uy hc2
  clear hc2 hg2
  go_wp2_with fail
  refine (l1str_any s _).mono ?_
  rintro e w3 ⟨rfl, hb3⟩
  have HG3 := uy ((uh HG).trans (Gr.of_below hb3))
  have HC3 := uy ((uh HC2).below hb3 (uh HC2).lt)
  clear hb3
  have rc : ∀ o, w3.cell? ⟨w.heap.size, o, none⟩ = (w.alloc (.cells #[.int .i64 0, .int .i64 0, .float .f64 0, .string ⟨#[]⟩, .int .i64 0] 30)).cell? ⟨w.heap.size, o, none⟩ := fun o => ((uh HG3)).cell w.heap.size o n0 (by simp)
  have rf : ∀ o, w3.frozen? ⟨w.heap.size, o, none⟩ = (w.alloc (.cells #[.int .i64 0, .int .i64 0, .float .f64 0, .string ⟨#[]⟩, .int .i64 0] 30)).frozen? ⟨w.heap.size, o, none⟩ := fun o => ((uh HG3)).frozen w.heap.size o n0 (by simp)
  go_wp2_with fail
  have hG0 := uh HG0
  have b9 := below_set5 (Below.refl w.heap.size w3) w.heap.size (Nat.le_refl _) (.int .i64 4) (.int .i64 0) (.float .f64 0) (.string s) (.int .i64 0)
  exact bodyPost_ret (v := V 4 0 0 s 0) (by simp [results, Tryz.results47, go_sem, rc]) rfl ⟨⟨4, 0, 0, s, 0, rfl, hsz, by decide⟩, ((uh HC3).mono (by omega)).below b9 hbw, (hG0.trans (uh HG3)).then_below b9 (Nat.le_refl _)⟩
 have b7 : (x == 7) = false := by simp [x7]
 by_cases x8 : x = 8
 ·subst x8
  clear hG0
  go_wp2_with fail
  refine (flt_any b (N + 2) _ (uh HC1) (by omega)).mono ?_
  rintro e w2 ⟨⟨f, rfl, hf⟩, hc2, hg2⟩
  have HG := uy ((uh HS1).gr.trans hg2)
  have HC2 := uy hc2
  clear hc2 hg2
  have rc : ∀ o, w2.cell? ⟨w.heap.size, o, none⟩ = (w.alloc (.cells #[.int .i64 0, .int .i64 0, .float .f64 0, .string ⟨#[]⟩, .int .i64 0] 30)).cell? ⟨w.heap.size, o, none⟩ := fun o => ((uh HG)).cell w.heap.size o n0 (by simp)
  have rf : ∀ o, w2.frozen? ⟨w.heap.size, o, none⟩ = (w.alloc (.cells #[.int .i64 0, .int .i64 0, .float .f64 0, .string ⟨#[]⟩, .int .i64 0] 30)).frozen? ⟨w.heap.size, o, none⟩ := fun o => ((uh HG)).frozen w.heap.size o n0 (by simp)
  go_wp2_with fail
  have hG0 := uh HG0
  have b9 := below_set5 (Below.refl w.heap.size w2) w.heap.size (Nat.le_refl _) (.int .i64 3) (.int .i64 0) (.float .f64 f) (.string ⟨#[]⟩) (.int .i64 0)
  exact bodyPost_ret (v := V 3 0 f ⟨#[]⟩ 0) (by simp [results, Tryz.results47, go_sem, rc]) rfl ⟨⟨3, 0, f, ⟨#[]⟩, 0, rfl, by decide, hf⟩, ((uh HC2).mono (by omega)).below b9 hbw, (hG0.trans (uh HG)).then_below b9 (Nat.le_refl _)⟩
 have b8 : (x == 8) = false := by simp [x8]
 by_cases x9 : x = 9
 ·subst x9
  clear hG0
  go_wp2_with fail
  refine (pick_any b (N + 2) 2 _ (uh HC1) (by omega) (by omega) (by omega)).mono ?_
  rintro e w2 ⟨⟨y, rfl, hy0, hy1⟩, hc2, hs2⟩
  have HG := uy ((uh HS1).gr.trans hs2.gr)
  have HC2 := uy hc2
  clear hc2 hs2
  have rc : ∀ o, w2.cell? ⟨w.heap.size, o, none⟩ = (w.alloc (.cells #[.int .i64 0, .int .i64 0, .float .f64 0, .string ⟨#[]⟩, .int .i64 0] 30)).cell? ⟨w.heap.size, o, none⟩ := fun o => ((uh HG)).cell w.heap.size o n0 (by simp)
  have rf : ∀ o, w2.frozen? ⟨w.heap.size, o, none⟩ = (w.alloc (.cells #[.int .i64 0, .int .i64 0, .float .f64 0, .string ⟨#[]⟩, .int .i64 0] 30)).frozen? ⟨w.heap.size, o, none⟩ := fun o => ((uh HG)).frozen w.heap.size o n0 (by simp)
  go_wp2_with fail
  have hG0 := uh HG0
  have b9 := below_set5 (Below.refl w.heap.size w2) w.heap.size (Nat.le_refl _) (.int .i64 1) (.int .i64 y) (.float .f64 0) (.string ⟨#[]⟩) (.int .i64 0)
  exact bodyPost_ret (v := V 1 y 0 ⟨#[]⟩ 0) (by simp [results, Tryz.results47, go_sem, rc]) rfl ⟨⟨1, y, 0, ⟨#[]⟩, 0, rfl, by decide, by decide⟩, ((uh HC2).mono (by omega)).below b9 hbw, (hG0.trans (uh HG)).then_below b9 (Nat.le_refl _)⟩
 have b9' : (x == 9) = false := by simp [x9]
 by_cases x10 : x = 10
 ·subst x10
  clear hG0
  go_wp2_with fail
  refine (pick_any b (N + 2) 3 _ (uh HC1) (by omega) (by omega) (by omega)).mono ?_
  rintro e w2 ⟨⟨y, rfl, hy0, hy1⟩, hc2, hs2⟩
  have HG2 := uy ((uh HS1).gr.trans hs2.gr)
  have HC2 := uy hc2
  clear hc2 hs2
  go_wp2_with fail
  refine (pick_any b (N + 4) 9 _ (uh HC2) (by omega) (by omega) (by omega)).mono ?_
  rintro e w3 ⟨⟨z, rfl, hz0, hz1⟩, hc3, hs3⟩
  have HG := uy ((uh HG2).trans hs3.gr)
  have HC3 := uy hc3
  clear hc3 hs3
  have rc : ∀ o, w3.cell? ⟨w.heap.size, o, none⟩ = (w.alloc (.cells #[.int .i64 0, .int .i64 0, .float .f64 0, .string ⟨#[]⟩, .int .i64 0] 30)).cell? ⟨w.heap.size, o, none⟩ := fun o => ((uh HG)).cell w.heap.size o n0 (by simp)
  have rf : ∀ o, w3.frozen? ⟨w.heap.size, o, none⟩ = (w.alloc (.cells #[.int .i64 0, .int .i64 0, .float .f64 0, .string ⟨#[]⟩, .int .i64 0] 30)).frozen? ⟨w.heap.size, o, none⟩ := fun o => ((uh HG)).frozen w.heap.size o n0 (by simp)
  go_wp2_with fail
  have hG0 := uh HG0
  have b9 := below_set5 (Below.refl w.heap.size w3) w.heap.size (Nat.le_refl _) (.int .i64 (5 + y)) (.int .i64 0) (.float .f64 0) (.string ⟨#[]⟩) (.int .i64 z)
  exact bodyPost_ret (v := V (5 + y) 0 0 ⟨#[]⟩ z) (by simp [results, Tryz.results47, go_sem, rc]) rfl ⟨⟨(5 + y), 0, 0, ⟨#[]⟩, z, rfl, by decide, by decide⟩, ((uh HC3).mono (by omega)).below b9 hbw, (hG0.trans (uh HG)).then_below b9 (Nat.le_refl _)⟩
 have b10 : (x == 10) = false := by simp [x10]
 clear hG0
 go_wp2_with fail
 refine (pick_any b (N + 2) 3 _ (uh HC1) (by omega) (by omega) (by omega)).mono ?_
 rintro e w2 ⟨⟨y, rfl, hy0, hy1⟩, hc2, hs2⟩
 have HG2 := uy ((uh HS1).gr.trans hs2.gr)
 have HC2 := uy hc2
 clear hc2 hs2
 by_cases y0 : y = 0
 ·subst y0
  have rc : ∀ o, w2.cell? ⟨w.heap.size, o, none⟩ = (w.alloc (.cells #[.int .i64 0, .int .i64 0, .float .f64 0, .string ⟨#[]⟩, .int .i64 0] 30)).cell? ⟨w.heap.size, o, none⟩ := fun o => ((uh HG2)).cell w.heap.size o n0 (by simp)
  have rf : ∀ o, w2.frozen? ⟨w.heap.size, o, none⟩ = (w.alloc (.cells #[.int .i64 0, .int .i64 0, .float .f64 0, .string ⟨#[]⟩, .int .i64 0] 30)).frozen? ⟨w.heap.size, o, none⟩ := fun o => ((uh HG2)).frozen w.heap.size o n0 (by simp)
  go_wp2_with fail
  have hG0 := uh HG0
  have b9 := below_set5 (Below.refl w.heap.size w2) w.heap.size (Nat.le_refl _) (.int .i64 0) (.int .i64 0) (.float .f64 0) (.string ⟨#[]⟩) (.int .i64 0)
  exact bodyPost_ret (v := V 0 0 0 ⟨#[]⟩ 0) (by simp [results, Tryz.results47, go_sem, rc]) rfl ⟨⟨0, 0, 0, ⟨#[]⟩, 0, rfl, by decide, by decide⟩, ((uh HC2).mono (by omega)).below b9 hbw, (hG0.trans (uh HG2)).then_below b9 (Nat.le_refl _)⟩
 ·have c0 : (y == 0) = false := by simp [y0]
  go_wp2_with fail
  refine (pick_any b (N + 4) 15 _ (uh HC2) (by omega) (by omega) (by omega)).mono ?_
  rintro e w3 ⟨⟨z, rfl, hz0, hz1⟩, hc3, hs3⟩
  have HG := uy ((uh HG2).trans hs3.gr)
  have HC3 := uy hc3
  clear hc3 hs3
  have rc : ∀ o, w3.cell? ⟨w.heap.size, o, none⟩ = (w.alloc (.cells #[.int .i64 0, .int .i64 0, .float .f64 0, .string ⟨#[]⟩, .int .i64 0] 30)).cell? ⟨w.heap.size, o, none⟩ := fun o => ((uh HG)).cell w.heap.size o n0 (by simp)
  have rf : ∀ o, w3.frozen? ⟨w.heap.size, o, none⟩ = (w.alloc (.cells #[.int .i64 0, .int .i64 0, .float .f64 0, .string ⟨#[]⟩, .int .i64 0] 30)).frozen? ⟨w.heap.size, o, none⟩ := fun o => ((uh HG)).frozen w.heap.size o n0 (by simp)
  go_wp2_with fail
  have hG0 := uh HG0
  have b9 := below_set5 (Below.refl w.heap.size w3) w.heap.size (Nat.le_refl _) (.int .i64 8) (.int .i64 z) (.float .f64 0) (.string ⟨#[]⟩) (.int .i64 0)
  exact bodyPost_ret (v := V 8 z 0 ⟨#[]⟩ 0) (by simp [results, Tryz.results47, go_sem, rc]) rfl ⟨⟨8, z, 0, ⟨#[]⟩, 0, rfl, by decide, by decide⟩, ((uh HC3).mono (by omega)).below b9 hbw, (hG0.trans (uh HG)).then_below b9 (Nat.le_refl _)⟩
end
section
open Go.RowKit
attribute [local go_sem] run_store_float run_equalIn_float
set_option maxHeartbeats 4000000 in
theorem bad_any (b N : Nat) (w : World) (h : Cu b N w) (hN : N ≤ 1099511600000) :
  Calls Tryz.prog 46 #[.pointer (some ⟨b, 0, none⟩)] w fun e w' => (∃ (kind num : Int) (flt : Nat) (s : ByteArray) (ref : Int), e = .returned (V kind num flt s ref) ∧ s.size ≤ 4000 ∧ FOk flt) ∧ Cu b (N + 20) w' ∧ Gr b w w' := by
 have hbw := h.lt
 have n0 : ¬ w.heap.size = b := by omega
 have HG0 := uy (Gr.of_below (b := b) ((Below.refl w.heap.size w).alloc (Nat.le_refl _) (.cells #[.int .i64 0, .int .i64 0, .float .f64 0, .string ⟨#[]⟩, .int .i64 0] 30)))
 have H := uy (h.below ((Below.refl w.heap.size w).alloc (Nat.le_refl _) (.cells #[.int .i64 0, .int .i64 0, .float .f64 0, .string ⟨#[]⟩, .int .i64 0] 30)) hbw)
 clear h
 go_enter Tryz.func46, Tryz.ntmps46
 go_wp2_with fail
 refine (key_any b N _ (uh H) (by omega)).mono ?_
 rintro e w1 ⟨⟨kind, num, flt, s, ref, rfl, hsz, hf⟩, hc1, hg1⟩
 have hz1 := hg1.size
 simp at hz1
 have n1 : ¬ w1.heap.size = b := by omega
 have hbk : Below w1.heap.size w1 (w1.alloc (.cells #[.int .i64 kind, .int .i64 num, .float .f64 flt, .string s, .int .i64 ref] 30)) := (Below.refl _ _).alloc (Nat.le_refl _) _
 have HC1 := uy (hc1.below hbk hc1.lt)
 have HG1 := uy (hg1.trans (Gr.of_below hbk))
 clear hc1 hg1 hbk
 go_wp2_with fail
 refine (pick_any b (N + 10) 5 _ (uh HC1) (by omega) (by omega) (by omega)).mono ?_
 rintro e w2 ⟨⟨x, rfl, hx0, hx1⟩, hc2, hs2⟩
 have hz2 := hs2.size
 simp at hz2
 have HG2 := uy ((uh HG1).trans hs2.gr)
 have HC2 := uy hc2
 have rv : ∀ o, w2.cell? ⟨w1.heap.size, o, none⟩ = (w1.alloc (.cells #[.int .i64 kind, .int .i64 num, .float .f64 flt, .string s, .int .i64 ref] 30)).cell? ⟨w1.heap.size, o, none⟩ := fun o => hs2.cell w1.heap.size o n1
 have rvf : ∀ o, w2.frozen? ⟨w1.heap.size, o, none⟩ = (w1.alloc (.cells #[.int .i64 kind, .int .i64 num, .float .f64 flt, .string s, .int .i64 ref] 30)).frozen? ⟨w1.heap.size, o, none⟩ := fun o => hs2.frozen w1.heap.size o n1
 clear hc2 hs2
 have m1 : ¬ w.heap.size = w1.heap.size := by omega
 by_cases x0 : x = 0
 ·subst x0
  go_wp2_with fail
  refine (pick_any b (N + 12) 11 _ (uh HC2) (by omega) (by omega) (by omega)).mono ?_
  rintro e w3 ⟨⟨y, rfl, hy0, hy1⟩, hc3, hs3⟩
  have HG3 := uy ((uh HG2).trans hs3.gr)
  have HC3 := uy hc3
  have rv3 : ∀ o, w3.cell? ⟨w1.heap.size, o, none⟩ = (w1.alloc (.cells #[.int .i64 kind, .int .i64 num, .float .f64 flt, .string s, .int .i64 ref] 30)).cell? ⟨w1.heap.size, o, none⟩ := fun o => (hs3.cell w1.heap.size o n1).trans (rv o)
  have rvf3 : ∀ o, w3.frozen? ⟨w1.heap.size, o, none⟩ = (w1.alloc (.cells #[.int .i64 kind, .int .i64 num, .float .f64 flt, .string s, .int .i64 ref] 30)).frozen? ⟨w1.heap.size, o, none⟩ := fun o => (hs3.frozen w1.heap.size o n1).trans (rvf o)
  clear hc3 hs3 rv rvf
  have rc : ∀ o, w3.cell? ⟨w.heap.size, o, none⟩ = (w.alloc (.cells #[.int .i64 0, .int .i64 0, .float .f64 0, .string ⟨#[]⟩, .int .i64 0] 30)).cell? ⟨w.heap.size, o, none⟩ := fun o => (uh HG3).cell w.heap.size o n0 (by simp)
  have rf : ∀ o, w3.frozen? ⟨w.heap.size, o, none⟩ = (w.alloc (.cells #[.int .i64 0, .int .i64 0, .float .f64 0, .string ⟨#[]⟩, .int .i64 0] 30)).frozen? ⟨w.heap.size, o, none⟩ := fun o => (uh HG3).frozen w.heap.size o n0 (by simp)
  go_wp2_with fail
  have b9 := below_set5 ((Below.refl w.heap.size w3).setCell (p := ⟨w1.heap.size, 0, none⟩) (by simp; omega) (.int .i64 (y - 1))) w.heap.size (Nat.le_refl _) (.int .i64 (y - 1)) (.int .i64 num) (.float .f64 flt) (.string s) (.int .i64 ref)
  exact bodyPost_ret (v := V (y - 1) num flt s ref) (by simp [results, Tryz.results46, go_sem, rc]) rfl ⟨⟨(y - 1), num, flt, s, ref, rfl, hsz, hf⟩, ((uh HC3).mono (by omega)).below b9 hbw, ((uh HG0).trans (uh HG3)).then_below b9 (Nat.le_refl _)⟩
 have b0 : (x == 0) = false := by simp [x0]
 by_cases x1 : x = 1
 ·subst x1
  go_wp2_with fail
  refine (whole_any b (N + 12) _ (uh HC2) (by omega)).mono ?_
  rintro e w3 ⟨⟨y, rfl⟩, hc3, hs3⟩
  have HG3 := uy ((uh HG2).trans hs3.gr)
  have HC3 := uy hc3
  have rv3 : ∀ o, w3.cell? ⟨w1.heap.size, o, none⟩ = (w1.alloc (.cells #[.int .i64 kind, .int .i64 num, .float .f64 flt, .string s, .int .i64 ref] 30)).cell? ⟨w1.heap.size, o, none⟩ := fun o => (hs3.cell w1.heap.size o n1).trans (rv o)
  have rvf3 : ∀ o, w3.frozen? ⟨w1.heap.size, o, none⟩ = (w1.alloc (.cells #[.int .i64 kind, .int .i64 num, .float .f64 flt, .string s, .int .i64 ref] 30)).frozen? ⟨w1.heap.size, o, none⟩ := fun o => (hs3.frozen w1.heap.size o n1).trans (rvf o)
  clear hc3 hs3 rv rvf
  have rc : ∀ o, w3.cell? ⟨w.heap.size, o, none⟩ = (w.alloc (.cells #[.int .i64 0, .int .i64 0, .float .f64 0, .string ⟨#[]⟩, .int .i64 0] 30)).cell? ⟨w.heap.size, o, none⟩ := fun o => (uh HG3).cell w.heap.size o n0 (by simp)
  have rf : ∀ o, w3.frozen? ⟨w.heap.size, o, none⟩ = (w.alloc (.cells #[.int .i64 0, .int .i64 0, .float .f64 0, .string ⟨#[]⟩, .int .i64 0] 30)).frozen? ⟨w.heap.size, o, none⟩ := fun o => (uh HG3).frozen w.heap.size o n0 (by simp)
  go_wp2_with fail
  have b9 := below_set5 ((Below.refl w.heap.size w3).setCell (p := ⟨w1.heap.size, 1, none⟩) (by simp; omega) (.int .i64 y)) w.heap.size (Nat.le_refl _) (.int .i64 kind) (.int .i64 y) (.float .f64 flt) (.string s) (.int .i64 ref)
  exact bodyPost_ret (v := V kind y flt s ref) (by simp [results, Tryz.results46, go_sem, rc]) rfl ⟨⟨kind, y, flt, s, ref, rfl, hsz, hf⟩, ((uh HC3).mono (by omega)).below b9 hbw, ((uh HG0).trans (uh HG3)).then_below b9 (Nat.le_refl _)⟩
 have b1 : (x == 1) = false := by simp [x1]
 by_cases x2 : x = 2
 ·subst x2
  have rc : ∀ o, w2.cell? ⟨w.heap.size, o, none⟩ = (w.alloc (.cells #[.int .i64 0, .int .i64 0, .float .f64 0, .string ⟨#[]⟩, .int .i64 0] 30)).cell? ⟨w.heap.size, o, none⟩ := fun o => (uh HG2).cell w.heap.size o n0 (by simp)
  have rf : ∀ o, w2.frozen? ⟨w.heap.size, o, none⟩ = (w.alloc (.cells #[.int .i64 0, .int .i64 0, .float .f64 0, .string ⟨#[]⟩, .int .i64 0] 30)).frozen? ⟨w.heap.size, o, none⟩ := fun o => (uh HG2).frozen w.heap.size o n0 (by simp)
  go_wp2_with fail
  have b9 := below_set5 ((Below.refl w.heap.size w2).setCell (p := ⟨w1.heap.size, 2, none⟩) (by simp; omega) (.float .f64 13826050856027422720)) w.heap.size (Nat.le_refl _) (.int .i64 kind) (.int .i64 num) (.float .f64 13826050856027422720) (.string s) (.int .i64 ref)
  exact bodyPost_ret (v := V kind num 13826050856027422720 s ref) (by simp [results, Tryz.results46, go_sem, rc]) rfl ⟨⟨kind, num, 13826050856027422720, s, ref, rfl, hsz, by decide⟩, ((uh HC2).mono (by omega)).below b9 hbw, ((uh HG0).trans (uh HG2)).then_below b9 (Nat.le_refl _)⟩
 have b2 : (x == 2) = false := by simp [x2]
 by_cases x3 : x = 3
 ·subst x3
  go_wp2_with fail
  refine (pick_any b (N + 12) 3 _ (uh HC2) (by omega) (by omega) (by omega)).mono ?_
  rintro e w3 ⟨⟨y, rfl, hy0, hy1⟩, hc3, hs3⟩
  have HG3 := uy ((uh HG2).trans hs3.gr)
  have HC3 := uy hc3
  have rv3 : ∀ o, w3.cell? ⟨w1.heap.size, o, none⟩ = (w1.alloc (.cells #[.int .i64 kind, .int .i64 num, .float .f64 flt, .string s, .int .i64 ref] 30)).cell? ⟨w1.heap.size, o, none⟩ := fun o => (hs3.cell w1.heap.size o n1).trans (rv o)
  have rvf3 : ∀ o, w3.frozen? ⟨w1.heap.size, o, none⟩ = (w1.alloc (.cells #[.int .i64 kind, .int .i64 num, .float .f64 flt, .string s, .int .i64 ref] 30)).frozen? ⟨w1.heap.size, o, none⟩ := fun o => (hs3.frozen w1.heap.size o n1).trans (rvf o)
  clear hc3 hs3 rv rvf
  have rc : ∀ o, w3.cell? ⟨w.heap.size, o, none⟩ = (w.alloc (.cells #[.int .i64 0, .int .i64 0, .float .f64 0, .string ⟨#[]⟩, .int .i64 0] 30)).cell? ⟨w.heap.size, o, none⟩ := fun o => (uh HG3).cell w.heap.size o n0 (by simp)
  have rf : ∀ o, w3.frozen? ⟨w.heap.size, o, none⟩ = (w.alloc (.cells #[.int .i64 0, .int .i64 0, .float .f64 0, .string ⟨#[]⟩, .int .i64 0] 30)).frozen? ⟨w.heap.size, o, none⟩ := fun o => (uh HG3).frozen w.heap.size o n0 (by simp)
  go_wp2_with fail
  have b9 := below_set5 ((Below.refl w.heap.size w3).setCell (p := ⟨w1.heap.size, 4, none⟩) (by simp; omega) (.int .i64 (y - 1))) w.heap.size (Nat.le_refl _) (.int .i64 kind) (.int .i64 num) (.float .f64 flt) (.string s) (.int .i64 (y - 1))
  exact bodyPost_ret (v := V kind num flt s (y - 1)) (by simp [results, Tryz.results46, go_sem, rc]) rfl ⟨⟨kind, num, flt, s, (y - 1), rfl, hsz, hf⟩, ((uh HC3).mono (by omega)).below b9 hbw, ((uh HG0).trans (uh HG3)).then_below b9 (Nat.le_refl _)⟩
 have b3 : (x == 3) = false := by simp [x3]
 have rc : ∀ o, w2.cell? ⟨w.heap.size, o, none⟩ = (w.alloc (.cells #[.int .i64 0, .int .i64 0, .float .f64 0, .string ⟨#[]⟩, .int .i64 0] 30)).cell? ⟨w.heap.size, o, none⟩ := fun o => (uh HG2).cell w.heap.size o n0 (by simp)
 have rf : ∀ o, w2.frozen? ⟨w.heap.size, o, none⟩ = (w.alloc (.cells #[.int .i64 0, .int .i64 0, .float .f64 0, .string ⟨#[]⟩, .int .i64 0] 30)).frozen? ⟨w.heap.size, o, none⟩ := fun o => (uh HG2).frozen w.heap.size o n0 (by simp)
 go_wp2_with fail
 have b9 := below_set5 (Below.refl w.heap.size w2) w.heap.size (Nat.le_refl _) (.int .i64 kind) (.int .i64 num) (.float .f64 flt) (.string s) (.int .i64 ref)
 exact bodyPost_ret (v := V kind num flt s ref) (by simp [results, Tryz.results46, go_sem, rc]) rfl ⟨⟨kind, num, flt, s, ref, rfl, hsz, hf⟩, ((uh HC2).mono (by omega)).below b9 hbw, ((uh HG0).trans (uh HG2)).then_below b9 (Nat.le_refl _)⟩
set_option maxHeartbeats 4000000 in
theorem drawKey_any (a : Option Addr) (len cap : Nat) (w : World) (hcode : CodeAt w w.heap.size a len) :
  Calls Tryz.prog 12 #[.slice a len cap] w fun e w' => (∃ (kind num : Int) (flt : Nat) (s : ByteArray) (ref : Int), e = .returned (V kind num flt s ref) ∧ s.size ≤ 4000 ∧ FOk flt) ∧ Below w.heap.size w w' := by
 have HCode := uy hcode
 clear hcode
 go_enter Tryz.func12, Tryz.ntmps12
 go_wp2_with fail
 have hU : Below w.heap.size w ((w.alloc (.cells #[.int .i64 0, .int .i64 0, .float .f64 0, .string ⟨#[]⟩, .int .i64 0] 30)).alloc (.cells #[.slice a len cap, .int .i64 0, .int .u64 0] 69)) := ((Below.refl w.heap.size w).alloc (Nat.le_refl _) _).alloc (by simp) _
 have n0 : ¬ w.heap.size = w.heap.size + 1 := by omega
 have hcu : Cu (w.heap.size + 1) 0 ((w.alloc (.cells #[.int .i64 0, .int .i64 0, .float .f64 0, .string ⟨#[]⟩, .int .i64 0] 30)).alloc (.cells #[.slice a len cap, .int .i64 0, .int .u64 0] 69)) := by
  refine ⟨⟨a, len, cap, 0, 0, by simp [go_sem], by simp [go_sem], by simp [go_sem], by omega, by omega, by omega, by omega, ?_⟩, fun o => by simp [go_sem]⟩
  obtain ⟨h1, h2⟩ := uh HCode
  refine ⟨h1, ?_⟩
  rcases h2 with h | ⟨k, off, e, hk, hc⟩
  ·exact .inl h
  ·refine .inr ⟨k, off, e, by omega, fun i hi => ?_⟩
   obtain ⟨z, hz, hr⟩ := hc i hi
   exact ⟨z, (hU.cell (p := ⟨k, off + i, none⟩) hk).trans hz, hr⟩
 refine (pick_any (w.heap.size + 1) 0 2 _ hcu (by omega) (by omega) (by omega)).mono ?_
 rintro e w1 ⟨⟨x, rfl, hx0, hx1⟩, hc1, hs1⟩
 have HC1 := uy hc1
 have HS1 := uy hs1
 clear hc1 hs1 hcu
 by_cases x0 : x = 0
 ·subst x0
  go_wp2_with fail
  refine (bad_any (w.heap.size + 1) 2 _ (uh HC1) (by omega)).mono ?_
  rintro e w2 ⟨⟨kind, num, flt, s, ref, rfl, hsz, hf⟩, hc2, hg2⟩
  have HG := uy ((uh HS1).gr.trans hg2)
  clear hc2 hg2
  have rc : ∀ o, w2.cell? ⟨w.heap.size, o, none⟩ = ((w.alloc (.cells #[.int .i64 0, .int .i64 0, .float .f64 0, .string ⟨#[]⟩, .int .i64 0] 30)).alloc (.cells #[.slice a len cap, .int .i64 0, .int .u64 0] 69)).cell? ⟨w.heap.size, o, none⟩ := fun o => (uh HG).cell w.heap.size o n0 (by simp; omega)
  have rf : ∀ o, w2.frozen? ⟨w.heap.size, o, none⟩ = ((w.alloc (.cells #[.int .i64 0, .int .i64 0, .float .f64 0, .string ⟨#[]⟩, .int .i64 0] 30)).alloc (.cells #[.slice a len cap, .int .i64 0, .int .u64 0] 69)).frozen? ⟨w.heap.size, o, none⟩ := fun o => (uh HG).frozen w.heap.size o n0 (by simp; omega)
  go_wp2_with fail
  have b9 := below_set5 (hU.trans ((uh HG).below (B := w.heap.size) (by omega) (by simp; omega))) w.heap.size (Nat.le_refl _) (.int .i64 kind) (.int .i64 num) (.float .f64 flt) (.string s) (.int .i64 ref)
  exact bodyPost_ret (v := V kind num flt s ref) (by simp [results, Tryz.results12, go_sem, rc]) rfl ⟨⟨kind, num, flt, s, ref, rfl, hsz, hf⟩, b9⟩
 ·have b0 : (x == 0) = false := by simp [x0]
  go_wp2_with fail
  refine (key_any (w.heap.size + 1) 2 _ (uh HC1) (by omega)).mono ?_
  rintro e w2 ⟨⟨kind, num, flt, s, ref, rfl, hsz, hf⟩, hc2, hg2⟩
  have HG := uy ((uh HS1).gr.trans hg2)
  clear hc2 hg2
  have rc : ∀ o, w2.cell? ⟨w.heap.size, o, none⟩ = ((w.alloc (.cells #[.int .i64 0, .int .i64 0, .float .f64 0, .string ⟨#[]⟩, .int .i64 0] 30)).alloc (.cells #[.slice a len cap, .int .i64 0, .int .u64 0] 69)).cell? ⟨w.heap.size, o, none⟩ := fun o => (uh HG).cell w.heap.size o n0 (by simp; omega)
  have rf : ∀ o, w2.frozen? ⟨w.heap.size, o, none⟩ = ((w.alloc (.cells #[.int .i64 0, .int .i64 0, .float .f64 0, .string ⟨#[]⟩, .int .i64 0] 30)).alloc (.cells #[.slice a len cap, .int .i64 0, .int .u64 0] 69)).frozen? ⟨w.heap.size, o, none⟩ := fun o => (uh HG).frozen w.heap.size o n0 (by simp; omega)
  go_wp2_with fail
  have b9 := below_set5 (hU.trans ((uh HG).below (B := w.heap.size) (by omega) (by simp; omega))) w.heap.size (Nat.le_refl _) (.int .i64 kind) (.int .i64 num) (.float .f64 flt) (.string s) (.int .i64 ref)
  exact bodyPost_ret (v := V kind num flt s ref) (by simp [results, Tryz.results12, go_sem, rc]) rfl ⟨⟨kind, num, flt, s, ref, rfl, hsz, hf⟩, b9⟩
end
section
open Go.RowKit
theorem wByte_at (a : Option Addr) (len cap : Nat) (i : Nat) (w : World) {b : Nat} (hcode : CodeAt w b a len) (hle : (len : Int) ≤ 1048576) (hi : i < 1000) :
  ∃ z : Int, 0 ≤ z ∧ z < 256 ∧ ∀ (w' : World), (∀ k, k < b → w'.heap[k]? = w.heap[k]?) → Calls Tryz.prog 13 #[.slice a len cap, .int .i64 i] w' fun e w'' => e = .returned (.int .i64 z) ∧ w'' = w' := by
 by_cases h0 : len = 0
 ·subst h0
  refine ⟨0, by omega, by omega, fun w' _ => ?_⟩
  clear hcode
  go_enter Tryz.func13, Tryz.ntmps13
  go_wp2
  go_ret
  exact ⟨rfl, rfl⟩
 ·obtain ⟨k, off, rfl, hk, hc⟩ := hcode.2.resolve_left h0
  obtain ⟨z, hz, hz0, hz1⟩ := hc (i % len) (Nat.mod_lt _ (by omega))
  refine ⟨z, hz0, by omega, fun w' hw' => ?_⟩
  have hz' : w'.cell? ⟨k, off + i % len, none⟩ = some (.int .u8 z) := (World.cell?_of_block (hw' k hk)).trans hz
  have hne : ((len : Int) == 0) = false := by simp; omega
  have hne2 : ¬ (len : Int) = 0 := by omega
  have hmod : Int.tmod (i : Int) (len : Int) = ((i % len : Nat) : Int) := by rw [Int.tmod_eq_emod_of_nonneg (by omega)]; rfl
  have hp : ((i % len : Nat) : Int) < (len : Int) := by have := Nat.mod_lt i (show 0 < len by omega); omega
  have hp2 : (i % len : Nat) < len := Nat.mod_lt i (by omega)
  clear hcode hc hw'
  go_enter Tryz.func13, Tryz.ntmps13
  go_wp2
  go_ret
  exact ⟨rfl, rfl⟩
end
end Go.Proofs.YtglcaejddckleaaGreatDoor
