/-
  StD.
-/
import Derived.Test.YtfceeijdmilieaaGreatDoorStCP
namespace Go.Proofs.YtfceeijdmilieaaGreatDoor
open Go.RowKit
set_option linter.unusedVariables false
attribute [local go_sem] run_store_float run_equalIn_float

set_option maxRecDepth 100000 in
set_option maxHeartbeats 2000000 in
theorem eqValueS_same (a a' : Option Addr) (n cap cap' : Nat) (f : Nat → Vl) (w : World) (hA : VAt w a n f) (hB : VAt w a' n f) (hn : n ≤ 1048576) :
    Calls Tryz.prog 182 #[.slice a n cap, .slice a' n cap'] w fun e w' => e = .returned (.bool true) ∧ Below w.heap.size w w' := by
  have HA := hide hA
  have HB := hide hB
  clear hA hB
  go_enter Tryz.func182, Tryz.ntmps182
  go_wp2
  go_loopw [5] (fun i wr => ∃ (k : Nat), k ≤ n ∧ i = .int .i64 k ∧ Below w.heap.size w wr) (fun i _ => n - (intOf i).toNat)
  case atStart => exact ⟨0, by omega, rfl, Below.refl _ _⟩
  case round =>
    obtain ⟨k, hk, rfl, hb⟩ := hrel
    by_cases hlt : k < n
    · obtain ⟨b, off, rfl, hbl, hcs⟩ := (unhide HA).resolve_left (by omega)
      obtain ⟨b', off', rfl, hbl', hcs'⟩ := (unhide HB).resolve_left (by omega)
      obtain ⟨e0, e1, e2, e3, e4⟩ := (hcs k hlt).keep (fun q => hb.cell (p := ⟨b, q, none⟩) hbl)
      obtain ⟨d0, d1, d2, d3, d4⟩ := (hcs' k hlt).keep (fun q => hb.cell (p := ⟨b', q, none⟩) hbl')
      have hx : b < wr.heap.size := Nat.lt_of_lt_of_le hbl hb.size
      have hx' : b' < wr.heap.size := Nat.lt_of_lt_of_le hbl' hb.size
      have HBW := hide hb
      clear hb hcs hcs'
      go_wp2_with fail
      refine wp_region_quiet (C := fun w' => Below wr.heap.size wr w') (by kernel_rfl) (by kernel_rfl) ((Below.refl _ _).drew) ?_
      show wpQuiet _ _ _ _ [_, _, _, _, _, _, _, _, _, _] _
      refine wpQuiet_step (fun K hK => ?_)
      go_simp
      refine ⟨_, fun w' hw' => rfl, hK _ ?_⟩
      clear hK K
      refine wpQuiet_step (fun K hK => ?_)
      go_simp
      refine ⟨_, fun w' hw' => rfl, hK _ ?_⟩
      clear hK K
      refine wpQuiet_step (fun K hK => ?_)
      go_simp
      refine ⟨_, fun w' hw' => rfl, hK _ ?_⟩
      clear hK K
      refine wpQuiet_step (fun K hK => ?_)
      go_simp
      apply Exists.intro
      refine And.intro (fun w' hw' => ?_) (hK _ ?_)
      · obtain ⟨hc', hf'⟩ := bcell hw'
        go_simp
        first | rfl | exact ⟨rfl, rfl⟩ | exact ⟨rfl⟩
      clear hK K
      refine wpQuiet_step (fun K hK => ?_)
      go_simp
      refine ⟨_, fun w' hw' => rfl, hK _ ?_⟩
      clear hK K
      refine wpQuiet_step (fun K hK => ?_)
      go_simp
      refine ⟨_, fun w' hw' => rfl, hK _ ?_⟩
      clear hK K
      refine wpQuiet_step (fun K hK => ?_)
      go_simp
      refine ⟨_, fun w' hw' => rfl, hK _ ?_⟩
      clear hK K
      refine wpQuiet_step (fun K hK => ?_)
      go_simp
      apply Exists.intro
      refine And.intro (fun w' hw' => ?_) (hK _ ?_)
      · obtain ⟨hc', hf'⟩ := bcell hw'
        go_simp
        first | rfl | exact ⟨rfl, rfl⟩ | exact ⟨rfl⟩
      clear hK K
      refine wpQuiet_step (fun K hK => ?_)
      go_simp
      apply Exists.intro
      refine And.intro (fun w' hw' => ?_) (hK _ ?_)
      · refine (eqValue_self (f k).kind (f k).num (f k).flt (f k).str (f k).ref _).mono ?_
        rintro e w'' ⟨rfl, hb⟩
        exact ⟨rfl, hw'.trans (hb.mono hw'.size)⟩
      clear hK K
      refine wpQuiet_step (fun K hK => ?_)
      go_simp
      refine ⟨_, fun w' hw' => rfl, hK _ ?_⟩
      clear hK K
      refine wpQuiet_nil ?_
      intro w2 hw2
      have HB2 := hide ((unhide HBW).trans (hw2.mono (unhide HBW).size))
      clear hw2 e0 e1 e2 e3 e4 d0 d1 d2 d3 d4
      go_wp2
      go_roundw
      case rel => exact ⟨k + 1, by omega, by go_num, unhide HB2⟩
      case measure => simp [intOf]; omega
    · have : k = n := by omega
      subst this
      have HB2 := hide hb
      clear hb
      go_wp2
      go_ret
      exact ⟨rfl, unhide HB2⟩

set_option maxHeartbeats 1000000 in
theorem eqSite_self (s : Si) (w : World) :
    Calls Tryz.prog 124 #[SV s, SV s] w fun e w' => e = .returned (.bool true) ∧ Below w.heap.size w w' := by
  go_enter Tryz.func124, Tryz.ntmps124
  go_wp2
  go_ret
  exact ⟨rfl, ((Below.refl _ _).alloc (Nat.le_refl _) _).alloc (by simp) _⟩

set_option maxRecDepth 100000 in
set_option maxHeartbeats 2000000 in
theorem eqSiteS_same (a a' : Option Addr) (n cap cap' : Nat) (f : Nat → Si) (w : World) (hA : SiAt w a n f) (hB : SiAt w a' n f) (hn : n ≤ 1048576) :
    Calls Tryz.prog 61 #[.slice a n cap, .slice a' n cap'] w fun e w' => e = .returned (.bool true) ∧ Below w.heap.size w w' := by
  have HA := hide hA
  have HB := hide hB
  clear hA hB
  go_enter Tryz.func61, Tryz.ntmps61
  go_wp2
  go_loopw [5] (fun i wr => ∃ (k : Nat), k ≤ n ∧ i = .int .i64 k ∧ Below w.heap.size w wr) (fun i _ => n - (intOf i).toNat)
  case atStart => exact ⟨0, by omega, rfl, Below.refl _ _⟩
  case round =>
    obtain ⟨k, hk, rfl, hb⟩ := hrel
    by_cases hlt : k < n
    · obtain ⟨b, off, rfl, hbl, hcs⟩ := (unhide HA).resolve_left (by omega)
      obtain ⟨b', off', rfl, hbl', hcs'⟩ := (unhide HB).resolve_left (by omega)
      obtain ⟨e0, e1, e2, e3, e4⟩ := (hcs k hlt).keep (fun q => hb.cell (p := ⟨b, q, none⟩) hbl)
      obtain ⟨d0, d1, d2, d3, d4⟩ := (hcs' k hlt).keep (fun q => hb.cell (p := ⟨b', q, none⟩) hbl')
      have hx : b < wr.heap.size := Nat.lt_of_lt_of_le hbl hb.size
      have hx' : b' < wr.heap.size := Nat.lt_of_lt_of_le hbl' hb.size
      have HBW := hide hb
      clear hb hcs hcs'
      go_wp2_with fail
      refine wp_region_quiet (C := fun w' => Below wr.heap.size wr w') (by kernel_rfl) (by kernel_rfl) ((Below.refl _ _).drew) ?_
      show wpQuiet _ _ _ _ [_, _, _, _, _, _, _, _, _, _] _
      refine wpQuiet_step (fun K hK => ?_)
      go_simp
      refine ⟨_, fun w' hw' => rfl, hK _ ?_⟩
      clear hK K
      refine wpQuiet_step (fun K hK => ?_)
      go_simp
      refine ⟨_, fun w' hw' => rfl, hK _ ?_⟩
      clear hK K
      refine wpQuiet_step (fun K hK => ?_)
      go_simp
      refine ⟨_, fun w' hw' => rfl, hK _ ?_⟩
      clear hK K
      refine wpQuiet_step (fun K hK => ?_)
      go_simp
      apply Exists.intro
      refine And.intro (fun w' hw' => ?_) (hK _ ?_)
      · obtain ⟨hc', hf'⟩ := bcell hw'
        go_simp
        first | rfl | exact ⟨rfl, rfl⟩ | exact ⟨rfl⟩
      clear hK K
      refine wpQuiet_step (fun K hK => ?_)
      go_simp
      refine ⟨_, fun w' hw' => rfl, hK _ ?_⟩
      clear hK K
      refine wpQuiet_step (fun K hK => ?_)
      go_simp
      refine ⟨_, fun w' hw' => rfl, hK _ ?_⟩
      clear hK K
      refine wpQuiet_step (fun K hK => ?_)
      go_simp
      refine ⟨_, fun w' hw' => rfl, hK _ ?_⟩
      clear hK K
      refine wpQuiet_step (fun K hK => ?_)
      go_simp
      apply Exists.intro
      refine And.intro (fun w' hw' => ?_) (hK _ ?_)
      · obtain ⟨hc', hf'⟩ := bcell hw'
        go_simp
        first | rfl | exact ⟨rfl, rfl⟩ | exact ⟨rfl⟩
      clear hK K
      refine wpQuiet_step (fun K hK => ?_)
      go_simp
      apply Exists.intro
      refine And.intro (fun w' hw' => ?_) (hK _ ?_)
      · refine (eqSite_self (f k) _).mono ?_
        rintro e w'' ⟨rfl, hb⟩
        exact ⟨rfl, hw'.trans (hb.mono hw'.size)⟩
      clear hK K
      refine wpQuiet_step (fun K hK => ?_)
      go_simp
      refine ⟨_, fun w' hw' => rfl, hK _ ?_⟩
      clear hK K
      refine wpQuiet_nil ?_
      intro w2 hw2
      have HB2 := hide ((unhide HBW).trans (hw2.mono (unhide HBW).size))
      clear hw2 e0 e1 e2 e3 e4 d0 d1 d2 d3 d4
      go_wp2
      go_roundw
      case rel => exact ⟨k + 1, by omega, by go_num, unhide HB2⟩
      case measure => simp [intOf]; omega
    · have : k = n := by omega
      subst this
      have HB2 := hide hb
      clear hb
      go_wp2
      go_ret
      exact ⟨rfl, unhide HB2⟩

set_option maxRecDepth 100000 in
set_option maxHeartbeats 2000000 in
theorem eqTable_same (va va' la la' ia ia' xa xa' : Option Addr) (vc vc' lc lc' ic ic' xc xc' : Nat) (t : Tb) (w : World) (hV : VAt w va t.nv t.V) (hV' : VAt w va' t.nv t.V) (hA : DAt w la ia xa t.d) (hB : DAt w la' ia' xa' t.d) (hn : t.nv ≤ 1048576) (hS : Small t.d) :
    Calls Tryz.prog 123 #[TV va vc la lc ia ic xa xc t, TV va' vc' la' lc' ia' ic' xa' xc' t] w fun e w' => e = .returned (.bool true) ∧ Below w.heap.size w w' := by
  have HV := hide hV
  have HV' := hide hV'
  have HA := hide hA
  have HB := hide hB
  have HS := hide hS
  clear hV hV' hA hB hS
  have hb0 : Below w.heap.size w ((w.alloc (.cells #[.int .i64 t.shape, .slice va t.nv vc, .slice la t.d.n lc, .slice ia t.d.m ic, .slice xa t.d.x xc, .int .i64 t.d.used, .int .i64 t.d.live, .int .i64 t.d.turns] 93)).alloc (.cells #[.int .i64 t.shape, .slice va' t.nv vc', .slice la' t.d.n lc', .slice ia' t.d.m ic', .slice xa' t.d.x xc', .int .i64 t.d.used, .int .i64 t.d.live, .int .i64 t.d.turns] 93)) := ((Below.refl _ _).alloc (Nat.le_refl _) _).alloc (by simp) _
  have HB0 := hide hb0
  clear hb0
  go_enter Tryz.func123, Tryz.ntmps123
  go_wp2_with fail
  refine (eqValueS_same va va' t.nv vc vc' t.V _ ((unhide HV).below (unhide HB0) rfl) ((unhide HV').below (unhide HB0) rfl) hn).mono ?_
  rintro e w1 ⟨rfl, hb1⟩
  obtain ⟨hc1, hf1⟩ := bcell hb1
  have hz1 := hb1.size
  simp at hz1
  have y0 : w.heap.size < w1.heap.size := by omega
  have y1 : w.heap.size + 1 < w1.heap.size := by omega
  have HB1 := hide ((unhide HB0).trans (hb1.mono (unhide HB0).size))
  clear hb1
  go_wp2_with fail
  refine (eqDict_same la la' ia ia' xa xa' lc lc' ic ic' xc xc' t.d _ ((unhide HA).below (unhide HB1)) ((unhide HB).below (unhide HB1)) (unhide HS)).mono ?_
  rintro e w2 ⟨rfl, hb2⟩
  have HB2 := hide ((unhide HB1).trans (hb2.mono (unhide HB1).size))
  clear hb2 hc1 hf1
  go_wp2
  go_ret
  exact ⟨rfl, unhide HB2⟩

set_option maxRecDepth 100000 in
set_option maxHeartbeats 2000000 in
theorem eqTableS_same (a a' : Option Addr) (n cap cap' : Nat) (f : Nat → Tb) (w : World) (hA : TAt w a n f) (hB : TAt w a' n f) (hn : n ≤ 1048576) (hs : ∀ i, i < n → (f i).nv ≤ 1048576 ∧ Small (f i).d) :
    Calls Tryz.prog 60 #[.slice a n cap, .slice a' n cap'] w fun e w' => e = .returned (.bool true) ∧ Below w.heap.size w w' := by
  have HA := hide hA
  have HB := hide hB
  have HS := hide hs
  clear hA hB hs
  go_enter Tryz.func60, Tryz.ntmps60
  go_wp2
  go_loopw [5] (fun i wr => ∃ (k : Nat), k ≤ n ∧ i = .int .i64 k ∧ Below w.heap.size w wr) (fun i _ => n - (intOf i).toNat)
  case atStart => exact ⟨0, by omega, rfl, Below.refl _ _⟩
  case round =>
    obtain ⟨k, hk, rfl, hb⟩ := hrel
    by_cases hlt : k < n
    · obtain ⟨b, off, rfl, hbl, hcs⟩ := (unhide HA).resolve_left (by omega)
      obtain ⟨b', off', rfl, hbl', hcs'⟩ := (unhide HB).resolve_left (by omega)
      obtain ⟨va, vc, la, lc, ia, ic, xa, xc, hc, hv, hd⟩ := (hcs k hlt).below hb hbl
      obtain ⟨va', vc', la', lc', ia', ic', xa', xc', hc', hv', hd'⟩ := (hcs' k hlt).below hb hbl'
      obtain ⟨e0, e1, e2, e3, e4, e5, e6, e7⟩ := hc
      obtain ⟨d0, d1, d2, d3, d4, d5, d6, d7⟩ := hc'
      have HVD := hide (And.intro hv (And.intro hv' (And.intro hd hd')))
      have hx : b < wr.heap.size := Nat.lt_of_lt_of_le hbl hb.size
      have hx' : b' < wr.heap.size := Nat.lt_of_lt_of_le hbl' hb.size
      have HBW := hide hb
      clear hb hcs hcs' hv hv' hd hd'
      go_wp2_with fail
      refine wp_region_quiet (C := fun w' => Below wr.heap.size wr w') (by kernel_rfl) (by kernel_rfl) ((Below.refl _ _).drew) ?_
      show wpQuiet _ _ _ _ [_, _, _, _, _, _, _, _, _, _] _
      refine wpQuiet_step (fun K hK => ?_)
      go_simp
      refine ⟨_, fun w' hw' => rfl, hK _ ?_⟩
      clear hK K
      refine wpQuiet_step (fun K hK => ?_)
      go_simp
      refine ⟨_, fun w' hw' => rfl, hK _ ?_⟩
      clear hK K
      refine wpQuiet_step (fun K hK => ?_)
      go_simp
      refine ⟨_, fun w' hw' => rfl, hK _ ?_⟩
      clear hK K
      refine wpQuiet_step (fun K hK => ?_)
      go_simp
      apply Exists.intro
      refine And.intro (fun w' hw' => ?_) (hK _ ?_)
      · obtain ⟨hc', hf'⟩ := bcell hw'
        go_simp
        first | rfl | exact ⟨rfl, rfl⟩ | exact ⟨rfl⟩
      clear hK K
      refine wpQuiet_step (fun K hK => ?_)
      go_simp
      refine ⟨_, fun w' hw' => rfl, hK _ ?_⟩
      clear hK K
      refine wpQuiet_step (fun K hK => ?_)
      go_simp
      refine ⟨_, fun w' hw' => rfl, hK _ ?_⟩
      clear hK K
      refine wpQuiet_step (fun K hK => ?_)
      go_simp
      refine ⟨_, fun w' hw' => rfl, hK _ ?_⟩
      clear hK K
      refine wpQuiet_step (fun K hK => ?_)
      go_simp
      apply Exists.intro
      refine And.intro (fun w' hw' => ?_) (hK _ ?_)
      · obtain ⟨hc', hf'⟩ := bcell hw'
        go_simp
        first | rfl | exact ⟨rfl, rfl⟩ | exact ⟨rfl⟩
      clear hK K
      refine wpQuiet_step (fun K hK => ?_)
      go_simp
      apply Exists.intro
      refine And.intro (fun w' hw' => ?_) (hK _ ?_)
      · refine (eqTable_same va va' la la' ia ia' xa xa' vc vc' lc lc' ic ic' xc xc' (f k) _ ((unhide HVD).1.below hw' rfl) ((unhide HVD).2.1.below hw' rfl) ((unhide HVD).2.2.1.below hw') ((unhide HVD).2.2.2.below hw') (unhide HS k hlt).1 (unhide HS k hlt).2).mono ?_
        rintro e w'' ⟨rfl, hb⟩
        exact ⟨rfl, hw'.trans (hb.mono hw'.size)⟩
      clear hK K
      refine wpQuiet_step (fun K hK => ?_)
      go_simp
      refine ⟨_, fun w' hw' => rfl, hK _ ?_⟩
      clear hK K
      refine wpQuiet_nil ?_
      intro w2 hw2
      have HB2 := hide ((unhide HBW).trans (hw2.mono (unhide HBW).size))
      clear hw2 e0 e1 e2 e3 e4 e5 e6 e7 d0 d1 d2 d3 d4 d5 d6 d7
      go_wp2
      go_roundw
      case rel => exact ⟨k + 1, by omega, by go_num, unhide HB2⟩
      case measure => simp [intOf]; omega
    · have : k = n := by omega
      subst this
      have HB2 := hide hb
      clear hb
      go_wp2
      go_ret
      exact ⟨rfl, unhide HB2⟩

set_option maxRecDepth 100000 in
set_option maxHeartbeats 2000000 in
theorem eqStore_same (m m' : Nat) (ta ta' sa sa' : Option Addr) (fc fc' tc tc' sc sc' : Nat) (s : Sto) (w : World) (hF : ShRow w m s.nf s.F) (hF' : ShRow w m' s.nf s.F) (hT : TAt w ta s.nt s.T) (hT' : TAt w ta' s.nt s.T) (hS : SiAt w sa s.ns s.S) (hS' : SiAt w sa' s.ns s.S) (hs : SSmall s) :
    Calls Tryz.prog 20 #[StV (some ⟨m, 0, none⟩) fc ta tc sa sc s, StV (some ⟨m', 0, none⟩) fc' ta' tc' sa' sc' s] w fun e w' => e = .returned (.bool true) ∧ Below w.heap.size w w' := by
  have hl := hF.lt
  have hl' := hF'.lt
  have HF := hide (And.intro hF hF')
  have HT := hide (And.intro hT hT')
  have HSS := hide (And.intro hS hS')
  have HS := hide hs
  clear hF hF' hT hT' hS hS' hs
  have hb0 : Below w.heap.size w ((w.alloc (.cells #[.slice (some ⟨m, 0, none⟩) s.nf fc, .slice ta s.nt tc, .slice sa s.ns sc] 29)).alloc (.cells #[.slice (some ⟨m', 0, none⟩) s.nf fc', .slice ta' s.nt tc', .slice sa' s.ns sc'] 29)) := ((Below.refl _ _).alloc (Nat.le_refl _) _).alloc (by simp) _
  have HB0 := hide hb0
  clear hb0
  go_enter Tryz.func20, Tryz.ntmps20
  go_wp2_with fail
  refine (eqForest_same m m' s.nf fc fc' s.F s.F _ ((unhide HF).1.below (unhide HB0) hl) ((unhide HF).2.below (unhide HB0) hl') (unhide HS).f.1 (fun i _ => ⟨rfl, rfl, rfl⟩)).mono ?_
  rintro e w1 ⟨rfl, hb1⟩
  obtain ⟨hc1, hf1⟩ := bcell hb1
  have hz1 := hb1.size
  simp at hz1
  have y0 : w.heap.size < w1.heap.size := by omega
  have y1 : w.heap.size + 1 < w1.heap.size := by omega
  have HB1 := hide ((unhide HB0).trans (hb1.mono (unhide HB0).size))
  clear hb1
  go_wp2_with fail
  refine (eqTableS_same ta ta' s.nt tc tc' s.T _ ((unhide HT).1.below (unhide HB1) rfl) ((unhide HT).2.below (unhide HB1) rfl) (unhide HS).nt (fun i hi => ⟨(unhide HS).nv hi, (unhide HS).dict hi⟩)).mono ?_
  rintro e w2 ⟨rfl, hb2⟩
  obtain ⟨hc2, hf2⟩ := bcell hb2
  have z0 := Nat.lt_of_lt_of_le y0 hb2.size
  have z1 := Nat.lt_of_lt_of_le y1 hb2.size
  have HB2 := hide ((unhide HB1).trans (hb2.mono (unhide HB1).size))
  clear hb2
  go_wp2_with fail
  refine (eqSiteS_same sa sa' s.ns sc sc' s.S _ ((unhide HSS).1.below (unhide HB2) rfl) ((unhide HSS).2.below (unhide HB2) rfl) (unhide HS).n).mono ?_
  rintro e w3 ⟨rfl, hb3⟩
  have HB3 := hide ((unhide HB2).trans (hb3.mono (unhide HB2).size))
  clear hb3 hc1 hf1 hc2 hf2
  go_wp2
  go_ret
  exact ⟨rfl, unhide HB3⟩
end Go.Proofs.YtfceeijdmilieaaGreatDoor
