/-
  StF.
-/
import Derived.Test.YtfceeijdmilieaaGreatDoorStEP
import Derived.Test.YtfceeijdmilieaaGreatDoorBq14
namespace Go.Proofs.YtfceeijdmilieaaGreatDoor
open Go.RowKit
set_option linter.unusedVariables false
attribute [local go_sem] run_store_float run_equalIn_float

set_option maxHeartbeats 2000000 in
theorem hasNoDict_any (va : Option Addr) (nv vc : Nat) (la : Option Addr) (lc : Nat) (ia : Option Addr) (ic : Nat) (xa : Option Addr) (xc : Nat) (d : Dc) (w : World) :
    Calls Tryz.prog 309 #[.agg #[.slice va nv vc, .slice la d.n lc, .slice ia d.m ic, .slice xa d.x xc, .int .i64 d.used, .int .i64 d.live, .int .i64 d.turns]] w fun e w' => e = .returned (.bool (tells (bare d))) ∧ Below w.heap.size w w' := by
  have hb1 : ∀ o1 o2, Below w.heap.size w ((w.alloc o1).alloc o2) := fun o1 o2 => ((Below.refl _ _).alloc (Nat.le_refl _) _).alloc (by simp) _
  have HB := hide hb1
  clear hb1
  by_cases h1 : ((d.n : Int) == 0) = true
  case neg =>
    have HT := hide (tells_no (p := bare d) (fun h => by unfold bare at h; simp at h1; omega))
    have h1' : ((d.n : Int) == 0) = false := by simpa using h1
    clear h1
    go_enter Tryz.func309, Tryz.ntmps309
    go_wp2
    go_ret
    exact ⟨by rw [unhide HT]; rfl, unhide HB _ _⟩
  by_cases h2 : ((d.m : Int) == 0) = true
  case neg =>
    have HT := hide (tells_no (p := bare d) (fun h => by unfold bare at h; simp at h2; omega))
    have h2' : ((d.m : Int) == 0) = false := by simpa using h2
    clear h2
    go_enter Tryz.func309, Tryz.ntmps309
    go_wp2
    go_ret
    exact ⟨by rw [unhide HT]; rfl, unhide HB _ _⟩
  by_cases h3 : ((d.x : Int) == 0) = true
  case neg =>
    have HT := hide (tells_no (p := bare d) (fun h => by unfold bare at h; simp at h3; omega))
    have h3' : ((d.x : Int) == 0) = false := by simpa using h3
    clear h3
    go_enter Tryz.func309, Tryz.ntmps309
    go_wp2
    go_ret
    exact ⟨by rw [unhide HT]; rfl, unhide HB _ _⟩
  by_cases h4 : (d.used == 0) = true
  case neg =>
    have HT := hide (tells_no (p := bare d) (fun h => by unfold bare at h; simp at h4; omega))
    have h4' : (d.used == 0) = false := by simpa using h4
    clear h4
    go_enter Tryz.func309, Tryz.ntmps309
    go_wp2
    go_ret
    exact ⟨by rw [unhide HT]; rfl, unhide HB _ _⟩
  by_cases h5 : (d.live == 0) = true
  case neg =>
    have HT := hide (tells_no (p := bare d) (fun h => by unfold bare at h; simp at h5; omega))
    have h5' : (d.live == 0) = false := by simpa using h5
    clear h5
    go_enter Tryz.func309, Tryz.ntmps309
    go_wp2
    go_ret
    exact ⟨by rw [unhide HT]; rfl, unhide HB _ _⟩
  by_cases h6 : (d.turns == 0) = true
  case neg =>
    have HT := hide (tells_no (p := bare d) (fun h => by unfold bare at h; simp at h6; omega))
    have h6' : (d.turns == 0) = false := by simpa using h6
    clear h6
    go_enter Tryz.func309, Tryz.ntmps309
    go_wp2
    go_ret
    exact ⟨by rw [unhide HT]; rfl, unhide HB _ _⟩
  have HT := hide (tells_yes (p := bare d) (by simp at h1 h2 h3 h4 h5 h6; exact ⟨h1, h2, h3, h4, h5, h6⟩))
  go_enter Tryz.func309, Tryz.ntmps309
  go_wp2
  go_ret
  exact ⟨by rw [unhide HT]; rfl, unhide HB _ _⟩

abbrev HdV (va : Option Addr) (vc : Nat) (la : Option Addr) (lc : Nat) (ia : Option Addr) (ic : Nat) (xa : Option Addr) (xc : Nat) (t : Tb) : Value := .agg #[.slice va t.nv vc, .slice la t.d.n lc, .slice ia t.d.m ic, .slice xa t.d.x xc, .int .i64 t.d.used, .int .i64 t.d.live, .int .i64 t.d.turns]
abbrev ShdV (p : Nat) (va : Option Addr) (vc : Nat) (la : Option Addr) (lc : Nat) (ia : Option Addr) (ic : Nat) (xa : Option Addr) (xc : Nat) (t : Tb) : Value := .agg #[.slice va t.nv vc, .slice la t.d.n lc, .slice ia t.d.m ic, .slice xa t.d.x xc, .int .i64 t.d.used, .int .i64 t.d.live, .int .i64 t.d.turns, .pointer (some ⟨p, 0, none⟩)]
def valsOk (t : Tb) : Prop := ∀ i, i < t.nv → okV (t.V i) = true

set_option maxRecDepth 100000 in
set_option maxHeartbeats 4000000 in
theorem hasVals_any (va : Option Addr) (vc : Nat) (la : Option Addr) (lc : Nat) (ia : Option Addr) (ic : Nat) (xa : Option Addr) (xc : Nat) (t : Tb) (c : Int) (w : World) (hV : VAt w va t.nv t.V) (hn : t.nv ≤ 1048576) :
    Calls Tryz.prog 316 #[HdV va vc la lc ia ic xa xc t, .int .i64 c] w fun e w' => e = .returned (.bool (tells (valsOk t ∧ (t.nv : Int) = c))) ∧ Below w.heap.size w w' := by
  obtain ⟨W, hW⟩ : ∃ W, W = w.alloc (.cells #[.slice va t.nv vc, .slice la t.d.n lc, .slice ia t.d.m ic, .slice xa t.d.x xc, .int .i64 t.d.used, .int .i64 t.d.live, .int .i64 t.d.turns] 197) := ⟨_, rfl⟩
  have hbW : Below w.heap.size w W := by rw [hW]; exact (Below.refl _ _).alloc (Nat.le_refl _) _
  have hzW : w.heap.size < W.heap.size := by rw [hW]; simp
  have x0 : W.cell? ⟨w.heap.size, 0, none⟩ = some (.slice va t.nv vc) := by rw [hW]; simp [go_sem]
  have HV := hide (hV.below hbW rfl)
  have HBW := hide hbW
  clear hbW hV
  go_enter Tryz.func316, Tryz.ntmps316
  go_wp2
  rw [← hW]
  clear hW
  go_loopw [10] (fun i wr => ∃ (k : Nat), k ≤ t.nv ∧ i = .int .i64 k ∧ Below W.heap.size W wr ∧ ∀ q, q < k → okV (t.V q) = true) (fun i _ => t.nv - (intOf i).toNat)
  case atStart => exact ⟨0, by omega, rfl, Below.refl _ _, fun q hq => by omega⟩
  case round =>
    obtain ⟨k, hk, rfl, hb, hall⟩ := hrel
    have q0 := (hb.cell (p := ⟨w.heap.size, 0, none⟩) hzW).trans x0
    by_cases hkn : k < t.nv
    case neg =>
      have hke : k = t.nv := by omega
      have HT : Hid (tells (valsOk t ∧ (t.nv : Int) = c) = ((t.nv : Int) == c)) := hide (by
        by_cases e : (t.nv : Int) = c
        · rw [tells_yes ⟨fun i hi => hall i (by omega), e⟩]; simp [e]
        · rw [tells_no (fun h => e h.2)]; simp [e])
      have HB3 := hide ((unhide HBW).trans (hb.mono (unhide HBW).size))
      subst hke
      clear hb hall
      go_wp2
      go_ret
      exact ⟨by rw [unhide HT] <;> rfl, unhide HB3⟩
    obtain ⟨b, off, rfl, hbl, hcs⟩ := (unhide HV).resolve_left (by omega)
    obtain ⟨e0, e1, e2, e3, e4⟩ := (hcs k hkn).keep (fun q => hb.cell (p := ⟨b, q, none⟩) hbl)
    have hbz := hb.size
    have HB3 : Hid (∀ o, Below w.heap.size w (wr.alloc o)) := hide (fun o => ((unhide HBW).trans (hb.mono (unhide HBW).size)).alloc (by omega) _)
    have HB4 : Hid (∀ o, Below W.heap.size W (wr.alloc o)) := hide (fun o => hb.alloc (by omega) _)
    have HALL := hide hall
    clear hcs hb hall q0
    cases hv : (t.V k).ok
    · have hv' : validB (t.V k).kind (t.V k).num (t.V k).flt (t.V k).str (t.V k).ref = false := hv
      have HT := hide (tells_no (p := valsOk t ∧ (t.nv : Int) = c) (fun h => by have := h.1 k hkn; unfold okV at this; rw [hv] at this; cases this))
      clear hv
      go_wp2_with fail
      refine (isValid_any (t.V k).kind (t.V k).num (t.V k).flt (t.V k).str (t.V k).ref _).mono ?_
      rintro e w3 ⟨rfl, hb3⟩
      rw [hv']
      have HB5 := hide ((unhide HB3 _).trans (hb3.mono (unhide HB3 _).size))
      clear hb3 e0 e1 e2 e3 e4
      go_wp2
      go_ret
      exact ⟨by rw [unhide HT]; rfl, unhide HB5⟩
    · have hv' : validB (t.V k).kind (t.V k).num (t.V k).flt (t.V k).str (t.V k).ref = true := hv
      by_cases hz : ((t.V k).kind == 0) = true
      · have HT := hide (tells_no (p := valsOk t ∧ (t.nv : Int) = c) (fun h => by have := h.1 k hkn; unfold okV at this; simp at hz; simp [hz] at this))
        clear hv
        go_wp2_with fail
        refine (isValid_any (t.V k).kind (t.V k).num (t.V k).flt (t.V k).str (t.V k).ref _).mono ?_
        rintro e w3 ⟨rfl, hb3⟩
        rw [hv']
        obtain ⟨hc3, hf3⟩ := bcell hb3
        have HB5 := hide ((unhide HB3 _).trans (hb3.mono (unhide HB3 _).size))
        clear hb3 e0 e1 e2 e3 e4
        go_wp2
        go_ret
        exact ⟨by rw [unhide HT]; rfl, unhide HB5⟩
      · have hz' : ((t.V k).kind == 0) = false := by simpa using hz
        have HO : Hid (okV (t.V k) = true) := hide (by unfold okV; rw [hv]; simp at hz; simp [hz])
        clear hv hz
        go_wp2_with fail
        refine (isValid_any (t.V k).kind (t.V k).num (t.V k).flt (t.V k).str (t.V k).ref _).mono ?_
        rintro e w3 ⟨rfl, hb3⟩
        rw [hv']
        obtain ⟨hc3, hf3⟩ := bcell hb3
        have HB5 := hide ((unhide HB4 _).trans (hb3.mono (unhide HB4 _).size))
        clear hb3 e0 e1 e2 e3 e4
        go_wp2
        go_roundw
        case rel =>
          refine ⟨k + 1, by omega, by go_num, unhide HB5, fun q hq => ?_⟩
          by_cases e : q = k
          · subst e; exact unhide HO
          · exact unhide HALL q (by omega)
        case measure => simp [intOf]; omega

/-- The same, of the program's DictOk. -/
def ImplD (T : World → Prop) (la : Option Addr) (lc : Nat) (ia : Option Addr) (ic : Nat) (xa : Option Addr) (xc : Nat) (d : Dc) (D : Int) : Prop :=
  ∀ W : World, T W → DAt W la ia xa d → Calls Tryz.prog 177 #[Dv la lc ia ic xa xc d] W fun e w' => e = .returned (.int .i64 D) ∧ Below W.heap.size W w'

set_option maxRecDepth 100000 in
set_option maxHeartbeats 2000000 in
theorem unshapedHolds_any (T : World → Prop) (hL : Lasts T) (va : Option Addr) (vc : Nat) (la : Option Addr) (lc : Nat) (ia : Option Addr) (ic : Nat) (xa : Option Addr) (xc : Nat) (t : Tb) (D : Int) (w : World) (hT : T w) (hV : VAt w va t.nv t.V) (hn : t.nv ≤ 1048576) (hA : DAt w la ia xa t.d) (hD : ImplD T la lc ia ic xa xc t.d D) :
    Calls Tryz.prog 320 #[HdV va vc la lc ia ic xa xc t] w fun e w' => e = .returned (.bool (tells (t.nv = 0 ∧ D = 0))) ∧ Below w.heap.size w w' := by
  obtain ⟨W, hW⟩ : ∃ W, W = w.alloc (.cells #[.slice va t.nv vc, .slice la t.d.n lc, .slice ia t.d.m ic, .slice xa t.d.x xc, .int .i64 t.d.used, .int .i64 t.d.live, .int .i64 t.d.turns] 202) := ⟨_, rfl⟩
  have hbW : Below w.heap.size w W := by rw [hW]; exact (Below.refl _ _).alloc (Nat.le_refl _) _
  have hzW : w.heap.size < W.heap.size := by rw [hW]; simp
  have x0 : W.cell? ⟨w.heap.size, 0, none⟩ = some (.slice va t.nv vc) := by rw [hW]; simp [go_sem]
  have x1 : W.cell? ⟨w.heap.size, 1, none⟩ = some (.slice la t.d.n lc) := by rw [hW]; simp [go_sem]
  have x2 : W.cell? ⟨w.heap.size, 2, none⟩ = some (.slice ia t.d.m ic) := by rw [hW]; simp [go_sem]
  have x3 : W.cell? ⟨w.heap.size, 3, none⟩ = some (.slice xa t.d.x xc) := by rw [hW]; simp [go_sem]
  have x4 : W.cell? ⟨w.heap.size, 4, none⟩ = some (.int .i64 t.d.used) := by rw [hW]; simp [go_sem]
  have x5 : W.cell? ⟨w.heap.size, 5, none⟩ = some (.int .i64 t.d.live) := by rw [hW]; simp [go_sem]
  have x6 : W.cell? ⟨w.heap.size, 6, none⟩ = some (.int .i64 t.d.turns) := by rw [hW]; simp [go_sem]
  have HV := hide (hV.below hbW rfl)
  have HA := hide (hA.below hbW)
  have HTW := hide (hL _ _ hT hbW)
  have HD := hide hD
  have HBW := hide hbW
  clear hbW hV hA hD hT
  go_enter Tryz.func320, Tryz.ntmps320
  go_wp2_with fail
  rw [← hW]
  clear hW
  refine (hasVals_any va vc la lc ia ic xa xc t 0 _ (unhide HV) hn).mono ?_
  rintro e w1 ⟨rfl, hb1⟩
  obtain ⟨p0, p1, p2, p3, p4, p5, p6⟩ : w1.cell? ⟨w.heap.size, 0, none⟩ = some (.slice va t.nv vc) ∧ w1.cell? ⟨w.heap.size, 1, none⟩ = some (.slice la t.d.n lc) ∧ w1.cell? ⟨w.heap.size, 2, none⟩ = some (.slice ia t.d.m ic) ∧ w1.cell? ⟨w.heap.size, 3, none⟩ = some (.slice xa t.d.x xc) ∧ w1.cell? ⟨w.heap.size, 4, none⟩ = some (.int .i64 t.d.used) ∧ w1.cell? ⟨w.heap.size, 5, none⟩ = some (.int .i64 t.d.live) ∧ w1.cell? ⟨w.heap.size, 6, none⟩ = some (.int .i64 t.d.turns) :=
    ⟨(hb1.cell (p := ⟨w.heap.size, 0, none⟩) hzW).trans x0, (hb1.cell (p := ⟨w.heap.size, 1, none⟩) hzW).trans x1, (hb1.cell (p := ⟨w.heap.size, 2, none⟩) hzW).trans x2, (hb1.cell (p := ⟨w.heap.size, 3, none⟩) hzW).trans x3, (hb1.cell (p := ⟨w.heap.size, 4, none⟩) hzW).trans x4, (hb1.cell (p := ⟨w.heap.size, 5, none⟩) hzW).trans x5, (hb1.cell (p := ⟨w.heap.size, 6, none⟩) hzW).trans x6⟩
  have HA1 := hide ((unhide HA).below hb1)
  have HT1 := hide (hL _ _ (unhide HTW) hb1)
  have HB1 := hide ((unhide HBW).trans (hb1.mono (unhide HBW).size))
  clear hb1 x0 x1 x2 x3 x4 x5 x6
  by_cases h0 : t.nv = 0
  case neg =>
    have HT := hide (tells_no (p := t.nv = 0 ∧ D = 0) (fun h => h0 h.1))
    rw [tells_no (p := valsOk t ∧ (t.nv : Int) = 0) (fun h => h0 (by omega))]
    clear h0
    go_wp2
    go_ret
    exact ⟨by rw [unhide HT]; rfl, unhide HB1⟩
  rw [tells_yes (p := valsOk t ∧ (t.nv : Int) = 0) ⟨fun i hi => by omega, by omega⟩]
  have HE : Hid (tells (t.nv = 0 ∧ D = 0) = (D == 0)) := hide (by
    by_cases hd : D = 0
    · rw [tells_yes ⟨h0, hd⟩]; simp [hd]
    · rw [tells_no (fun h => hd h.2)]; simp [hd])
  clear h0
  go_wp2_with fail
  refine (unhide HD _ (unhide HT1) (unhide HA1)).mono ?_
  rintro e w2 ⟨rfl, hb2⟩
  have HB2 := hide ((unhide HB1).trans (hb2.mono (unhide HB1).size))
  clear hb2 p0 p1 p2 p3 p4 p5 p6
  go_wp2
  go_ret
  exact ⟨by rw [unhide HE] <;> rfl, unhide HB2⟩

set_option maxRecDepth 100000 in
set_option maxHeartbeats 4000000 in
theorem shapedHolds_any (va : Option Addr) (vc : Nat) (la : Option Addr) (lc : Nat) (ia : Option Addr) (ic : Nat) (xa : Option Addr) (xc : Nat) (t : Tb) (s : Sto) (j p : Nat) (w : World) (hV : VAt w va t.nv t.V) (hn : t.nv ≤ 1048576) (hp : p < w.heap.size) (h3 : w.cell? ⟨p, 3, none⟩ = some (.int .i64 (s.F j).count)) :
    Calls Tryz.prog 313 #[ShdV p va vc la lc ia ic xa xc t] w fun e w' => e = .returned (.bool (tells (okJ s j t))) ∧ Below w.heap.size w w' := by
  obtain ⟨W, hW⟩ : ∃ W, W = w.alloc (.cells #[.slice va t.nv vc, .slice la t.d.n lc, .slice ia t.d.m ic, .slice xa t.d.x xc, .int .i64 t.d.used, .int .i64 t.d.live, .int .i64 t.d.turns, .pointer (some ⟨p, 0, none⟩)] 199) := ⟨_, rfl⟩
  have hbW : Below w.heap.size w W := by rw [hW]; exact (Below.refl _ _).alloc (Nat.le_refl _) _
  have hzW : w.heap.size < W.heap.size := by rw [hW]; simp
  have x0 : W.cell? ⟨w.heap.size, 0, none⟩ = some (.slice va t.nv vc) := by rw [hW]; simp [go_sem]
  have x1 : W.cell? ⟨w.heap.size, 1, none⟩ = some (.slice la t.d.n lc) := by rw [hW]; simp [go_sem]
  have x2 : W.cell? ⟨w.heap.size, 2, none⟩ = some (.slice ia t.d.m ic) := by rw [hW]; simp [go_sem]
  have x3 : W.cell? ⟨w.heap.size, 3, none⟩ = some (.slice xa t.d.x xc) := by rw [hW]; simp [go_sem]
  have x4 : W.cell? ⟨w.heap.size, 4, none⟩ = some (.int .i64 t.d.used) := by rw [hW]; simp [go_sem]
  have x5 : W.cell? ⟨w.heap.size, 5, none⟩ = some (.int .i64 t.d.live) := by rw [hW]; simp [go_sem]
  have x6 : W.cell? ⟨w.heap.size, 6, none⟩ = some (.int .i64 t.d.turns) := by rw [hW]; simp [go_sem]
  have x7 : W.cell? ⟨w.heap.size, 7, none⟩ = some (.pointer (some ⟨p, 0, none⟩)) := by rw [hW]; simp [go_sem]
  have y3 : W.cell? ⟨p, 3, none⟩ = some (.int .i64 (s.F j).count) := (hbW.cell (p := ⟨p, 3, none⟩) hp).trans h3
  have lp : p < W.heap.size := by omega
  have HV := hide (hV.below hbW rfl)
  have HBW := hide hbW
  clear hbW hV
  by_cases h1 : valsOk t ∧ (t.nv : Int) = (s.F j).count
  case neg =>
    have HT := hide (tells_no (p := okJ s j t) (fun h => h1 ⟨h.2.2, h.1⟩))
    have hb1 := tells_no h1
    clear h1
    go_enter Tryz.func313, Tryz.ntmps313
    go_wp2_with fail
    rw [← hW]
    clear hW
    refine wp_region_quiet (C := fun w' => Below W.heap.size W w') (by kernel_rfl) (by kernel_rfl) ((Below.refl _ _).drew) ?_
    show wpQuiet _ _ _ _ [_, _, _, _, _, _, _, _, _, _, _, _, _, _, _] _
    refine wpQuiet_step (fun K hK => ?_)
    go_simp
    refine ⟨_, fun w' hw' => rfl, hK _ ?_⟩
    clear hK K
    refine wpQuiet_step (fun K hK => ?_)
    go_simp
    apply Exists.intro
    refine And.intro (fun w' hw' => ?_) (hK _ ?_)
    · obtain ⟨hc', hf'⟩ := bcell hw'
      go_simp
      first | rfl | exact ⟨rfl, rfl⟩ | exact ⟨rfl⟩
    clear hK K
    refine wpQuiet_step (fun K hK => ?_)
    go_simp
    refine ⟨_, fun w' hw' => rfl, hK _ ?_⟩
    clear hK K
    refine wpQuiet_step (fun K hK => ?_)
    go_simp
    apply Exists.intro
    refine And.intro (fun w' hw' => ?_) (hK _ ?_)
    · obtain ⟨hc', hf'⟩ := bcell hw'
      go_simp
      first | rfl | exact ⟨rfl, rfl⟩ | exact ⟨rfl⟩
    clear hK K
    refine wpQuiet_step (fun K hK => ?_)
    go_simp
    refine ⟨_, fun w' hw' => rfl, hK _ ?_⟩
    clear hK K
    refine wpQuiet_step (fun K hK => ?_)
    go_simp
    refine ⟨_, fun w' hw' => rfl, hK _ ?_⟩
    clear hK K
    refine wpQuiet_step (fun K hK => ?_)
    go_simp
    refine ⟨_, fun w' hw' => rfl, hK _ ?_⟩
    clear hK K
    refine wpQuiet_step (fun K hK => ?_)
    go_simp
    apply Exists.intro
    refine And.intro (fun w' hw' => ?_) (hK _ ?_)
    · obtain ⟨hc', hf'⟩ := bcell hw'
      go_simp
      first | rfl | exact ⟨rfl, rfl⟩ | exact ⟨rfl⟩
    clear hK K
    refine wpQuiet_step (fun K hK => ?_)
    go_simp
    apply Exists.intro
    refine And.intro (fun w' hw' => ?_) (hK _ ?_)
    · refine ((hb1 ▸ hasVals_any va vc la lc ia ic xa xc t (s.F j).count _ ((unhide HV).below hw' rfl) hn)).mono ?_
      rintro e w'' ⟨rfl, hb⟩
      exact ⟨rfl, hw'.trans (hb.mono hw'.size)⟩
    clear hK K
    refine wpQuiet_step (fun K hK => ?_)
    go_simp
    refine ⟨_, fun w' hw' => rfl, hK _ ?_⟩
    clear hK K
    go_big_quiet_step (fail)
    go_big_quiet_step (fail)
    go_big_quiet_step (fail)
    refine wpQuiet_step (fun K hK => ?_)
    go_simp
    refine ⟨_, fun w' hw' => rfl, hK _ ?_⟩
    clear hK K
    refine wpQuiet_step (fun K hK => ?_)
    go_simp
    refine ⟨_, fun w' hw' => rfl, hK _ ?_⟩
    clear hK K
    refine wpQuiet_nil ?_
    intro w2 hw2
    have HB2 := hide ((unhide HBW).trans (hw2.mono (unhide HBW).size))
    clear hw2
    go_wp2
    go_ret
    exact ⟨by rw [unhide HT]; rfl, unhide HB2⟩
  have hb1 := tells_yes h1
  have HT : Hid (tells (okJ s j t) = tells (bare t.d)) := hide (by
    by_cases hbr : bare t.d
    · rw [tells_yes hbr, tells_yes (p := okJ s j t) ⟨h1.2, hbr, h1.1⟩]
    · rw [tells_no hbr, tells_no (p := okJ s j t) (fun h => hbr h.2.1)])
  clear h1
  go_enter Tryz.func313, Tryz.ntmps313
  go_wp2_with fail
  rw [← hW]
  clear hW
  refine wp_region_quiet (C := fun w' => Below W.heap.size W w') (by kernel_rfl) (by kernel_rfl) ((Below.refl _ _).drew) ?_
  show wpQuiet _ _ _ _ [_, _, _, _, _, _, _, _, _, _, _, _, _, _, _] _
  refine wpQuiet_step (fun K hK => ?_)
  go_simp
  refine ⟨_, fun w' hw' => rfl, hK _ ?_⟩
  clear hK K
  refine wpQuiet_step (fun K hK => ?_)
  go_simp
  apply Exists.intro
  refine And.intro (fun w' hw' => ?_) (hK _ ?_)
  · obtain ⟨hc', hf'⟩ := bcell hw'
    go_simp
    first | rfl | exact ⟨rfl, rfl⟩ | exact ⟨rfl⟩
  clear hK K
  refine wpQuiet_step (fun K hK => ?_)
  go_simp
  refine ⟨_, fun w' hw' => rfl, hK _ ?_⟩
  clear hK K
  refine wpQuiet_step (fun K hK => ?_)
  go_simp
  apply Exists.intro
  refine And.intro (fun w' hw' => ?_) (hK _ ?_)
  · obtain ⟨hc', hf'⟩ := bcell hw'
    go_simp
    first | rfl | exact ⟨rfl, rfl⟩ | exact ⟨rfl⟩
  clear hK K
  refine wpQuiet_step (fun K hK => ?_)
  go_simp
  refine ⟨_, fun w' hw' => rfl, hK _ ?_⟩
  clear hK K
  refine wpQuiet_step (fun K hK => ?_)
  go_simp
  refine ⟨_, fun w' hw' => rfl, hK _ ?_⟩
  clear hK K
  refine wpQuiet_step (fun K hK => ?_)
  go_simp
  refine ⟨_, fun w' hw' => rfl, hK _ ?_⟩
  clear hK K
  refine wpQuiet_step (fun K hK => ?_)
  go_simp
  apply Exists.intro
  refine And.intro (fun w' hw' => ?_) (hK _ ?_)
  · obtain ⟨hc', hf'⟩ := bcell hw'
    go_simp
    first | rfl | exact ⟨rfl, rfl⟩ | exact ⟨rfl⟩
  clear hK K
  refine wpQuiet_step (fun K hK => ?_)
  go_simp
  apply Exists.intro
  refine And.intro (fun w' hw' => ?_) (hK _ ?_)
  · refine ((hb1 ▸ hasVals_any va vc la lc ia ic xa xc t (s.F j).count _ ((unhide HV).below hw' rfl) hn)).mono ?_
    rintro e w'' ⟨rfl, hb⟩
    exact ⟨rfl, hw'.trans (hb.mono hw'.size)⟩
  clear hK K
  refine wpQuiet_step (fun K hK => ?_)
  go_simp
  refine ⟨_, fun w' hw' => rfl, hK _ ?_⟩
  clear hK K
  refine wpQuiet_step (fun K hK => ?_)
  go_simp
  refine ⟨_, fun w' hw' => rfl, hK _ ?_⟩
  clear hK K
  refine wpQuiet_step (fun K hK => ?_)
  go_simp
  apply Exists.intro
  refine And.intro (fun w' hw' => ?_) (hK _ ?_)
  · obtain ⟨hc', hf'⟩ := bcell hw'
    go_simp
    first | rfl | exact ⟨rfl, rfl⟩ | exact ⟨rfl⟩
  clear hK K
  refine wpQuiet_step (fun K hK => ?_)
  go_simp
  apply Exists.intro
  refine And.intro (fun w' hw' => ?_) (hK _ ?_)
  · refine (hasNoDict_any va t.nv vc la lc ia ic xa xc t.d _).mono ?_
    rintro e w'' ⟨rfl, hb⟩
    exact ⟨rfl, hw'.trans (hb.mono hw'.size)⟩
  clear hK K
  refine wpQuiet_step (fun K hK => ?_)
  go_simp
  refine ⟨_, fun w' hw' => rfl, hK _ ?_⟩
  clear hK K
  refine wpQuiet_step (fun K hK => ?_)
  go_simp
  refine ⟨_, fun w' hw' => rfl, hK _ ?_⟩
  clear hK K
  refine wpQuiet_nil ?_
  intro w2 hw2
  have HB2 := hide ((unhide HBW).trans (hw2.mono (unhide HBW).size))
  clear hw2
  go_wp2
  go_ret
  exact ⟨by rw [unhide HT] <;> rfl, unhide HB2⟩
end Go.Proofs.YtfceeijdmilieaaGreatDoor
