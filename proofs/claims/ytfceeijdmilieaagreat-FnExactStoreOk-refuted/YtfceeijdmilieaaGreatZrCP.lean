/-
  ZrC.
-/
import Derived.Test.YtfceeijdmilieaaGreatZrBP
import Derived.Test.YtfceeijdmilieaaGreatStHP
import Derived.Test.YtfceeijdmilieaaGreatStCP
namespace Go.Proofs.YtfceeijdmilieaaGreat
open Go.RowKit
set_option linter.unusedVariables false
attribute [local go_sem] run_store_float run_equalIn_float

set_option maxRecDepth 100000 in
set_option maxHeartbeats 4000000 in
theorem implStoreOk (T : World → Prop) (hL : Lasts T) (m fc : Nat) (ta : Option Addr) (tc : Nat) (sa : Option Addr) (sc : Nat) (s : Sto) (D : Nat → Int) (w : World) (hTw : T w) (hF : ShRow w m s.nf s.F) (hT : TAt w ta s.nt s.T) (hS : SiAt w sa s.ns s.S) (hs : SSmall s) (hk : ∀ i, i < s.ns → (s.S i).key.size ≤ maxLen)
    (hD : ∀ i, i < s.nt → ∀ la lc ia ic xa xc, ImplD T la lc ia ic xa xc (s.T i).d (D i)) :
    Calls Tryz.prog 7 #[StV (some ⟨m, 0, none⟩) fc ta tc sa sc s] w fun e w' => e = .returned (.int .i64 (storeOk s D)) ∧ Below w.heap.size w w' := by
  have hml := hF.lt
  obtain ⟨A, hA⟩ := hT.addr
  obtain ⟨W, hW⟩ : ∃ W, W = w.alloc (.cells #[.slice (some ⟨m, 0, none⟩) s.nf fc, .slice ta s.nt tc, .slice sa s.ns sc] 37) := ⟨_, rfl⟩
  have hbW : Below w.heap.size w W := by rw [hW]; exact (Below.refl _ _).alloc (Nat.le_refl _) _
  have HF := hide (hF.below hbW hml)
  have HA := hide (hA.below hbW)
  have HSi := hide (hS.below hbW rfl)
  have HTW := hide (hL _ _ hTw hbW)
  have HS := hide hs
  have HK := hide hk
  have HD := hide hD
  have HBW := hide hbW
  clear hF hT hA hS hs hk hD hbW hTw
  go_enter Tryz.func7, Tryz.ntmps7
  go_wp2_with fail
  rw [← hW]
  clear hW
  refine (judgeStore_any T hL m fc ta tc sa sc s D A _ (unhide HTW) (unhide HF) (unhide HA) (unhide HSi) (unhide HS) (unhide HK) (unhide HD)).mono ?_
  rintro e w1 ⟨hj, hb1⟩
  have HB1 := hide ((unhide HBW).trans (hb1.mono (unhide HBW).size))
  have HBs : Hid (∀ o, Below w.heap.size w (w1.alloc o)) := hide (fun o => (unhide HB1).alloc (unhide HB1).size _)
  clear hb1 HF HA HSi
  rcases hj with ⟨r, rfl, hr, hr0⟩ | ⟨g, cp, B, N, M, kv, b1, rfl, h0, hN, hb1, ho⟩
  · have HR := hide hr
    clear hr hr0
    go_wp2
    go_ret
    exact ⟨by rw [← unhide HR] <;> rfl, unhide HBs _⟩
  obtain ⟨ka, kc, rfl⟩ : ∃ a c, kv = .slice a s.nt c := by
    obtain ⟨_, ⟨hv, h0⟩ | ⟨g', cap, cur, hv, _⟩⟩ := ho
    · exact ⟨none, 0, by rw [hv, h0]⟩
    · exact ⟨_, _, hv⟩
  have HR := hide h0
  clear h0 hN ho hb1
  go_wp2
  go_ret
  exact ⟨by rw [unhide HR] <;> rfl, unhide HBs _⟩

/-- The store. -/
def zF : Nat → Shp := fun _ => ⟨-1, ⟨#[]⟩, 0⟩
def zT : Tb := ⟨-1, 0, fun _ => default, zD⟩
def zS : Sto := ⟨1, zF, 1, fun _ => zT, 0, fun _ => ⟨⟨#[]⟩, 0, 0, 0, 0⟩⟩
theorem zForest : forestOk 1 zF = 0 := forestOk0 ⟨by decide, by decide⟩ ⟨rfl, by kernel_rfl, rfl⟩ (fun i h1 h2 => by omega) (fun i k h1 h2 h3 => by omega) (fun i t h1 h2 => by omega)
theorem zSmall : SSmall zS := ⟨⟨by decide, fun i _ => show (ByteArray.mk #[]).size ≤ 1048576 by decide⟩, by decide, by decide⟩
theorem zOk1 : storeOk zS (fun _ => 0) = 0 := storeOk0 zForest ⟨by decide, by decide⟩ (fun i _ => .inl ⟨rfl, rfl, rfl⟩) (fun i hi => absurd (show i < 0 from hi) (Nat.not_lt_zero _))
theorem zOk2 : storeOk zS (fun _ => 5) = 3 := storeOk3 zForest ⟨by decide, by decide⟩ (fun h => by
  rcases h 0 (by decide) with q | q
  · exact absurd q.2.2 (by decide)
  · exact absurd q.1 (by decide))
theorem zSpecD : ∀ i, i < zS.nt → ∀ la lc ia ic xa xc, SpecD la lc ia ic xa xc (zS.T i).d 0 := fun i _ la lc ia ic xa xc W hA => by
  have h := specOk la lc ia ic xa xc zD W hA zD_Small zD_Wf
  rw [zD_sound] at h
  exact h
theorem zImplD : ∀ i, i < zS.nt → ∀ la lc ia ic xa xc, ImplD Tz la lc ia ic xa xc (zS.T i).d 5 := fun i _ la lc ia ic xa xc W hT hA => by
  have h := implDictOk Tz lastsZ la lc ia ic xa xc zD (fun _ => zH) W hT hA zD_Small (fun i _ _ => hsZ)
  rw [zD_no] at h
  exact h

set_option maxRecDepth 100000 in
set_option maxHeartbeats 4000000 in
theorem law_false (fa : Option Addr) (fc : Nat) (ta : Option Addr) (tc : Nat) (sa : Option Addr) (sc : Nat) (w : World) (hA : StAt w fa ta sa zS) (hT : Tz w) :
    Calls Tryz.prog 3 #[.agg #[.slice fa 1 fc, .slice ta 1 tc, .slice sa 0 sc]] w fun e w' => e = .returned (.bool false) ∧ Below w.heap.size w w' := by
  have HA := hide hA
  have HT := hide hT
  clear hA hT
  have hb0 : Below w.heap.size w (w.alloc (.cells #[.slice fa 1 fc, .slice ta 1 tc, .slice sa 0 sc] 28)) := (Below.refl _ _).alloc (Nat.le_refl _) _
  have HB0 := hide hb0
  clear hb0
  go_enter Tryz.func3, Tryz.ntmps3
  go_wp2_with fail
  refine (szStore_e fa fc ta tc sa sc zS _ ((unhide HA).below (unhide HB0)) rfl rfl rfl rfl (fun i hi => absurd (show i < 0 from hi) (Nat.not_lt_zero _)) (fun i _ => ⟨rfl, rfl⟩) (by decide)).mono ?_
  rintro e w1 ⟨⟨r, rfl, hr0⟩, hb1⟩
  obtain ⟨hc1, hf1⟩ := bcell hb1
  have hz1 := hb1.size
  simp at hz1
  have y1 : w.heap.size < w1.heap.size := by omega
  obtain ⟨p0, p1, p2⟩ : w1.cell? ⟨w.heap.size, 0, none⟩ = some (.slice fa 1 fc) ∧ w1.cell? ⟨w.heap.size, 1, none⟩ = some (.slice ta 1 tc) ∧ w1.cell? ⟨w.heap.size, 2, none⟩ = some (.slice sa 0 sc) := by
    refine ⟨?_, ?_, ?_⟩ <;> (rw [hc1 _ _ (by simp)]; simp [go_sem])
  have HB1 := hide ((unhide HB0).trans (hb1.mono (unhide HB0).size))
  clear hb1 hc1 hf1 hz1
  have hc2 := toStore_row fa fc ta tc sa sc zS w1 ((unhide HA).below (unhide HB1)) zSmall
  have HC2 : Hid (Calls Tryz.prog 6 #[.agg #[.slice fa 1 fc, .slice ta 1 tc, .slice sa 0 sc]] w1 fun e w' => (∃ m tb sb, e = .returned (.agg #[.slice (some ⟨m, 0, none⟩) 1 1, .slice (some ⟨tb, 0, none⟩) 1 1, .slice (some ⟨sb, 0, none⟩) 0 0]) ∧ StMade w1.heap.size w'.heap.size w' m tb sb zS) ∧ Below w1.heap.size w1 w') := hide hc2
  clear hc2
  go_wp2_with fail
  refine (unhide HC2).mono ?_
  rintro e w2 ⟨⟨m2, t2, s2, rfl, hrow⟩, hb2⟩
  have a0 := (hb2.cell (p := ⟨w.heap.size, 0, none⟩) y1).trans p0
  have a1 := (hb2.cell (p := ⟨w.heap.size, 1, none⟩) y1).trans p1
  have a2 := (hb2.cell (p := ⟨w.heap.size, 2, none⟩) y1).trans p2
  have y2 : w.heap.size < w2.heap.size := Nat.lt_of_lt_of_le y1 hb2.size
  have HB2 := hide ((unhide HB1).trans (hb2.mono (unhide HB1).size))
  have hc3 := specStoreOk m2 1 (some ⟨t2, 0, none⟩) 1 (some ⟨s2, 0, none⟩) 0 zS (fun _ => 0) w2 hrow.fo hrow.ta.at hrow.si.at zSmall (fun i hi => absurd (show i < 0 from hi) (Nat.not_lt_zero _)) zSpecD
  rw [zOk1] at hc3
  have HC3 : Hid (Calls Tryz.prog 5 #[.agg #[.slice (some ⟨m2, 0, none⟩) 1 1, .slice (some ⟨t2, 0, none⟩) 1 1, .slice (some ⟨s2, 0, none⟩) 0 0]] w2 fun e w' => e = .returned (.int .i64 0) ∧ Below w2.heap.size w2 w') := hide hc3
  clear hb2 hrow p0 p1 p2 hc3 HC2
  go_wp2_with fail
  refine (unhide HC3).mono ?_
  rintro e w3 ⟨rfl, hb3⟩
  have p0 := (hb3.cell (p := ⟨w.heap.size, 0, none⟩) y2).trans a0
  have p1 := (hb3.cell (p := ⟨w.heap.size, 1, none⟩) y2).trans a1
  have p2 := (hb3.cell (p := ⟨w.heap.size, 2, none⟩) y2).trans a2
  have y3 : w.heap.size < w3.heap.size := Nat.lt_of_lt_of_le y2 hb3.size
  have HB3 := hide ((unhide HB2).trans (hb3.mono (unhide HB2).size))
  have hc4 := toStore_row fa fc ta tc sa sc zS w3 ((unhide HA).below (unhide HB3)) zSmall
  have HC4 : Hid (Calls Tryz.prog 6 #[.agg #[.slice fa 1 fc, .slice ta 1 tc, .slice sa 0 sc]] w3 fun e w' => (∃ m tb sb, e = .returned (.agg #[.slice (some ⟨m, 0, none⟩) 1 1, .slice (some ⟨tb, 0, none⟩) 1 1, .slice (some ⟨sb, 0, none⟩) 0 0]) ∧ StMade w3.heap.size w'.heap.size w' m tb sb zS) ∧ Below w3.heap.size w3 w') := hide hc4
  clear hb3 a0 a1 a2 hc4 HC3
  go_wp2_with fail
  refine (unhide HC4).mono ?_
  rintro e w4 ⟨⟨m4, t4, s4, rfl, htr⟩, hb4⟩
  have HB4 := hide ((unhide HB3).trans (hb4.mono (unhide HB3).size))
  have HBs : Hid (∀ o, Below w.heap.size w (w4.alloc o)) := hide (fun o => (unhide HB4).alloc (unhide HB4).size _)
  have HC5 : Hid (∀ o, Calls Tryz.prog 7 #[.agg #[.slice (some ⟨m4, 0, none⟩) 1 1, .slice (some ⟨t4, 0, none⟩) 1 1, .slice (some ⟨s4, 0, none⟩) 0 0]] (w4.alloc o) fun e w' => e = .returned (.int .i64 3) ∧ Below (w4.alloc o).heap.size (w4.alloc o) w') := hide (fun o => by
    have hbo : Below w4.heap.size w4 (w4.alloc o) := (Below.refl _ _).alloc (Nat.le_refl _) _
    have h := implStoreOk Tz lastsZ m4 1 (some ⟨t4, 0, none⟩) 1 (some ⟨s4, 0, none⟩) 0 zS (fun _ => 5) (w4.alloc o) (lastsZ _ _ (unhide HT) (unhide HBs o)) (htr.below hbo).fo (htr.below hbo).ta.at (htr.below hbo).si.at zSmall (fun i hi => absurd (show i < 0 from hi) (Nat.not_lt_zero _)) zImplD
    rw [zOk2] at h
    exact h)
  clear hb4 htr p0 p1 p2 HC4
  go_wp2_with fail
  refine (unhide HC5 _).mono ?_
  rintro e w5 ⟨rfl, hb5⟩
  have HB5 := hide ((unhide HBs _).trans (hb5.mono (unhide HBs _).size))
  clear hb5
  go_wp2
  go_ret
  exact ⟨rfl, unhide HB5⟩
end Go.Proofs.YtfceeijdmilieaaGreat
