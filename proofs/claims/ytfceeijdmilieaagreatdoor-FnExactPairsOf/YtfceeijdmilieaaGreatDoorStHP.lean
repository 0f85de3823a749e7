/-
  StH.
-/
import Derived.Test.YtfceeijdmilieaaGreatDoorStGP
namespace Go.Proofs.YtfceeijdmilieaaGreatDoor
open Go.RowKit
set_option linter.unusedVariables false
attribute [local go_sem] run_store_float run_equalIn_float

set_option maxRecDepth 100000 in
set_option maxHeartbeats 8000000 in
theorem specStoreOk (m fc : Nat) (ta : Option Addr) (tc : Nat) (sa : Option Addr) (sc : Nat) (s : Sto) (D : Nat → Int) (w : World) (hF : ShRow w m s.nf s.F) (hT : TAt w ta s.nt s.T) (hS : SiAt w sa s.ns s.S) (hs : SSmall s) (hk : ∀ i, i < s.ns → (s.S i).key.size ≤ maxLen)
    (hD : ∀ i, i < s.nt → ∀ la lc ia ic xa xc, SpecD la lc ia ic xa xc (s.T i).d (D i)) :
    Calls Tryz.prog 8 #[StV (some ⟨m, 0, none⟩) fc ta tc sa sc s] w fun e w' => e = .returned (.int .i64 (storeOk s D)) ∧ Below w.heap.size w w' := by
  have hml := hF.lt
  have hnt := hs.nt
  have hns := hs.n
  have hnf := hs.f.1
  have HSM := hide hs
  have HK := hide hk
  have HD := hide hD
  obtain ⟨W, hW⟩ : ∃ W, W = w.alloc (.cells #[.slice (some ⟨m, 0, none⟩) s.nf fc, .slice ta s.nt tc, .slice sa s.ns sc] 29) := ⟨_, rfl⟩
  have hbW : Below w.heap.size w W := by rw [hW]; exact (Below.refl _ _).alloc (Nat.le_refl _) _
  have hzW : w.heap.size < W.heap.size := by rw [hW]; simp
  have x0 : W.cell? ⟨w.heap.size, 0, none⟩ = some (.slice (some ⟨m, 0, none⟩) s.nf fc) := by rw [hW]; simp [go_sem]
  have x1 : W.cell? ⟨w.heap.size, 1, none⟩ = some (.slice ta s.nt tc) := by rw [hW]; simp [go_sem]
  have x2 : W.cell? ⟨w.heap.size, 2, none⟩ = some (.slice sa s.ns sc) := by rw [hW]; simp [go_sem]
  have lm : m < W.heap.size := by omega
  have HF := hide (hF.below hbW hml)
  have HT := hide (hT.below hbW rfl)
  have HS := hide (hS.below hbW rfl)
  have HBW := hide hbW
  clear hs hk hD hbW hF hT hS
  go_enter Tryz.func8, Tryz.ntmps8
  go_wp2_with fail
  rw [← hW]
  clear hW
  refine (specForestOk m s.nf fc s.F _ (unhide HF) hnf).mono ?_
  rintro e w1 ⟨rfl, hb1⟩
  by_cases h1 : forestOk s.nf s.F = 0
  case neg =>
    have hne : (forestOk s.nf s.F != 0) = true := by simpa using h1
    have HO := hide (storeOk1 (D := D) h1)
    have HB1 := hide ((unhide HBW).trans (hb1.mono (unhide HBW).size))
    clear h1 hb1
    go_wp2
    go_ret
    exact ⟨by rw [unhide HO] <;> rfl, unhide HB1⟩
  rw [h1]
  have H1 := hide h1
  have y0 := (hb1.cell (p := ⟨w.heap.size, 0, none⟩) hzW).trans x0
  have y1 := (hb1.cell (p := ⟨w.heap.size, 1, none⟩) hzW).trans x1
  have y2 := (hb1.cell (p := ⟨w.heap.size, 2, none⟩) hzW).trans x2
  have hz1 : w.heap.size < w1.heap.size := Nat.lt_of_lt_of_le hzW hb1.size
  have lm1 : m < w1.heap.size := Nat.lt_of_lt_of_le lm hb1.size
  have HF1 := hide ((unhide HF).below hb1 lm)
  have HT1 := hide ((unhide HT).below hb1 rfl)
  have HS1 := hide ((unhide HS).below hb1 rfl)
  have HB1 := hide ((unhide HBW).trans (hb1.mono (unhide HBW).size))
  clear h1 hb1 x0 x1 x2 HF HT HS
  by_cases h2 : 100 < s.nt
  · have HO := hide (storeOk2 (D := D) (unhide H1) (fun h => by omega))
    go_wp2
    go_ret
    exact ⟨by rw [unhide HO] <;> rfl, unhide HB1⟩
  by_cases h3 : 50 < s.ns
  · have HO := hide (storeOk2 (D := D) (unhide H1) (fun h => by omega))
    go_wp2
    go_ret
    exact ⟨by rw [unhide HO] <;> rfl, unhide HB1⟩
  have H2 : Hid (s.nt ≤ 100 ∧ s.ns ≤ 50) := hide ⟨by omega, by omega⟩
  go_wp2
  go_loopw [24] (fun i wr => ∃ (k : Nat), k ≤ s.nt ∧ i = .int .i64 k ∧ Below w1.heap.size w1 wr ∧ ∀ q, q < k → okT s (D q) (s.T q)) (fun i _ => s.nt - (intOf i).toNat)
  case atStart => exact ⟨0, by omega, rfl, Below.refl _ _, fun q hq => by omega⟩
  case round =>
    obtain ⟨k, hk, rfl, hb, hall⟩ := hrel
    have p0 := (hb.cell (p := ⟨w.heap.size, 0, none⟩) hz1).trans y0
    have p1 := (hb.cell (p := ⟨w.heap.size, 1, none⟩) hz1).trans y1
    have p2 := (hb.cell (p := ⟨w.heap.size, 2, none⟩) hz1).trans y2
    have hbz := hb.size
    by_cases hkn : k < s.nt
    case pos =>
      obtain ⟨b, off, rfl, hbl, hcs⟩ := (unhide HT1).resolve_left (by omega)
      obtain ⟨va, vc, la, lc, ia, ic, xa, xc, hc, hv, hd⟩ := (hcs k hkn).below hb hbl
      obtain ⟨e0, e1, e2, e3, e4, e5, e6, e7⟩ := hc
      have HB3 : Hid (∀ o, Below w.heap.size w (wr.alloc o)) := hide (fun o => ((unhide HB1).trans (hb.mono (unhide HB1).size)).alloc (by omega) _)
      have HB4 : Hid (∀ o, Below w1.heap.size w1 (wr.alloc o)) := hide (fun o => hb.alloc (by omega) _)
      have HVD : Hid (∀ o, VAt (wr.alloc o) va (s.T k).nv (s.T k).V ∧ DAt (wr.alloc o) la ia xa (s.T k).d ∧ ShRow (wr.alloc o) m s.nf s.F) := hide (fun o => ⟨hv.below ((Below.refl _ _).alloc (Nat.le_refl _) _) rfl, hd.below ((Below.refl _ _).alloc (Nat.le_refl _) _), ((unhide HF1).below hb lm1).alloc o⟩)
      have hwl : w.heap.size < wr.heap.size := by omega
      have HALL := hide hall
      clear hcs hb hall hv hd
      go_wp2_with fail
      refine (l3table_any m fc _ tc sa sc s va vc la lc ia ic xa xc (s.T k) (D k) _ (unhide HVD _).2.2 hnf (unhide HVD _).1 ((unhide HSM).nv hkn) (unhide HVD _).2.1 (unhide HD k hkn la lc ia ic xa xc)).mono ?_
      rintro e w3 ⟨rfl, hb3⟩
      have HB5 := hide ((unhide HB3 _).trans (hb3.mono (unhide HB3 _).size))
      have HB6 := hide ((unhide HB4 _).trans (hb3.mono (unhide HB4 _).size))
      clear hb3 e0 e1 e2 e3 e4 e5 e6 e7 p0 p1 p2
      by_cases hO : okT s (D k) (s.T k)
      · rw [tells_yes hO]
        have HOK := hide hO
        clear hO
        go_wp2
        go_roundw
        case rel =>
          refine ⟨k + 1, by omega, by go_num, unhide HB6, fun q hq => ?_⟩
          by_cases e : q = k
          · subst e; exact unhide HOK
          · exact unhide HALL q (by omega)
        case measure => simp [intOf]; omega
      · rw [tells_no hO]
        have HO := hide (storeOk3 (D := D) (unhide H1) (unhide H2) (fun h => hO (h k hkn)))
        clear hO
        go_wp2
        go_ret
        exact ⟨by rw [unhide HO] <;> rfl, unhide HB5⟩
    have H3 : Hid (∀ q, q < s.nt → okT s (D q) (s.T q)) := hide (fun q hq => hall q (by omega))
    have hz2 : w.heap.size < wr.heap.size := by omega
    have lm2 : m < wr.heap.size := by omega
    have HF2 := hide ((unhide HF1).below hb lm1)
    have HS2 := hide ((unhide HS1).below hb rfl)
    have HB2 := hide ((unhide HB1).trans (hb.mono (unhide HB1).size))
    have hke : k = s.nt := by omega
    clear hb hall hkn y0 y1 y2
    subst hke
    obtain ⟨w2, rfl⟩ : ∃ u, u = wr := ⟨wr, rfl⟩
    go_wp2
    go_loopw [36] (fun i wr => ∃ (k : Nat), k ≤ s.ns ∧ i = .int .i64 k ∧ Below w2.heap.size w2 wr ∧ ∀ q, q < k → okS s (s.S q)) (fun i _ => s.ns - (intOf i).toNat)
    case atStart => exact ⟨0, by omega, rfl, Below.refl _ _, fun q hq => by omega⟩
    case round =>
      obtain ⟨k, hk, rfl, hb, hall⟩ := hrel
      have q0 := (hb.cell (p := ⟨w.heap.size, 0, none⟩) hz2).trans p0
      have q1 := (hb.cell (p := ⟨w.heap.size, 1, none⟩) hz2).trans p1
      have q2 := (hb.cell (p := ⟨w.heap.size, 2, none⟩) hz2).trans p2
      have hbz' := hb.size
      by_cases hkn : k < s.ns
      case pos =>
        obtain ⟨b, off, rfl, hbl, hcs⟩ := (unhide HS2).resolve_left (by omega)
        obtain ⟨e0, e1, e2, e3, e4⟩ := (hcs k hkn).keep (fun q => hb.cell (p := ⟨b, q, none⟩) hbl)
        have HB3 : Hid (∀ o, Below w.heap.size w (wr.alloc o)) := hide (fun o => ((unhide HB2).trans (hb.mono (unhide HB2).size)).alloc (by omega) _)
        have HB4 : Hid (∀ o, Below w2.heap.size w2 (wr.alloc o)) := hide (fun o => hb.alloc (by omega) _)
        have HVD : Hid (∀ o, ShRow (wr.alloc o) m s.nf s.F) := hide (fun o => ((unhide HF2).below hb lm2).alloc o)
        have hwl : w.heap.size < wr.heap.size := by omega
        have HALL := hide hall
        clear hcs hb hall p0 p1 p2
        go_wp2_with fail
        refine (l3site_any m fc ta tc _ sc s (s.S k) _ (unhide HK k hkn) (unhide HVD _) (unhide H1)).mono ?_
        rintro e w3 ⟨rfl, hb3⟩
        have HB5 := hide ((unhide HB3 _).trans (hb3.mono (unhide HB3 _).size))
        have HB6 := hide ((unhide HB4 _).trans (hb3.mono (unhide HB4 _).size))
        clear hb3 e0 e1 e2 e3 e4 q0 q1 q2
        by_cases hO : okS s (s.S k)
        · rw [tells_yes hO]
          have HOK := hide hO
          clear hO
          go_wp2
          go_roundw
          case rel =>
            refine ⟨k + 1, by omega, by go_num, unhide HB6, fun q hq => ?_⟩
            by_cases e : q = k
            · subst e; exact unhide HOK
            · exact unhide HALL q (by omega)
          case measure => simp [intOf]; omega
        · rw [tells_no hO]
          have HO := hide (storeOk4 (D := D) (unhide H1) (unhide H2) (unhide H3) (fun h => hO (h k hkn)))
          clear hO
          go_wp2
          go_ret
          exact ⟨by rw [unhide HO] <;> rfl, unhide HB5⟩
      have HO := hide (storeOk0 (D := D) (unhide H1) (unhide H2) (unhide H3) (fun q hq => hall q (by omega)))
      have HB5 := hide ((unhide HB2).trans (hb.mono (unhide HB2).size))
      have hke : k = s.ns := by omega
      clear hb hall hkn
      subst hke
      go_wp2
      go_ret
      exact ⟨by rw [unhide HO] <;> rfl, unhide HB5⟩
end Go.Proofs.YtfceeijdmilieaaGreatDoor
