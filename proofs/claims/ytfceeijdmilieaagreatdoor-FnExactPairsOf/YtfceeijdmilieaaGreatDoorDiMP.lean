/-
  DiM.
-/
import Derived.Test.YtfceeijdmilieaaGreatDoorDiLP
namespace Go.Proofs.YtfceeijdmilieaaGreatDoor
open Go.RowKit Go.Shelf
set_option linter.unusedVariables false
attribute [local go_sem] run_store_float run_equalIn_float run_store_func

theorem ix0 (x : Value) (w : World) : (Instr.index 293 (.agg #[.func (.func 211) #[x] #[], .func (.func 212) #[x] #[], .func (.func 213) #[x] #[], .func (.func 214) #[x] #[], .func (.func 215) #[x] #[]]) (.int .i64 0)).run Tryz.prog w = .ok (.func (.func 211) #[x] #[]) w := by kernel_rfl
theorem ix1 (x : Value) (w : World) : (Instr.index 293 (.agg #[.func (.func 211) #[x] #[], .func (.func 212) #[x] #[], .func (.func 213) #[x] #[], .func (.func 214) #[x] #[], .func (.func 215) #[x] #[]]) (.int .i64 1)).run Tryz.prog w = .ok (.func (.func 212) #[x] #[]) w := by kernel_rfl
theorem ix2 (x : Value) (w : World) : (Instr.index 293 (.agg #[.func (.func 211) #[x] #[], .func (.func 212) #[x] #[], .func (.func 213) #[x] #[], .func (.func 214) #[x] #[], .func (.func 215) #[x] #[]]) (.int .i64 2)).run Tryz.prog w = .ok (.func (.func 213) #[x] #[]) w := by kernel_rfl
theorem ix3 (x : Value) (w : World) : (Instr.index 293 (.agg #[.func (.func 211) #[x] #[], .func (.func 212) #[x] #[], .func (.func 213) #[x] #[], .func (.func 214) #[x] #[], .func (.func 215) #[x] #[]]) (.int .i64 3)).run Tryz.prog w = .ok (.func (.func 214) #[x] #[]) w := by kernel_rfl
theorem ix4 (x : Value) (w : World) : (Instr.index 293 (.agg #[.func (.func 211) #[x] #[], .func (.func 212) #[x] #[], .func (.func 213) #[x] #[], .func (.func 214) #[x] #[], .func (.func 215) #[x] #[]]) (.int .i64 4)).run Tryz.prog w = .ok (.func (.func 215) #[x] #[]) w := by kernel_rfl

set_option maxRecDepth 100000 in
set_option maxHeartbeats 4000000 in
theorem implDictOk (T : World → Prop) (hTl : Lasts T) (la : Option Addr) (lc : Nat) (ia : Option Addr) (ic : Nat) (xa : Option Addr) (xc : Nat) (d : Dc) (H : Nat → Nat) (w : World) (hT : T w) (hD : DAt w la ia xa d) (hS : Small d) (hH : ∀ i, i < d.n → keyB (d.L i).key = true → HsI T (d.L i).key (H i)) :
    Calls Tryz.prog 177 #[Dv la lc ia ic xa xc d] w fun e w' => e = .returned (.int .i64 (dictOk d H)) ∧ Below w.heap.size w w' := by
  have HTl := hide hTl
  have HT := hide hT
  have HD := hide hD
  have HS := hide hS
  have HH := hide hH
  clear hTl hT hD hS hH
  go_enter Tryz.func177, Tryz.ntmps177
  go_wp2_with fail
  obtain ⟨u, hu⟩ : ∃ u, u = (((w.alloc (.cells #[.slice la d.n lc, .slice ia d.m ic, .slice xa d.x xc, .int .i64 d.used, .int .i64 d.live, .int .i64 d.turns] 91)).alloc (.cells #[.slice la d.n lc, .slice ia d.m ic, .slice xa d.x xc, .int .i64 d.used, .int .i64 d.live, .int .i64 d.turns] 292)).alloc (.cells #[.func (.func 211) #[Dv la lc ia ic xa xc d] #[], .func (.func 212) #[Dv la lc ia ic xa xc d] #[], .func (.func 213) #[Dv la lc ia ic xa xc d] #[], .func (.func 214) #[Dv la lc ia ic xa xc d] #[], .func (.func 215) #[Dv la lc ia ic xa xc d] #[]] 293)) := ⟨_, rfl⟩
  rw [← hu]
  have HBu : Hid (Below w.heap.size w u) := hide (by rw [hu]; exact (((Below.refl _ _).alloc (Nat.le_refl _) _).alloc (by simp) _).alloc (by simp; omega) _)
  clear hu
  have i0 := ix0 (Dv la lc ia ic xa xc d)
  have i1 := ix1 (Dv la lc ia ic xa xc d)
  have i2 := ix2 (Dv la lc ia ic xa xc d)
  have i3 := ix3 (Dv la lc ia ic xa xc d)
  have i4 := ix4 (Dv la lc ia ic xa xc d)
  go_loopw [21] (fun i wr => (i = .int .i64 0 ∧ Below w.heap.size w wr) ∨ (i = .int .i64 1 ∧ D1 d ∧ Below w.heap.size w wr) ∨ (i = .int .i64 2 ∧ D1 d ∧ D2 d ∧ Below w.heap.size w wr) ∨ (i = .int .i64 3 ∧ D1 d ∧ D2 d ∧ D3 d ∧ Below w.heap.size w wr) ∨ (i = .int .i64 4 ∧ D1 d ∧ D2 d ∧ D3 d ∧ D4 d ∧ Below w.heap.size w wr) ∨ (i = .int .i64 5 ∧ D1 d ∧ D2 d ∧ D3 d ∧ D4 d ∧ D5 d H ∧ Below w.heap.size w wr)) (fun i _ => 5 - (intOf i).toNat)
  case atStart => exact .inl ⟨rfl, unhide HBu⟩
  case round =>
    clear HBu
    rcases hrel with ⟨rfl, hb⟩ | ⟨rfl, h1, hb⟩ | ⟨rfl, h1, h2, hb⟩ | ⟨rfl, h1, h2, h3, hb⟩ | ⟨rfl, h1, h2, h3, h4, hb⟩ | ⟨rfl, h1, h2, h3, h4, h5, hb⟩
    · have HB := hide hb
      have hcall := countsFit_any la lc ia ic xa xc d wr (unhide HS)
      have HC := hide hcall
      clear hb hcall
      go_wp2_with fail
      refine (unhide HC).mono ?_
      rintro e w2 ⟨rfl, hb2⟩
      have HB2 := hide ((unhide HB).trans (hb2.mono (unhide HB).size))
      clear hb2 HC
      by_cases hh : D1 d
      · rw [tells_yes hh]
        have HH2 := hide hh
        clear hh
        go_wp2_with fail
        go_roundw
        case rel => exact .inr (.inl ⟨rfl, unhide HH2, unhide HB2⟩)
        case measure => simp [intOf]
      · rw [tells_no hh]
        have HT2 := hide (dictOk1 (H := H) hh)
        clear hh
        go_wp2_with fail
        go_ret
        exact ⟨by rw [unhide HT2]; rfl, unhide HB2⟩
    · have HB := hide hb
      have hcall := logHolds_any la lc ia ic xa xc d wr ((unhide HD).below hb) (unhide HS)
      have HC := hide hcall
      have Hh1 := hide h1
      clear hb hcall h1
      go_wp2_with fail
      refine (unhide HC).mono ?_
      rintro e w2 ⟨rfl, hb2⟩
      have HB2 := hide ((unhide HB).trans (hb2.mono (unhide HB).size))
      clear hb2 HC
      by_cases hh : D2 d
      · rw [tells_yes hh]
        have HH2 := hide hh
        clear hh
        go_wp2_with fail
        go_roundw
        case rel => exact .inr (.inr (.inl ⟨rfl, unhide Hh1, unhide HH2, unhide HB2⟩))
        case measure => simp [intOf]
      · rw [tells_no hh]
        have HT2 := hide (dictOk2 (H := H) (unhide Hh1) hh)
        clear hh
        go_wp2_with fail
        go_ret
        exact ⟨by rw [unhide HT2]; rfl, unhide HB2⟩
    · have HB := hide hb
      have hcall := intsHold_any la lc ia ic xa xc d wr ((unhide HD).below hb) (unhide HS) h2
      have HC := hide hcall
      have Hh1 := hide h1
      have Hh2 := hide h2
      clear hb hcall h1 h2
      go_wp2_with fail
      refine (unhide HC).mono ?_
      rintro e w2 ⟨rfl, hb2⟩
      have HB2 := hide ((unhide HB).trans (hb2.mono (unhide HB).size))
      clear hb2 HC
      by_cases hh : D3 d
      · rw [tells_yes hh]
        have HH2 := hide hh
        clear hh
        go_wp2_with fail
        go_roundw
        case rel => exact .inr (.inr (.inr (.inl ⟨rfl, unhide Hh1, unhide Hh2, unhide HH2, unhide HB2⟩)))
        case measure => simp [intOf]
      · rw [tells_no hh]
        have HT2 := hide (dictOk3 (H := H) (unhide Hh1) (unhide Hh2) hh)
        clear hh
        go_wp2_with fail
        go_ret
        exact ⟨by rw [unhide HT2]; rfl, unhide HB2⟩
    · have HB := hide hb
      have hcall := indexHolds_any la lc ia ic xa xc d wr ((unhide HD).below hb) (unhide HS) h2
      have HC := hide hcall
      have Hh1 := hide h1
      have Hh2 := hide h2
      have Hh3 := hide h3
      clear hb hcall h1 h2 h3
      go_wp2_with fail
      refine (unhide HC).mono ?_
      rintro e w2 ⟨rfl, hb2⟩
      have HB2 := hide ((unhide HB).trans (hb2.mono (unhide HB).size))
      clear hb2 HC
      by_cases hh : D4 d
      · rw [tells_yes hh]
        have HH2 := hide hh
        clear hh
        go_wp2_with fail
        go_roundw
        case rel => exact .inr (.inr (.inr (.inr (.inl ⟨rfl, unhide Hh1, unhide Hh2, unhide Hh3, unhide HH2, unhide HB2⟩))))
        case measure => simp [intOf]
      · rw [tells_no hh]
        have HT2 := hide (dictOk4 (H := H) (unhide Hh1) (unhide Hh2) (unhide Hh3) hh)
        clear hh
        go_wp2_with fail
        go_ret
        exact ⟨by rw [unhide HT2]; rfl, unhide HB2⟩
    · have HB := hide hb
      have hcall := allAreFound_any T (unhide HTl) la lc ia ic xa xc d H wr (unhide HTl _ _ (unhide HT) hb) ((unhide HD).below hb) (unhide HS) h2 h3 h4 (fun i hi ht => unhide HH i hi (h2.pos hi ht).2)
      have HC := hide hcall
      have Hh1 := hide h1
      have Hh2 := hide h2
      have Hh3 := hide h3
      have Hh4 := hide h4
      clear hb hcall h1 h2 h3 h4
      go_wp2_with fail
      refine (unhide HC).mono ?_
      rintro e w2 ⟨rfl, hb2⟩
      have HB2 := hide ((unhide HB).trans (hb2.mono (unhide HB).size))
      clear hb2 HC
      by_cases hh : D5 d H
      · rw [tells_yes hh]
        have HH2 := hide hh
        clear hh
        go_wp2_with fail
        go_roundw
        case rel => exact .inr (.inr (.inr (.inr (.inr (⟨rfl, unhide Hh1, unhide Hh2, unhide Hh3, unhide Hh4, unhide HH2, unhide HB2⟩)))))
        case measure => simp [intOf]
      · rw [tells_no hh]
        have HT2 := hide (dictOk5 (H := H) (unhide Hh1) (unhide Hh2) (unhide Hh3) (unhide Hh4) hh)
        clear hh
        go_wp2_with fail
        go_ret
        exact ⟨by rw [unhide HT2]; rfl, unhide HB2⟩
    · have HB := hide hb
      have HT2 := hide (dictOk0 (H := H) h1 h2 h3 h4 h5)
      clear hb h1 h2 h3 h4 h5
      go_wp2_with fail
      go_ret
      exact ⟨by rw [unhide HT2]; rfl, unhide HB⟩
end Go.Proofs.YtfceeijdmilieaaGreatDoor
