/-
  Dicts: how often an entry is named; the next int.
-/
import Derived.Test.YtglcaejddckleaaDoorDiE
namespace Go.Proofs.YtglcaejddckleaaDoor
open Go.RowKit
set_option linter.unusedVariables false
attribute [local go_sem] run_store_float run_equalIn_float

theorem idx0 (a b : Option Addr) (n m c c' : Nat) (w : World) : (Instr.index 90 (.agg #[.slice a n c, .slice b m c']) (.int .i64 0)).run Tryd.prog w = .ok (.slice a n c) w := by kernel_rfl
theorem idx1 (a b : Option Addr) (n m c c' : Nat) (w : World) : (Instr.index 90 (.agg #[.slice a n c, .slice b m c']) (.int .i64 1)).run Tryd.prog w = .ok (.slice b m c') w := by kernel_rfl

set_option maxRecDepth 100000 in
set_option maxHeartbeats 2000000 in
theorem timesNamed_any (la : Option Addr) (lc : Nat) (ia : Option Addr) (ic : Nat) (xa : Option Addr) (xc : Nat) (d : Dc) (w : World) (hD : DAt w la ia xa d) (hS : Small d) (h3 : D3 d) (h4 : D4 d) :
    Calls Tryd.prog 34 #[Dv la lc ia ic xa xc d] w fun e w' => (∃ s, e = .returned (.slice (some ⟨s, 0, none⟩) d.n d.n) ∧ Counts w' s d.n (fun j => cnt d.I j d.m + cnt d.X j d.x)) ∧ Below w.heap.size w w' := by
  have hn := hS.n
  have hm := hS.m
  have hx := hS.x
  have hmk := make_ints d.n hn
  have hi0 := idx0 ia xa d.m d.x ic xc
  have hi1 := idx1 ia xa d.m d.x ic xc
  have HD := hide hD
  have H3 := hide h3
  have H4 := hide h4
  clear hD hS h3 h4
  go_enter Tryd.func34, Tryd.ntmps34
  go_wp2
  obtain ⟨u, hu⟩ : ∃ u, u = ((w.alloc (.cells #[.slice la d.n lc, .slice ia d.m ic, .slice xa d.x xc, .int .i64 d.used, .int .i64 d.live, .int .i64 d.turns] 47)).alloc (.cells (madeCells #[.int .i64 0] d.n) 3)) := ⟨_, rfl⟩
  rw [← hu]
  have HBu : Hid (Below w.heap.size w u) := hide (by rw [hu]; exact ((Below.refl _ _).alloc (Nat.le_refl _) _).alloc (by simp) _)
  have HC0 : Hid (Counts u (w.heap.size + 1) d.n (fun j => 0)) := hide (by
    rw [hu]
    have := made_zeros (w.alloc (.cells #[.slice la d.n lc, .slice ia d.m ic, .slice xa d.x xc, .int .i64 d.used, .int .i64 d.live, .int .i64 d.turns] 47)) d.n
    exact ⟨_, by simpa [Value.cells] using this, fun j hj => rfl⟩)
  clear hu hmk
  go_loopw [20] (fun i wr => (i = .int .i64 0 ∧ Counts wr (w.heap.size + 1) d.n (fun j => 0) ∧ Below w.heap.size w wr) ∨ (i = .int .i64 1 ∧ Counts wr (w.heap.size + 1) d.n (fun j => cnt d.I j d.m) ∧ Below w.heap.size w wr) ∨ (i = .int .i64 2 ∧ Counts wr (w.heap.size + 1) d.n (fun j => cnt d.I j d.m + cnt d.X j d.x) ∧ Below w.heap.size w wr)) (fun i _ => 2 - (intOf i).toNat)
  case atStart => exact .inl ⟨rfl, unhide HC0, unhide HBu⟩
  case round =>
    clear HC0 HBu
    rcases hrel with ⟨rfl, hct, hb⟩ | ⟨rfl, hct, hb⟩ | ⟨rfl, hct, hb⟩
    · have HC := hide hct
      have HB := hide hb
      clear hct hb
      go_wp2
      go_loopw [25] (fun i wr => ∃ k : Nat, k ≤ d.m ∧ i = .int .i64 k ∧ Counts wr (w.heap.size + 1) d.n (fun j => cnt d.I j k) ∧ Below w.heap.size w wr) (fun i _ => d.m - (intOf i).toNat)
      case atStart => exact ⟨0, by omega, rfl, unhide HC, unhide HB⟩
      case round =>
        clear HC HB
        obtain ⟨k, hk, rfl, hct, hb⟩ := hrel
        by_cases hkn : k < d.m
        · obtain ⟨b, off, rfl, hbl, hcs⟩ := (unhide HD).ints.resolve_left (by omega)
          have e0 := (hb.cell (p := ⟨b, off + k, none⟩) hbl).trans (hcs k hkn)
          have hsl := hct.lt
          have HB := hide hb
          rcases (unhide H3).1 k hkn with hz | hz
          · have HC : Hid (Counts wr (w.heap.size + 1) d.n (fun j => cnt d.I j (k + 1))) := hide (hct.congr (fun j hj => by show (if _ then _ else _) = _; rw [if_neg (by omega)]))
            rw [hz] at e0
            clear hcs hb hct hz
            go_wp2
            go_roundw
            case rel => exact ⟨k + 1, by omega, by go_num, unhide HC, unhide HB⟩
            case measure => simp [intOf]; omega
          · obtain ⟨q, hq⟩ : ∃ q : Nat, d.I k = (q : Int) + 1 := ⟨(d.I k - 1).toNat, by omega⟩
            have hqn : q < d.n := by omega
            have r0 := hct.cell hqn
            have r1 := hct.frozen q
            have hcl := cnt_le d.I q k
            have HC : Hid (Counts (wr.setCell ⟨w.heap.size + 1, q, none⟩ (.int .i64 ((cnt d.I q k : Int) + 1))) (w.heap.size + 1) d.n (fun j => cnt d.I j (k + 1))) := hide (hct.bump.congr (fun j hj => by
              show (if d.I k = (j : Int) + 1 then _ else _) = (if j = q then _ else _)
              by_cases e : j = q
              · subst e; rw [if_pos hq, if_pos rfl]
              · rw [if_neg (by omega), if_neg e]))
            rw [hq] at e0
            clear hcs hb hct hz hq
            go_wp2
            go_roundw
            case rel => exact ⟨k + 1, by omega, by go_num, unhide HC, (unhide HB).setCell (by show w.heap.size ≤ w.heap.size + 1; omega) _⟩
            case measure => simp [intOf]; omega
        have hkn' : k = d.m := by omega
        subst hkn'
        have HC := hide hct
        have HB := hide hb
        clear hct hb hk hkn
        go_wp2
        go_roundw
        case rel => exact .inr (.inl ⟨rfl, unhide HC, unhide HB⟩)
        case measure => simp [intOf]
    · have HC := hide hct
      have HB := hide hb
      clear hct hb
      go_wp2
      go_loopw [25] (fun i wr => ∃ k : Nat, k ≤ d.x ∧ i = .int .i64 k ∧ Counts wr (w.heap.size + 1) d.n (fun j => cnt d.I j d.m + cnt d.X j k) ∧ Below w.heap.size w wr) (fun i _ => d.x - (intOf i).toNat)
      case atStart => exact ⟨0, by omega, rfl, unhide HC, unhide HB⟩
      case round =>
        clear HC HB
        obtain ⟨k, hk, rfl, hct, hb⟩ := hrel
        by_cases hkn : k < d.x
        · obtain ⟨b, off, rfl, hbl, hcs⟩ := (unhide HD).index.resolve_left (by omega)
          have e0 := (hb.cell (p := ⟨b, off + k, none⟩) hbl).trans (hcs k hkn)
          have hsl := hct.lt
          have HB := hide hb
          by_cases hz : 0 < d.X k
          case neg =>
            have HC : Hid (Counts wr (w.heap.size + 1) d.n (fun j => cnt d.I j d.m + cnt d.X j (k + 1))) := hide (hct.congr (fun j hj => by show _ + (if _ then _ else _) = _; rw [if_neg (by omega)]))
            have hz' : decide (0 < d.X k) = false := by simp; omega
            clear hcs hb hct
            go_wp2
            go_roundw
            case rel => exact ⟨k + 1, by omega, by go_num, unhide HC, unhide HB⟩
            case measure => simp [intOf]; omega
          · obtain ⟨q, hq⟩ : ∃ q : Nat, d.X k = (q : Int) + 1 := ⟨(d.X k - 1).toNat, by omega⟩
            have hqn : q < d.n := by rcases (unhide H4).2.1 k hkn with hh | hh | hh <;> omega
            have r0 := hct.cell hqn
            have r1 := hct.frozen q
            have hcl := cnt_le d.I q d.m
            have hcl2 := cnt_le d.X q k
            have HC : Hid (Counts (wr.setCell ⟨w.heap.size + 1, q, none⟩ (.int .i64 (((cnt d.I q d.m + cnt d.X q k : Nat) : Int) + 1))) (w.heap.size + 1) d.n (fun j => cnt d.I j d.m + cnt d.X j (k + 1))) := hide (hct.bump.congr (fun j hj => by
              show _ + (if d.X k = (j : Int) + 1 then _ else _) = (if j = q then _ else _)
              by_cases e : j = q
              · subst e; rw [if_pos hq, if_pos rfl]; omega
              · rw [if_neg (by omega), if_neg e]))
            generalize hcc : cnt d.I q d.m + cnt d.X q k = cc at r0 HC
            have hcb : cc ≤ 8388608 := by omega
            rw [hq] at e0
            clear hcs hb hct hz hq hcc hcl hcl2
            go_wp2
            go_roundw
            case rel => exact ⟨k + 1, by omega, by go_num, unhide HC, (unhide HB).setCell (by show w.heap.size ≤ w.heap.size + 1; omega) _⟩
            case measure => simp [intOf]; omega
        have hkn' : k = d.x := by omega
        subst hkn'
        have HC := hide hct
        have HB := hide hb
        clear hct hb hk hkn
        go_wp2
        go_roundw
        case rel => exact .inr (.inr ⟨rfl, unhide HC, unhide HB⟩)
        case measure => simp [intOf]
    · have HC := hide hct
      have HB := hide hb
      clear hct hb
      go_wp2
      go_ret
      exact ⟨⟨_, rfl, unhide HC⟩, unhide HB⟩

set_option maxHeartbeats 1000000 in
theorem nextInt_any (bk R0 R1 R2 : Nat) (E S : Nat → Nat) (d : Dc) (w : World) (hB : Book w bk R0 R1 R2 E S d) (hS : Small d) :
    Calls Tryd.prog 35 #[.pointer (some ⟨bk, 0, none⟩)] w fun e w' => e = .returned (V 2 ((d.m : Int) + 1) 0 ⟨#[]⟩ 0) ∧ Below w.heap.size w w' := by
  have hm := hS.m
  obtain ⟨k1, c1⟩ := hB.c1
  have hlt := hB.lt
  clear hB hS
  go_enter Tryd.func35, Tryd.ntmps35
  go_wp2_with (go_at_call 25; refine (intValue_any ((d.m : Int) + 1) _).mono ?_; rintro e w1 ⟨rfl, hb1⟩; obtain ⟨hc1, hf1⟩ := bcell hb1; have hz1 := hb1.size; simp at hz1)
  refine bodyPost_ret (v := V 2 ((d.m : Int) + 1) 0 ⟨#[]⟩ 0) (by simp [results, Tryd.results35, go_sem, hc1]) rfl ⟨rfl, ?_⟩
  have hb2 : Below w.heap.size w w1 := ((Below.refl _ _).alloc (Nat.le_refl _) _).trans (hb1.mono (by simp))
  exact (((((hb2.setCell (p := ⟨w.heap.size, 0, none⟩) (Nat.le_refl _) _).setCell (p := ⟨w.heap.size, 1, none⟩) (Nat.le_refl _) _).setCell (p := ⟨w.heap.size, 2, none⟩) (Nat.le_refl _) _).setCell (p := ⟨w.heap.size, 3, none⟩) (Nat.le_refl _) _).setCell (p := ⟨w.heap.size, 4, none⟩) (Nat.le_refl _) _)
end Go.Proofs.YtglcaejddckleaaDoor
