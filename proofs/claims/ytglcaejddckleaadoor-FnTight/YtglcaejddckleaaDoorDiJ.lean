/-
  Dicts: the book's find; the living entries gone through.
-/
import Derived.Test.YtglcaejddckleaaDoorDiI
namespace Go.Proofs.YtglcaejddckleaaDoor
open Go.RowKit Go.Shelf
set_option linter.unusedVariables false
attribute [local go_sem] run_store_float run_equalIn_float Oper.semAt_some

/-- The entry at a place: none below 0. -/
def placeP (E : Nat → Nat) (p : Int) : Option Addr := if 0 ≤ p then some ⟨E p.toNat, 0, none⟩ else none

theorem place_range {d : Dc} (h3 : D3 d) (h4 : D4 d) (v : Vl) (h : Nat) : -1 ≤ placeI d v h ∧ placeI d v h < d.n := by
  unfold placeI
  by_cases hs : smallK d.m v
  · rw [if_pos hs]
    have := hs.2.1
    have := hs.2.2
    rcases h3.1 (v.num - 1).toNat (by omega) with hh | hh <;> omega
  · rw [if_neg hs]
    cases e : slotOf d v h with
    | none => exact ⟨by show (-1 : Int) ≤ -1; omega, by show (-1 : Int) < _; omega⟩
    | some s =>
      obtain ⟨h1, h2⟩ := slotOf_lt e
      show -1 ≤ d.X s - 1 ∧ d.X s - 1 < d.n
      rcases h4.2.1 s h1 with hh | hh | hh <;> omega

set_option maxRecDepth 100000 in
set_option maxHeartbeats 2000000 in
theorem bfind_any (T : World → Prop) (hTl : Lasts T) (bk R0 R1 R2 : Nat) (E S : Nat → Nat) (d : Dc) (v : Vl) (h : Nat) (hh : HsI T v h) (w : World) (hT : T w) (hB : Book w bk R0 R1 R2 E S d) (hS : Small d) (h3 : D3 d) (h4 : D4 d) :
    Calls Tryd.prog 27 #[.pointer (some ⟨bk, 0, none⟩), V v.kind v.num v.flt v.str v.ref] w fun e w' => e = .returned (.pointer (placeP E (placeI d v h))) ∧ Below w.heap.size w w' := by
  have hm := hS.m
  have hx := hS.x
  have hn := hS.n
  obtain ⟨W, hW⟩ : ∃ W, W = w.alloc (.cells #[.int .i64 v.kind, .int .i64 v.num, .float .f64 v.flt, .string v.str, .int .i64 v.ref] 32) := ⟨_, rfl⟩
  have hb0 : Below w.heap.size w W := by rw [hW]; exact (Below.refl _ _).alloc (Nat.le_refl _) _
  have hBk := hB.below hb0
  obtain ⟨k1, c1⟩ := hBk.c1
  have lb := hBk.lt
  have l1 := hBk.l1
  have hzW : w.heap.size < W.heap.size := by rw [hW]; simp
  have q0 : W.cell? ⟨w.heap.size, 0, none⟩ = some (.int .i64 v.kind) := by rw [hW]; simp [go_sem]
  have q1 : W.cell? ⟨w.heap.size, 1, none⟩ = some (.int .i64 v.num) := by rw [hW]; simp [go_sem]
  have q2 : W.cell? ⟨w.heap.size, 2, none⟩ = some (.float .f64 v.flt) := by rw [hW]; simp [go_sem]
  have q3 : W.cell? ⟨w.heap.size, 3, none⟩ = some (.string v.str) := by rw [hW]; simp [go_sem]
  have q4 : W.cell? ⟨w.heap.size, 4, none⟩ = some (.int .i64 v.ref) := by rw [hW]; simp [go_sem]
  have HB0 := hide hb0
  have HBk := hide hBk
  have HT := hide (hTl _ _ hT hb0)
  have HTl := hide hTl
  have HH := hide hh
  have HS := hide hS
  have H3 := hide h3
  have H4 := hide h4
  clear hb0 hBk hT hh hS h3 h4 hB hTl
  go_enter Tryd.func27, Tryd.ntmps27
  go_wp2_with fail
  rw [← hW]
  clear hW
  by_cases hs : smallK d.m v
  · have HSM := hide (tells_yes hs)
    obtain ⟨k1, k2, k3⟩ := hs
    obtain ⟨q, hq⟩ : ∃ q : Nat, v.num = (q : Int) + 1 := ⟨(v.num - 1).toNat, by omega⟩
    have hqm : q < d.m := by omega
    have HR : Hid (placeI d v h = d.I q - 1) := hide (by unfold placeI; rw [if_pos ⟨k1, k2, k3⟩, hq]; congr 2; omega)
    have p0 := (unhide HBk).r1 q hqm
    have hI : entP E (d.I q) = placeP E (d.I q - 1) := by
      unfold entP placeP
      by_cases e : 0 < d.I q
      · rw [if_pos e, if_pos (by omega)]
      · rw [if_neg e, if_neg (by omega)]
    rw [hI] at p0
    have hwq : IntKind.i64.wrap (q : Int) = q := by rw [IntKind.wrap_i64]; omega
    have HQ := hide hq
    clear k1 k2 k3 hI hq
    refine wp_region_quiet (C := fun w' => Below W.heap.size W w') (by kernel_rfl) (by kernel_rfl) ((Below.refl _ _).drew) ?_
    show wpQuiet _ _ _ _ [_, _, _, _, _, _, _] _
    refine wpQuiet_step (fun K hK => ?_)
    go_simp
    apply Exists.intro
    refine And.intro (fun w' hw' => ?_) (hK _ ?_)
    · obtain ⟨hc', hf'⟩ := bcell hw'
      go_simp
      first | rfl | exact ⟨rfl, rfl⟩ | exact ⟨rfl⟩
    clear hK K
    refine wpQuiet_step (fun K hK => ?_)
    go_simp
    refine ⟨_, fun w' hw' => rfl, hK _ ?_⟩
    clear hK K
    refine wpQuiet_step (fun K hK => ?_)
    go_simp
    refine ⟨_, fun w' hw' => rfl, hK _ ?_⟩
    clear hK K
    refine wpQuiet_step (fun K hK => ?_)
    go_simp
    refine ⟨_, fun w' hw' => rfl, hK _ ?_⟩
    clear hK K
    refine wpQuiet_step (fun K hK => ?_)
    go_simp
    apply Exists.intro
    refine And.intro (fun w' hw' => ?_) (hK _ ?_)
    · obtain ⟨hc', hf'⟩ := bcell hw'
      go_simp
      first | rfl | exact ⟨rfl, rfl⟩ | exact ⟨rfl⟩
    clear hK K
    refine wpQuiet_step (fun K hK => ?_)
    go_simp
    refine ⟨_, fun w' hw' => rfl, hK _ ?_⟩
    clear hK K
    refine wpQuiet_step (fun K hK => ?_)
    go_simp
    apply Exists.intro
    refine And.intro (fun w' hw' => ?_) (hK _ ?_)
    · refine (((unhide HSM) ▸ hasPlace_any v d.m _ hm)).mono ?_
      rintro e w'' ⟨rfl, hb⟩
      exact ⟨rfl, hw'.trans (hb.mono hw'.size)⟩
    clear hK K
    refine wpQuiet_nil ?_
    intro w2 hw2
    have c1' := (hw2.cell (p := ⟨bk, 1, none⟩) lb).trans c1
    have p0' := (hw2.cell (p := ⟨R1, q, none⟩) l1).trans p0
    have q1' := (hw2.cell (p := ⟨w.heap.size, 1, none⟩) hzW).trans q1
    rw [unhide HQ] at q1'
    have lb' := Nat.lt_of_lt_of_le lb hw2.size
    have l1' := Nat.lt_of_lt_of_le l1 hw2.size
    have hz2 := Nat.lt_of_lt_of_le hzW hw2.size
    have HB2 := hide ((unhide HB0).trans (hw2.mono (unhide HB0).size))
    clear hw2 c1 p0 q0 q1 q2 q3 q4
    go_wp2_with fail
    go_quiet (fail)
    go_wp2
    go_ret
    exact ⟨by rw [unhide HR]; rfl, below_drewN' (unhide HB2) _⟩
  · have HSM := hide (tells_no hs)
    have HR : Hid (placeI d v h = slotP d (slotOf d v h)) := hide (by unfold placeI; rw [if_neg hs])
    clear hs
    refine wp_region_quiet (C := fun w' => Below W.heap.size W w') (by kernel_rfl) (by kernel_rfl) ((Below.refl _ _).drew) ?_
    show wpQuiet _ _ _ _ [_, _, _, _, _, _, _] _
    refine wpQuiet_step (fun K hK => ?_)
    go_simp
    apply Exists.intro
    refine And.intro (fun w' hw' => ?_) (hK _ ?_)
    · obtain ⟨hc', hf'⟩ := bcell hw'
      go_simp
      first | rfl | exact ⟨rfl, rfl⟩ | exact ⟨rfl⟩
    clear hK K
    refine wpQuiet_step (fun K hK => ?_)
    go_simp
    refine ⟨_, fun w' hw' => rfl, hK _ ?_⟩
    clear hK K
    refine wpQuiet_step (fun K hK => ?_)
    go_simp
    refine ⟨_, fun w' hw' => rfl, hK _ ?_⟩
    clear hK K
    refine wpQuiet_step (fun K hK => ?_)
    go_simp
    refine ⟨_, fun w' hw' => rfl, hK _ ?_⟩
    clear hK K
    refine wpQuiet_step (fun K hK => ?_)
    go_simp
    apply Exists.intro
    refine And.intro (fun w' hw' => ?_) (hK _ ?_)
    · obtain ⟨hc', hf'⟩ := bcell hw'
      go_simp
      first | rfl | exact ⟨rfl, rfl⟩ | exact ⟨rfl⟩
    clear hK K
    refine wpQuiet_step (fun K hK => ?_)
    go_simp
    refine ⟨_, fun w' hw' => rfl, hK _ ?_⟩
    clear hK K
    refine wpQuiet_step (fun K hK => ?_)
    go_simp
    apply Exists.intro
    refine And.intro (fun w' hw' => ?_) (hK _ ?_)
    · refine (((unhide HSM) ▸ hasPlace_any v d.m _ hm)).mono ?_
      rintro e w'' ⟨rfl, hb⟩
      exact ⟨rfl, hw'.trans (hb.mono hw'.size)⟩
    clear hK K
    refine wpQuiet_nil ?_
    intro w2 hw2
    have q0' := (hw2.cell (p := ⟨w.heap.size, 0, none⟩) hzW).trans q0
    have q1' := (hw2.cell (p := ⟨w.heap.size, 1, none⟩) hzW).trans q1
    have q2' := (hw2.cell (p := ⟨w.heap.size, 2, none⟩) hzW).trans q2
    have q3' := (hw2.cell (p := ⟨w.heap.size, 3, none⟩) hzW).trans q3
    have q4' := (hw2.cell (p := ⟨w.heap.size, 4, none⟩) hzW).trans q4
    have hz2 := Nat.lt_of_lt_of_le hzW hw2.size
    have lb' := Nat.lt_of_lt_of_le lb hw2.size
    have HB2 := hide ((unhide HB0).trans (hw2.mono (unhide HB0).size))
    have HBk2 := hide ((unhide HBk).below hw2)
    have HT2 := hide (unhide HTl _ _ (unhide HT) hw2)
    clear hw2 q0 q1 q2 q3 q4 c1
    go_wp2_with fail
    refine wp_region_quiet (C := fun w' => Below w2.heap.size w2 w') (by kernel_rfl) (by kernel_rfl) ((Below.refl _ _).drew) ?_
    show wpQuiet _ _ _ _ [_, _, _, _, _, _] _
    refine wpQuiet_step (fun K hK => ?_)
    go_simp
    refine ⟨_, fun w' hw' => rfl, hK _ ?_⟩
    clear hK K
    refine wpQuiet_step (fun K hK => ?_)
    go_simp
    refine ⟨_, fun w' hw' => rfl, hK _ ?_⟩
    clear hK K
    refine wpQuiet_step (fun K hK => ?_)
    go_simp
    refine ⟨_, fun w' hw' => rfl, hK _ ?_⟩
    clear hK K
    refine wpQuiet_step (fun K hK => ?_)
    go_simp
    apply Exists.intro
    refine And.intro (fun w' hw' => ?_) (hK _ ?_)
    · obtain ⟨hc', hf'⟩ := bcell hw'
      go_simp
      first | rfl | exact ⟨rfl, rfl⟩ | exact ⟨rfl⟩
    clear hK K
    refine wpQuiet_step (fun K hK => ?_)
    go_simp
    apply Exists.intro
    refine And.intro (fun w' hw' => ?_) (hK _ ?_)
    · refine ((find_any T (unhide HTl) bk R0 R1 R2 E S d v h (unhide HH) _ (unhide HTl _ _ (unhide HT2) hw') ((unhide HBk2).below hw') (unhide HS) (unhide H4))).mono ?_
      rintro e w'' ⟨rfl, hb⟩
      exact ⟨rfl, hw'.trans (hb.mono hw'.size)⟩
    clear hK K
    refine wpQuiet_step (fun K hK => ?_)
    go_simp
    refine ⟨_, fun w' hw' => rfl, hK _ ?_⟩
    clear hK K
    refine wpQuiet_nil ?_
    intro w3 hw3
    have HB3 := hide ((unhide HB2).trans (hw3.mono (unhide HB2).size))
    have hBk3 := (unhide HBk2).below hw3
    have c3 := hBk3.c3
    have lb3 := hBk3.lt
    have HBk3 := hide hBk3
    clear hw3 hBk3 q0' q1' q2' q3' q4' lb'
    cases hsl : slotOf d v h with
    | none =>
      have HR' : Hid (placeP E (placeI d v h) = none) := hide (by rw [unhide HR, hsl]; rfl)
      simp only [slotI]
      go_wp2
      go_ret
      exact ⟨by rw [unhide HR']; rfl, unhide HB3⟩
    | some s =>
      obtain ⟨hsx, hsp⟩ := slotOf_lt hsl
      have hsc := ((unhide HBk3).sl s hsx).1 hsp
      have p0 := (unhide HBk3).r2 s hsx
      rw [show sltP S s (d.X s) = some ⟨S s, 0, none⟩ from if_neg (by omega)] at p0
      have p1 := hsc.pt
      have ls := hsc.lt
      have HR' : Hid (placeP E (placeI d v h) = some ⟨E (d.X s - 1).toNat, 0, none⟩) := hide (by
        rw [unhide HR, hsl]
        show (if 0 ≤ d.X s - 1 then _ else _) = _
        rw [if_pos (by omega)]
        rfl)
      simp only [slotI]
      obtain ⟨q, hq⟩ : ∃ q, q = (d.X s - 1).toNat := ⟨_, rfl⟩
      rw [← hq] at p1 HR'
      clear hsl hsp hsc hq
      go_wp2
      go_ret
      exact ⟨by rw [unhide HR']; rfl, unhide HB3⟩

end Go.Proofs.YtglcaejddckleaaDoor
