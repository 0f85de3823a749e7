/-
  Dicts: DictAfter of both sides.
-/
import Derived.Test.YtglcaejddckleaaGreatDoorDkN
namespace Go.Proofs.YtglcaejddckleaaGreatDoor
open Go.RowKit Go.Shelf
set_option linter.unusedVariables false
attribute [local go_sem] run_store_float run_equalIn_float Oper.semAt_some

/-- A Found. -/
abbrev FV (b : Bool) (p : Pr) : Value := .agg #[.bool b, .int .i64 p.key.kind, .int .i64 p.key.num, .float .f64 p.key.flt, .string p.key.str, .int .i64 p.key.ref, .int .i64 p.val.kind, .int .i64 p.val.num, .float .f64 p.val.flt, .string p.val.str, .int .i64 p.val.ref, .int .i64 p.turn]
/-- The first living pair whose turn is above t. -/
def aftL (d : Dc) (t : Int) (l : List Nat) : Option Nat := l.find? (fun i => decide (t < (d.L i).turn))
theorem aftL_none {d : Dc} {t : Int} {l : List Nat} (h : ∀ i ∈ l, ¬ t < (d.L i).turn) : aftL d t l = none := by
  unfold aftL
  rw [List.find?_eq_none]
  intro i hi
  simpa using h i hi
theorem aftL_hit {d : Dc} {t : Int} {l l' : List Nat} {i : Nat} (h : ∀ j ∈ l, ¬ t < (d.L j).turn) (hp : l ++ [i] <+: l') (hi : t < (d.L i).turn) : aftL d t l' = some i := by
  obtain ⟨r, rfl⟩ := hp
  have h1 : (l ++ [i]).find? (fun i => decide (t < (d.L i).turn)) = some i := by
    rw [List.find?_append, show l.find? (fun i => decide (t < (d.L i).turn)) = none from aftL_none h]
    simp [hi]
  unfold aftL
  rw [List.find?_append, h1]
  rfl
def outP (d : Dc) : Option Nat → Bool × Pr
  | none => (false, default)
  | some i => (true, d.L i)
open Classical in
noncomputable def outA (d : Dc) (t : Int) : Bool × Pr := if dictOk d (hD d) = 0 then outP d (aftL d t (livL d d.n)) else (false, default)
theorem outA_none {d : Dc} {t : Int} (h : dictOk d (hD d) = 0) (e : aftL d t (livL d d.n) = none) : outA d t = (false, default) := by unfold outA; rw [if_pos h, e]; rfl
theorem outA_some {d : Dc} {t : Int} {i : Nat} (h : dictOk d (hD d) = 0) (e : aftL d t (livL d d.n) = some i) : outA d t = (true, d.L i) := by unfold outA; rw [if_pos h, e]; rfl
theorem outA_bad {d : Dc} {t : Int} (h : dictOk d (hD d) ≠ 0) : outA d t = (false, default) := if_neg h

set_option maxRecDepth 100000 in
set_option maxHeartbeats 2000000 in
theorem l1after_any (la : Option Addr) (lc : Nat) (d : Dc) (t : Int) (w : World) (hP : PAt w la d.n d.L) (hS : Small d) (h2 : D2 d) :
    Calls Tryz.prog 84 #[.slice la d.n lc, .int .i64 t] w fun e w' => e = .returned (FV (outP d (aftL d t (livL d d.n))).1 (outP d (aftL d t (livL d d.n))).2) ∧ Below w.heap.size w w' := by
  have hn := hS.n
  have HP := hide hP
  have H2 := hide h2
  clear hP hS h2
  go_enter Tryz.func84, Tryz.ntmps84
  go_wp2
  go_loopw [9] (fun i wr => ∃ k : Nat, k ≤ d.n ∧ i = .int .i64 k ∧ (∀ j ∈ livL d k, ¬ t < (d.L j).turn) ∧ w.heap.size < wr.heap.size ∧ (∀ o, o < 12 → wr.cell? ⟨w.heap.size, o, none⟩ = (w.alloc (.cells #[.bool false, .int .i64 0, .int .i64 0, .float .f64 0, .string ⟨#[]⟩, .int .i64 0, .int .i64 0, .int .i64 0, .float .f64 0, .string ⟨#[]⟩, .int .i64 0, .int .i64 0] 47)).cell? ⟨w.heap.size, o, none⟩) ∧ (∀ o, wr.frozen? ⟨w.heap.size, o, none⟩ = false) ∧ Below w.heap.size w wr) (fun i _ => d.n - (intOf i).toNat)
  case atStart => exact ⟨0, by omega, rfl, fun j hj => by simp [livL] at hj, by simp, fun o _ => rfl, fun o => by simp [go_sem], (Below.refl _ _).alloc (Nat.le_refl _) _⟩
  case round =>
    obtain ⟨k, hk, rfl, hno, hz, hcl, hfr, hb⟩ := hrel
    have HNO := hide hno
    have HCL := hide hcl
    have r0 := (hcl 0 (by omega)).trans (by simp [go_sem] : _ = some (.bool false))
    have r1 := (hcl 1 (by omega)).trans (by simp [go_sem] : _ = some (.int .i64 0))
    have r2 := (hcl 2 (by omega)).trans (by simp [go_sem] : _ = some (.int .i64 0))
    have r3 := (hcl 3 (by omega)).trans (by simp [go_sem] : _ = some (.float .f64 0))
    have r4 := (hcl 4 (by omega)).trans (by simp [go_sem] : _ = some (.string ⟨#[]⟩))
    have r5 := (hcl 5 (by omega)).trans (by simp [go_sem] : _ = some (.int .i64 0))
    have r6 := (hcl 6 (by omega)).trans (by simp [go_sem] : _ = some (.int .i64 0))
    have r7 := (hcl 7 (by omega)).trans (by simp [go_sem] : _ = some (.int .i64 0))
    have r8 := (hcl 8 (by omega)).trans (by simp [go_sem] : _ = some (.float .f64 0))
    have r9 := (hcl 9 (by omega)).trans (by simp [go_sem] : _ = some (.string ⟨#[]⟩))
    have r10 := (hcl 10 (by omega)).trans (by simp [go_sem] : _ = some (.int .i64 0))
    have r11 := (hcl 11 (by omega)).trans (by simp [go_sem] : _ = some (.int .i64 0))
    clear hno hcl
    by_cases hkn : k < d.n
    · obtain ⟨b, off, rfl, hbl, hcs⟩ := (unhide HP).resolve_left (by omega)
      obtain ⟨e0, e1, e2, e3, e4, e5, e6, e7, e8, e9, e10⟩ := (hcs k hkn).keep (fun q => hb.cell (p := ⟨b, q, none⟩) hbl)
      have HB := hide hb
      clear hcs hb
      by_cases hp : 0 < (d.L k).turn
      · have hne : (d.L k).turn ≠ 0 := by omega
        by_cases ht : t < (d.L k).turn
        · have HR : Hid (aftL d t (livL d d.n) = some k) := hide (aftL_hit (unhide HNO) (by rw [← livL_live hne]; exact livL_prefix (by omega)) ht)
          clear hne
          go_wp2
          refine bodyPost_ret (v := FV true (d.L k)) (by simp [results, Tryz.results84, go_sem, hz, r0, r1, r2, r3, r4, r5, r6, r7, r8, r9, r10, r11]) rfl ⟨by rw [unhide HR]; rfl, ?_⟩
          refine Below.alloc ?_ (by have := (unhide HB).size; simpa using this) _
          iterate 12 (refine Below.setCell ?_ (by exact Nat.le_refl _) _)
          exact unhide HB
        · have HN : Hid (∀ j ∈ livL d (k + 1), ¬ t < (d.L j).turn) := hide (fun j hj => by
            rw [livL_live hne] at hj
            rcases List.mem_append.1 hj with hj | hj
            · exact unhide HNO j hj
            · simp at hj; subst hj; exact ht)
          clear hne
          go_wp2
          go_roundw
          case rel => exact ⟨k + 1, by omega, by go_num, unhide HN, by simp; omega, fun o ho => (World.cell?_alloc_lt _ _ _ (by exact hz)).trans (unhide HCL o ho), fun o => (((Below.refl wr.heap.size wr).alloc (Nat.le_refl _) _).frozen (p := ⟨w.heap.size, o, none⟩) hz).trans (hfr o), (unhide HB).alloc (unhide HB).size _⟩
          case measure => simp [intOf]; omega
      · have hz0 : (d.L k).turn = 0 := by
          rcases (unhide H2).entry hkn with h | h
          · exact h.1
          · exact absurd h.1 hp
        have HN : Hid (∀ j ∈ livL d (k + 1), ¬ t < (d.L j).turn) := hide (by rw [livL_dead hz0]; exact unhide HNO)
        clear hp
        rw [hz0] at e10
        clear hz0
        go_wp2
        go_roundw
        case rel => exact ⟨k + 1, by omega, by go_num, unhide HN, by simp; omega, fun o ho => (World.cell?_alloc_lt _ _ _ (by exact hz)).trans (unhide HCL o ho), fun o => (((Below.refl wr.heap.size wr).alloc (Nat.le_refl _) _).frozen (p := ⟨w.heap.size, o, none⟩) hz).trans (hfr o), (unhide HB).alloc (unhide HB).size _⟩
        case measure => simp [intOf]; omega
    · have hkn' : k = d.n := by omega
      subst hkn'
      have HR : Hid (aftL d t (livL d d.n) = none) := hide (aftL_none (unhide HNO))
      have HB := hide hb
      clear hb
      go_wp2
      refine bodyPost_ret (v := .agg #[.bool false, .int .i64 0, .int .i64 0, .float .f64 0, .string ⟨#[]⟩, .int .i64 0, .int .i64 0, .int .i64 0, .float .f64 0, .string ⟨#[]⟩, .int .i64 0, .int .i64 0]) (by simp [results, Tryz.results84, go_sem, r0, r1, r2, r3, r4, r5, r6, r7, r8, r9, r10, r11]) rfl ⟨by rw [unhide HR]; rfl, ?_⟩
      iterate 12 (refine Below.setCell ?_ (by exact Nat.le_refl _) _)
      exact unhide HB

set_option maxRecDepth 100000 in
set_option maxHeartbeats 2000000 in
theorem specAfter (la : Option Addr) (lc : Nat) (ia : Option Addr) (ic : Nat) (xa : Option Addr) (xc : Nat) (d : Dc) (t : Int) (w : World) (hA : DAt w la ia xa d) (hS : Small d) (hW : WfD d) :
    Calls Tryz.prog 38 #[Dv la lc ia ic xa xc d, .int .i64 t] w fun e w' => e = .returned (FV (outA d t).1 (outA d t).2) ∧ Below w.heap.size w w' := by
  have HA := hide hA
  have HS := hide hS
  have HW := hide hW
  clear hA hS hW
  have hb0 : Below w.heap.size w ((w.alloc (.cells #[.slice la d.n lc, .slice ia d.m ic, .slice xa d.x xc, .int .i64 d.used, .int .i64 d.live, .int .i64 d.turns] 26)).alloc (.cells #[.bool false, .int .i64 0, .int .i64 0, .float .f64 0, .string ⟨#[]⟩, .int .i64 0, .int .i64 0, .int .i64 0, .float .f64 0, .string ⟨#[]⟩, .int .i64 0, .int .i64 0] 47)) := ((Below.refl _ _).alloc (Nat.le_refl _) _).alloc (by simp) _
  have HB0 := hide hb0
  clear hb0
  go_enter Tryz.func38, Tryz.ntmps38
  go_wp2_with fail
  refine (specOk la lc ia ic xa xc d _ ((unhide HA).below (unhide HB0)) (unhide HS) (unhide HW)).mono ?_
  rintro e w1 ⟨rfl, hb1⟩
  obtain ⟨hc1, hf1⟩ := bcell hb1
  have hz1 := hb1.size
  simp at hz1
  have y0 : w.heap.size < w1.heap.size := by omega
  have y1 : w.heap.size + 1 < w1.heap.size := by omega
  have q0 : w1.cell? ⟨w.heap.size, 0, none⟩ = some (.slice la d.n lc) := by rw [hc1 _ _ (by simp; omega)]; simp [go_sem]
  have r0 : w1.cell? ⟨w.heap.size + 1, 0, none⟩ = some (.bool false) := by rw [hc1 _ _ (by simp)]; simp [go_sem]
  have r1 : w1.cell? ⟨w.heap.size + 1, 1, none⟩ = some (.int .i64 0) := by rw [hc1 _ _ (by simp)]; simp [go_sem]
  have r2 : w1.cell? ⟨w.heap.size + 1, 2, none⟩ = some (.int .i64 0) := by rw [hc1 _ _ (by simp)]; simp [go_sem]
  have r3 : w1.cell? ⟨w.heap.size + 1, 3, none⟩ = some (.float .f64 0) := by rw [hc1 _ _ (by simp)]; simp [go_sem]
  have r4 : w1.cell? ⟨w.heap.size + 1, 4, none⟩ = some (.string ⟨#[]⟩) := by rw [hc1 _ _ (by simp)]; simp [go_sem]
  have r5 : w1.cell? ⟨w.heap.size + 1, 5, none⟩ = some (.int .i64 0) := by rw [hc1 _ _ (by simp)]; simp [go_sem]
  have r6 : w1.cell? ⟨w.heap.size + 1, 6, none⟩ = some (.int .i64 0) := by rw [hc1 _ _ (by simp)]; simp [go_sem]
  have r7 : w1.cell? ⟨w.heap.size + 1, 7, none⟩ = some (.int .i64 0) := by rw [hc1 _ _ (by simp)]; simp [go_sem]
  have r8 : w1.cell? ⟨w.heap.size + 1, 8, none⟩ = some (.float .f64 0) := by rw [hc1 _ _ (by simp)]; simp [go_sem]
  have r9 : w1.cell? ⟨w.heap.size + 1, 9, none⟩ = some (.string ⟨#[]⟩) := by rw [hc1 _ _ (by simp)]; simp [go_sem]
  have r10 : w1.cell? ⟨w.heap.size + 1, 10, none⟩ = some (.int .i64 0) := by rw [hc1 _ _ (by simp)]; simp [go_sem]
  have r11 : w1.cell? ⟨w.heap.size + 1, 11, none⟩ = some (.int .i64 0) := by rw [hc1 _ _ (by simp)]; simp [go_sem]
  have fr : ∀ o, w1.frozen? ⟨w.heap.size + 1, o, none⟩ = false := fun o => by rw [hf1 _ _ (by simp)]; simp [go_sem]
  have HB1 := hide ((unhide HB0).trans (hb1.mono (unhide HB0).size))
  clear hb1 hc1 hf1
  by_cases hk : dictOk d (hD d) = 0
  case neg =>
    have HR : Hid (outA d t = (false, default)) := hide (outA_bad hk)
    have hk' : (dictOk d (hD d) != 0) = true := by simp [hk]
    clear hk
    generalize dictOk d (hD d) = ok at hk'
    go_wp2
    refine bodyPost_ret (v := .agg #[.bool false, .int .i64 0, .int .i64 0, .float .f64 0, .string ⟨#[]⟩, .int .i64 0, .int .i64 0, .int .i64 0, .float .f64 0, .string ⟨#[]⟩, .int .i64 0, .int .i64 0]) (by simp [results, Tryz.results38, go_sem, r0, r1, r2, r3, r4, r5, r6, r7, r8, r9, r10, r11]) rfl ⟨by rw [unhide HR]; rfl, ?_⟩
    iterate 12 (refine Below.setCell ?_ (by show w.heap.size ≤ w.heap.size + 1; omega) _)
    exact unhide HB1
  have HR : Hid (outA d t = outP d (aftL d t (livL d d.n))) := hide (if_pos hk)
  have HSd := hide (sound_of hk)
  rw [hk]
  clear hk
  go_wp2_with fail
  refine (l1after_any la lc d t _ ((unhide HA).below (unhide HB1)).log (unhide HS) (unhide HSd).d2).mono ?_
  rintro e w2 ⟨rfl, hb2⟩
  rw [← unhide HR]
  obtain ⟨hc2, hf2⟩ := bcell hb2
  have z1 : w.heap.size + 1 < w2.heap.size := Nat.lt_of_lt_of_le y1 hb2.size
  have s0 : w2.cell? ⟨w.heap.size + 1, 0, none⟩ = some (.bool false) := (hc2 _ _ y1).trans r0
  have s1 : w2.cell? ⟨w.heap.size + 1, 1, none⟩ = some (.int .i64 0) := (hc2 _ _ y1).trans r1
  have s2 : w2.cell? ⟨w.heap.size + 1, 2, none⟩ = some (.int .i64 0) := (hc2 _ _ y1).trans r2
  have s3 : w2.cell? ⟨w.heap.size + 1, 3, none⟩ = some (.float .f64 0) := (hc2 _ _ y1).trans r3
  have s4 : w2.cell? ⟨w.heap.size + 1, 4, none⟩ = some (.string ⟨#[]⟩) := (hc2 _ _ y1).trans r4
  have s5 : w2.cell? ⟨w.heap.size + 1, 5, none⟩ = some (.int .i64 0) := (hc2 _ _ y1).trans r5
  have s6 : w2.cell? ⟨w.heap.size + 1, 6, none⟩ = some (.int .i64 0) := (hc2 _ _ y1).trans r6
  have s7 : w2.cell? ⟨w.heap.size + 1, 7, none⟩ = some (.int .i64 0) := (hc2 _ _ y1).trans r7
  have s8 : w2.cell? ⟨w.heap.size + 1, 8, none⟩ = some (.float .f64 0) := (hc2 _ _ y1).trans r8
  have s9 : w2.cell? ⟨w.heap.size + 1, 9, none⟩ = some (.string ⟨#[]⟩) := (hc2 _ _ y1).trans r9
  have s10 : w2.cell? ⟨w.heap.size + 1, 10, none⟩ = some (.int .i64 0) := (hc2 _ _ y1).trans r10
  have s11 : w2.cell? ⟨w.heap.size + 1, 11, none⟩ = some (.int .i64 0) := (hc2 _ _ y1).trans r11
  have fr2 : ∀ o, w2.frozen? ⟨w.heap.size + 1, o, none⟩ = false := fun o => (hf2 _ _ y1).trans (fr o)
  have HB2 := hide ((unhide HB1).trans (hb2.mono (unhide HB1).size))
  clear hb2 hc2 hf2 fr r0 r1 r2 r3 r4 r5 r6 r7 r8 r9 r10 r11
  obtain ⟨oo, hoo⟩ : ∃ oo, oo = outA d t := ⟨_, rfl⟩
  rw [← hoo]
  have HOO := hide hoo
  clear hoo
  go_wp2
  refine bodyPost_ret (v := FV oo.1 oo.2) (by simp [results, Tryz.results38, go_sem, s0, s1, s2, s3, s4, s5, s6, s7, s8, s9, s10, s11]) rfl ⟨by rw [unhide HOO], ?_⟩
  iterate 12 (refine Below.setCell ?_ (by show w.heap.size ≤ w.heap.size + 1; omega) _)
  exact unhide HB2

def afNo (d : Dc) (t : Int) (pre : List (Liv d)) : Prop := ∀ y ∈ pre, ¬ t < (d.L y.1).turn
def afX (d : Dc) (t : Int) (b : Nat) (pre : List (Liv d)) (W : World) : Prop := ∃ (pre' : List (Liv d)) (y : Liv d), pre = pre' ++ [y] ∧ afNo d t pre' ∧ t < (d.L y.1).turn ∧ W.cell? ⟨b, 0, none⟩ = some (.bool true) ∧ W.cell? ⟨b, 1, none⟩ = some (.int .i64 (d.L y.1).key.kind) ∧ W.cell? ⟨b, 2, none⟩ = some (.int .i64 (d.L y.1).key.num) ∧ W.cell? ⟨b, 3, none⟩ = some (.float .f64 (d.L y.1).key.flt) ∧ W.cell? ⟨b, 4, none⟩ = some (.string (d.L y.1).key.str) ∧ W.cell? ⟨b, 5, none⟩ = some (.int .i64 (d.L y.1).key.ref) ∧ W.cell? ⟨b, 6, none⟩ = some (.int .i64 (d.L y.1).val.kind) ∧ W.cell? ⟨b, 7, none⟩ = some (.int .i64 (d.L y.1).val.num) ∧ W.cell? ⟨b, 8, none⟩ = some (.float .f64 (d.L y.1).val.flt) ∧ W.cell? ⟨b, 9, none⟩ = some (.string (d.L y.1).val.str) ∧ W.cell? ⟨b, 10, none⟩ = some (.int .i64 (d.L y.1).val.ref) ∧ W.cell? ⟨b, 11, none⟩ = some (.int .i64 (d.L y.1).turn)

set_option maxRecDepth 100000 in
set_option maxHeartbeats 4000000 in
theorem implAfter (la : Option Addr) (lc : Nat) (ia : Option Addr) (ic : Nat) (xa : Option Addr) (xc : Nat) (d : Dc) (t : Int) (w : World) (hT : Tabs w) (hA : DAt w la ia xa d) (hS : Small d) (hW : WfD d) :
    Calls Tryz.prog 25 #[Dv la lc ia ic xa xc d, .int .i64 t] w fun e w' => e = .returned (FV (outA d t).1 (outA d t).2) ∧ Below w.heap.size w w' := by
  have HA := hide hA
  have HS := hide hS
  have HW := hide hW
  have HT := hide hT
  clear hA hS hW hT
  have hb0 : Below w.heap.size w (((w.alloc (.cells #[.slice la d.n lc, .slice ia d.m ic, .slice xa d.x xc, .int .i64 d.used, .int .i64 d.live, .int .i64 d.turns] 26)).alloc (.cells #[.int .i64 t] 3)).alloc (.cells #[.bool false, .int .i64 0, .int .i64 0, .float .f64 0, .string ⟨#[]⟩, .int .i64 0, .int .i64 0, .int .i64 0, .float .f64 0, .string ⟨#[]⟩, .int .i64 0, .int .i64 0] 47)) := (((Below.refl _ _).alloc (Nat.le_refl _) _).alloc (by simp) _).alloc (by simp; omega) _
  have HB0 := hide hb0
  clear hb0
  refine (callsIn_wide (n := 20)).1 ?_
  refine callsIn_of_wp_marks Tryz.func25 rfl trivial ?_ rfl
  simp only [Tryz.ntmps25, List.size_toArray, List.length_cons, List.length_nil, Nat.reduceAdd, Nat.reduceSub, Array.replicate_succ, Array.replicate_zero, List.push_toArray, List.append_toArray, List.nil_append, List.cons_append]
  gi_wp2_with fail
  refine ⟨trivial, ?_⟩
  refine (callsIn_wide.2 (implOk la lc ia ic xa xc d _ (lastsT _ _ (unhide HT) (unhide HB0)) ((unhide HA).below (unhide HB0)) (unhide HS) (unhide HW))).mono ?_
  rintro e w1 ⟨rfl, hb1⟩
  obtain ⟨hc1, hf1⟩ := bcell hb1
  have hz1 := hb1.size
  simp at hz1
  have y0 : w.heap.size < w1.heap.size := by omega
  have y1 : w.heap.size + 1 < w1.heap.size := by omega
  have y2 : w.heap.size + 1 + 1 < w1.heap.size := by omega
  have q0 : w1.cell? ⟨w.heap.size, 0, none⟩ = some (.slice la d.n lc) := by rw [hc1 _ _ (by simp; omega)]; simp [go_sem]
  have q1 : w1.cell? ⟨w.heap.size, 1, none⟩ = some (.slice ia d.m ic) := by rw [hc1 _ _ (by simp; omega)]; simp [go_sem]
  have q2 : w1.cell? ⟨w.heap.size, 2, none⟩ = some (.slice xa d.x xc) := by rw [hc1 _ _ (by simp; omega)]; simp [go_sem]
  have q3 : w1.cell? ⟨w.heap.size, 3, none⟩ = some (.int .i64 d.used) := by rw [hc1 _ _ (by simp; omega)]; simp [go_sem]
  have q4 : w1.cell? ⟨w.heap.size, 4, none⟩ = some (.int .i64 d.live) := by rw [hc1 _ _ (by simp; omega)]; simp [go_sem]
  have q5 : w1.cell? ⟨w.heap.size, 5, none⟩ = some (.int .i64 d.turns) := by rw [hc1 _ _ (by simp; omega)]; simp [go_sem]
  have tq : w1.cell? ⟨w.heap.size + 1, 0, none⟩ = some (.int .i64 t) := by rw [hc1 _ _ (by simp)]; simp [go_sem]
  have r0 : w1.cell? ⟨w.heap.size + 1 + 1, 0, none⟩ = some (.bool false) := by rw [hc1 _ _ (by simp)]; simp [go_sem]
  have r1 : w1.cell? ⟨w.heap.size + 1 + 1, 1, none⟩ = some (.int .i64 0) := by rw [hc1 _ _ (by simp)]; simp [go_sem]
  have r2 : w1.cell? ⟨w.heap.size + 1 + 1, 2, none⟩ = some (.int .i64 0) := by rw [hc1 _ _ (by simp)]; simp [go_sem]
  have r3 : w1.cell? ⟨w.heap.size + 1 + 1, 3, none⟩ = some (.float .f64 0) := by rw [hc1 _ _ (by simp)]; simp [go_sem]
  have r4 : w1.cell? ⟨w.heap.size + 1 + 1, 4, none⟩ = some (.string ⟨#[]⟩) := by rw [hc1 _ _ (by simp)]; simp [go_sem]
  have r5 : w1.cell? ⟨w.heap.size + 1 + 1, 5, none⟩ = some (.int .i64 0) := by rw [hc1 _ _ (by simp)]; simp [go_sem]
  have r6 : w1.cell? ⟨w.heap.size + 1 + 1, 6, none⟩ = some (.int .i64 0) := by rw [hc1 _ _ (by simp)]; simp [go_sem]
  have r7 : w1.cell? ⟨w.heap.size + 1 + 1, 7, none⟩ = some (.int .i64 0) := by rw [hc1 _ _ (by simp)]; simp [go_sem]
  have r8 : w1.cell? ⟨w.heap.size + 1 + 1, 8, none⟩ = some (.float .f64 0) := by rw [hc1 _ _ (by simp)]; simp [go_sem]
  have r9 : w1.cell? ⟨w.heap.size + 1 + 1, 9, none⟩ = some (.string ⟨#[]⟩) := by rw [hc1 _ _ (by simp)]; simp [go_sem]
  have r10 : w1.cell? ⟨w.heap.size + 1 + 1, 10, none⟩ = some (.int .i64 0) := by rw [hc1 _ _ (by simp)]; simp [go_sem]
  have r11 : w1.cell? ⟨w.heap.size + 1 + 1, 11, none⟩ = some (.int .i64 0) := by rw [hc1 _ _ (by simp)]; simp [go_sem]
  have fr : ∀ o, w1.frozen? ⟨w.heap.size + 1 + 1, o, none⟩ = false := fun o => by rw [hf1 _ _ (by simp)]; simp [go_sem]
  have HB1 := hide ((unhide HB0).trans (hb1.mono (unhide HB0).size))
  clear hb1 hc1 hf1
  by_cases hk : dictOk d (hD d) = 0
  case neg =>
    have HR : Hid (outA d t = (false, default)) := hide (outA_bad hk)
    have hk' : (dictOk d (hD d) != 0) = true := by simp [hk]
    clear hk
    generalize dictOk d (hD d) = ok at hk'
    gi_wp2
    refine ⟨.agg #[.bool false, .int .i64 0, .int .i64 0, .float .f64 0, .string ⟨#[]⟩, .int .i64 0, .int .i64 0, .int .i64 0, .float .f64 0, .string ⟨#[]⟩, .int .i64 0, .int .i64 0], ?_, by rw [unhide HR]; rfl, ?_⟩
    · simp [results, Tryz.f25, go_sem, r0, r1, r2, r3, r4, r5, r6, r7, r8, r9, r10, r11]
    · iterate 12 (refine Below.setCell ?_ (by show w.heap.size ≤ w.heap.size + 1 + 1; omega) _)
      exact unhide HB1
  have HOK := hide hk
  have HSd := hide (sound_of hk)
  rw [hk]
  clear hk
  gi_wp2_with fail
  refine ⟨trivial, ?_⟩
  refine (callsIn_wide.2 (openBook_any la lc ia ic xa xc d _ ((unhide HA).below (unhide HB1)) (unhide HS) (unhide HSd).d3 (unhide HSd).d4)).mono ?_
  rintro e w2 ⟨⟨bk, R0, R1, R2, E, S, rfl, hBk⟩, hb2⟩
  have HB2 := hide ((unhide HB1).trans (hb2.mono (unhide HB1).size))
  have HX2 := hide hb2
  have HBk := hide hBk
  clear hb2 hBk
  gi_wp2_with fail
  refine ⟨trivial, ?_⟩
  refine (callsIn_wide.2 (living_any bk _)).mono ?_
  rintro e w4 ⟨rfl, rfl⟩
  gi_wp2_with fail
  obtain ⟨u, hu⟩ : ∃ u, u = w2.alloc (.cells #[.pointer (some ⟨bk, 0, none⟩)] 77) := ⟨_, rfl⟩
  rw [← hu]
  have zu : u.heap.size = w2.heap.size + 1 := by rw [hu]; simp
  have b2u : Below w2.heap.size w2 u := by rw [hu]; exact (Below.refl _ _).alloc (Nat.le_refl _) _
  have mb0 : u.cell? ⟨w2.heap.size, 0, none⟩ = some (.pointer (some ⟨bk, 0, none⟩)) := by rw [hu]; simp [go_sem]
  clear hu
  have hBu := (unhide HBk).below b2u
  have b1u : Below w1.heap.size w1 u := (unhide HX2).trans (b2u.mono (unhide HX2).size)
  have bwu : Below w.heap.size w u := (unhide HB1).trans (b1u.mono (unhide HB1).size)
  have tu := (b1u.cell (p := ⟨w.heap.size + 1, 0, none⟩) y1).trans tq
  have x0 := (b1u.cell (p := ⟨w.heap.size + 1 + 1, 0, none⟩) y2).trans r0
  have x1 := (b1u.cell (p := ⟨w.heap.size + 1 + 1, 1, none⟩) y2).trans r1
  have x2 := (b1u.cell (p := ⟨w.heap.size + 1 + 1, 2, none⟩) y2).trans r2
  have x3 := (b1u.cell (p := ⟨w.heap.size + 1 + 1, 3, none⟩) y2).trans r3
  have x4 := (b1u.cell (p := ⟨w.heap.size + 1 + 1, 4, none⟩) y2).trans r4
  have x5 := (b1u.cell (p := ⟨w.heap.size + 1 + 1, 5, none⟩) y2).trans r5
  have x6 := (b1u.cell (p := ⟨w.heap.size + 1 + 1, 6, none⟩) y2).trans r6
  have x7 := (b1u.cell (p := ⟨w.heap.size + 1 + 1, 7, none⟩) y2).trans r7
  have x8 := (b1u.cell (p := ⟨w.heap.size + 1 + 1, 8, none⟩) y2).trans r8
  have x9 := (b1u.cell (p := ⟨w.heap.size + 1 + 1, 9, none⟩) y2).trans r9
  have x10 := (b1u.cell (p := ⟨w.heap.size + 1 + 1, 10, none⟩) y2).trans r10
  have x11 := (b1u.cell (p := ⟨w.heap.size + 1 + 1, 11, none⟩) y2).trans r11
  have fu : ∀ o, u.frozen? ⟨w.heap.size + 1 + 1, o, none⟩ = false := fun o => (b1u.frozen (p := ⟨w.heap.size + 1 + 1, o, none⟩) y2).trans (fr o)
  have yu1 : w.heap.size + 1 < u.heap.size := Nat.lt_of_lt_of_le y1 b1u.size
  have yu2 : w.heap.size + 1 + 1 < u.heap.size := Nat.lt_of_lt_of_le y2 b1u.size
  have HZu := hide (Nat.le_trans (Nat.le_of_lt yu1) (Nat.le_refl _))
  clear zu
  clear HBk HX2 b1u b2u q0 q1 q2 q3 q4 q5 tq r0 r1 r2 r3 r4 r5 r6 r7 r8 r9 r10 r11 fr
  refine wpIn_rangeFunc_ownF rfl (by decide) (gf := 107) (lb := #[.pointer (some ⟨w2.heap.size, 0, none⟩)]) rfl trivial (enters_of Tryz.func107 (by kernel_rfl) rfl)
    (living_stops 19 (by decide) bk R0 R1 R2 w2.heap.size u.heap.size E S d u hBu (unhide HS) hBu.l0 (fun i hi => (hBu.ent i hi).lt) mb0) belowK_t (belowK_b (Nat.le_refl _)) (Below.refl _ _) (fun _ => rfl)
    (fun pre W => afNo d t pre ∧ Below u.heap.size u W)
    (fun c pre W => (c = .ret ∧ afX d t (w.heap.size + 1 + 1) pre W) ∧ Below w.heap.size w W)
    (OwnFrom.and (ownFrom_pure _ (fun pre : List (Liv d) => afNo d t pre)) (ownFrom_below (Nat.le_refl _) (Nat.le_refl _)))
    (fun c => OwnFrom.and (Own.from (fun s A B row hs hg hr => ⟨hs.1, by obtain ⟨pre', y, h1, h2, h3, c0, c1, c2, c3, c4, c5, c6, c7, c8, c9, c10, c11⟩ := hs.2; exact ⟨pre', y, h1, h2, h3, cell_kept c0 hg hr, cell_kept c1 hg hr, cell_kept c2 hg hr, cell_kept c3 hg hr, cell_kept c4 hg hr, cell_kept c5 hg hr, cell_kept c6 hg hr, cell_kept c7 hg hr, cell_kept c8 hg hr, cell_kept c9 hg hr, cell_kept c10 hg hr, cell_kept c11 hg hr⟩⟩) _) (ownFrom_below (Nat.le_refl _) (by have := unhide HZu; have := y1; omega)))
    ⟨fun y hy => (by cases hy), Below.refl _ _⟩
    ?a1 ?assign ?body ?done ?stop
  case assign =>
    intro l x W K hK
    gi_wp2
    exact hK
  case body =>
    rintro l pre ⟨i, hi, ht⟩ W ⟨hp, hBW⟩ _
    have hBk := hBu.below hBW
    obtain ⟨hel, k0, k1, k2, k3, k4, v0, v1, v2, v3, v4, tn, _, _⟩ := hBk.ent i hi
    have tW := (hBW.cell (p := ⟨w.heap.size + 1, 0, none⟩) yu1).trans tu
    have hN1 : w.heap.size + 1 < W.heap.size := Nat.lt_of_lt_of_le yu1 hBW.size
    have hN2 : w.heap.size + 1 + 1 < W.heap.size := Nat.lt_of_lt_of_le yu2 hBW.size
    have a0 := (hBW.cell (p := ⟨w.heap.size + 1 + 1, 0, none⟩) yu2).trans x0
    have a1 := (hBW.cell (p := ⟨w.heap.size + 1 + 1, 1, none⟩) yu2).trans x1
    have a2 := (hBW.cell (p := ⟨w.heap.size + 1 + 1, 2, none⟩) yu2).trans x2
    have a3 := (hBW.cell (p := ⟨w.heap.size + 1 + 1, 3, none⟩) yu2).trans x3
    have a4 := (hBW.cell (p := ⟨w.heap.size + 1 + 1, 4, none⟩) yu2).trans x4
    have a5 := (hBW.cell (p := ⟨w.heap.size + 1 + 1, 5, none⟩) yu2).trans x5
    have a6 := (hBW.cell (p := ⟨w.heap.size + 1 + 1, 6, none⟩) yu2).trans x6
    have a7 := (hBW.cell (p := ⟨w.heap.size + 1 + 1, 7, none⟩) yu2).trans x7
    have a8 := (hBW.cell (p := ⟨w.heap.size + 1 + 1, 8, none⟩) yu2).trans x8
    have a9 := (hBW.cell (p := ⟨w.heap.size + 1 + 1, 9, none⟩) yu2).trans x9
    have a10 := (hBW.cell (p := ⟨w.heap.size + 1 + 1, 10, none⟩) yu2).trans x10
    have a11 := (hBW.cell (p := ⟨w.heap.size + 1 + 1, 11, none⟩) yu2).trans x11
    have fW : ∀ o, W.frozen? ⟨w.heap.size + 1 + 1, o, none⟩ = false := fun o => (hBW.frozen (p := ⟨w.heap.size + 1 + 1, o, none⟩) yu2).trans (fu o)
    have HP := hide hp
    clear hp hBk mb0 x0 x1 x2 x3 x4 x5 x6 x7 x8 x9 x10 x11 tu
    by_cases hlt : t < (d.L i).turn
    · have HL := hide hlt
      have hlt' : decide (t < (d.L i).turn) = true := by simp [hlt]
      clear hlt
      gi_wp2
      refine wpIn_region_quiet (C := fun w' => Below W.heap.size W w') (by kernel_rfl) (by kernel_rfl) (by kernel_rfl) ((Below.refl _ _).drew) ?_
      show wpQuiet _ _ _ _ [_, _, _, _, _, _, _] _
      refine wpQuiet_step (fun K hK => ?_)
      go_simp
      refine ⟨_, fun w' hw' => rfl, hK _ ?_⟩
      clear hK K
      refine wpQuiet_step (fun K hK => ?_)
      go_simp
      refine ⟨_, fun w' hw' => rfl, hK _ ?_⟩
      clear hK K
      refine wpQuiet_step (fun K hK => ?_)
      go_simp
      refine ⟨_, fun w' hw' => rfl, hK _ ?_⟩
      clear hK K
      refine wpQuiet_step (fun K hK => ?_)
      go_simp
      refine ⟨_, fun w' hw' => rfl, hK _ ?_⟩
      clear hK K
      refine wpQuiet_step (fun K hK => ?_)
      go_simp
      apply Exists.intro
      refine And.intro (fun w' hw' => ?_) (hK _ ?_)
      · obtain ⟨hc', hf'⟩ := bcell hw'
        go_simp
        first | rfl | exact ⟨rfl, rfl⟩ | exact ⟨rfl⟩
      clear hK K
      refine wpQuiet_step (fun K hK => ?_)
      go_simp
      apply Exists.intro
      refine And.intro (fun w' hw' => ?_) (hK _ ?_)
      · obtain ⟨hc', hf'⟩ := bcell hw'
        go_simp
        first | rfl | exact ⟨rfl, rfl⟩ | exact ⟨rfl⟩
      clear hK K
      refine wpQuiet_step (fun K hK => ?_)
      go_simp
      refine ⟨_, fun w' hw' => rfl, hK _ ?_⟩
      clear hK K
      refine wpQuiet_nil ?_
      intro w5 hw5
      have HK := hide (keeps_of_below hw5)
      have HB5 := hide (bwu.trans ((hBW.trans (hw5.mono hBW.size)).mono bwu.size))
      have k0' := (hw5.cell (p := ⟨E i, 0, none⟩) hel).trans k0
      have k1' := (hw5.cell (p := ⟨E i, 1, none⟩) hel).trans k1
      have k2' := (hw5.cell (p := ⟨E i, 2, none⟩) hel).trans k2
      have k3' := (hw5.cell (p := ⟨E i, 3, none⟩) hel).trans k3
      have k4' := (hw5.cell (p := ⟨E i, 4, none⟩) hel).trans k4
      have k5' := (hw5.cell (p := ⟨E i, 5, none⟩) hel).trans v0
      have k6' := (hw5.cell (p := ⟨E i, 6, none⟩) hel).trans v1
      have k7' := (hw5.cell (p := ⟨E i, 7, none⟩) hel).trans v2
      have k8' := (hw5.cell (p := ⟨E i, 8, none⟩) hel).trans v3
      have k9' := (hw5.cell (p := ⟨E i, 9, none⟩) hel).trans v4
      have k10' := (hw5.cell (p := ⟨E i, 10, none⟩) hel).trans tn
      have a0' := (hw5.cell (p := ⟨w.heap.size + 1 + 1, 0, none⟩) hN2).trans a0
      have a1' := (hw5.cell (p := ⟨w.heap.size + 1 + 1, 1, none⟩) hN2).trans a1
      have a2' := (hw5.cell (p := ⟨w.heap.size + 1 + 1, 2, none⟩) hN2).trans a2
      have a3' := (hw5.cell (p := ⟨w.heap.size + 1 + 1, 3, none⟩) hN2).trans a3
      have a4' := (hw5.cell (p := ⟨w.heap.size + 1 + 1, 4, none⟩) hN2).trans a4
      have a5' := (hw5.cell (p := ⟨w.heap.size + 1 + 1, 5, none⟩) hN2).trans a5
      have a6' := (hw5.cell (p := ⟨w.heap.size + 1 + 1, 6, none⟩) hN2).trans a6
      have a7' := (hw5.cell (p := ⟨w.heap.size + 1 + 1, 7, none⟩) hN2).trans a7
      have a8' := (hw5.cell (p := ⟨w.heap.size + 1 + 1, 8, none⟩) hN2).trans a8
      have a9' := (hw5.cell (p := ⟨w.heap.size + 1 + 1, 9, none⟩) hN2).trans a9
      have a10' := (hw5.cell (p := ⟨w.heap.size + 1 + 1, 10, none⟩) hN2).trans a10
      have a11' := (hw5.cell (p := ⟨w.heap.size + 1 + 1, 11, none⟩) hN2).trans a11
      have f5 : ∀ o, w5.frozen? ⟨w.heap.size + 1 + 1, o, none⟩ = false := fun o => (hw5.frozen (p := ⟨w.heap.size + 1 + 1, o, none⟩) hN2).trans (fW o)
      have hel5 : E i < w5.heap.size := Nat.lt_of_lt_of_le hel hw5.size
      have hN5 : w.heap.size + 1 + 1 < w5.heap.size := Nat.lt_of_lt_of_le hN2 hw5.size
      clear hw5 k0 k1 k2 k3 k4 v0 v1 v2 v3 v4 tn a0 a1 a2 a3 a4 a5 a6 a7 a8 a9 a10 a11 fW
      gi_wp2
      refine ⟨?_, ⟨rfl, pre, ⟨i, hi, ht⟩, rfl, unhide HP, unhide HL, ?_⟩, ?_⟩
      · refine (unhide HK).trans ?_
        iterate 11 (refine KeepsOthers.trans ?_ (KeepsOthers.setCell _ _ _))
        exact KeepsOthers.setCell _ _ _
      · refine ⟨?_, ?_, ?_, ?_, ?_, ?_, ?_, ?_, ?_, ?_, ?_, ?_⟩ <;> simp [go_sem, a0', a1', a2', a3', a4', a5', a6', a7', a8', a9', a10', a11']
      · iterate 12 (refine Below.setCell ?_ (by show w.heap.size ≤ w.heap.size + 1 + 1; omega) _)
        exact unhide HB5
    · have HL := hide hlt
      have hlt' : decide (t < (d.L i).turn) = false := by simp [hlt]
      clear hlt
      gi_wp2
      refine wpIn_region_quiet (C := fun w' => Below W.heap.size W w') (by kernel_rfl) (by kernel_rfl) (by kernel_rfl) ((Below.refl _ _).drew) ?_
      show wpQuiet _ _ _ _ [_, _, _, _, _, _, _] _
      refine wpQuiet_step (fun K hK => ?_)
      go_simp
      refine ⟨_, fun w' hw' => rfl, hK _ ?_⟩
      clear hK K
      refine wpQuiet_step (fun K hK => ?_)
      go_simp
      refine ⟨_, fun w' hw' => rfl, hK _ ?_⟩
      clear hK K
      refine wpQuiet_step (fun K hK => ?_)
      go_simp
      refine ⟨_, fun w' hw' => rfl, hK _ ?_⟩
      clear hK K
      refine wpQuiet_step (fun K hK => ?_)
      go_simp
      refine ⟨_, fun w' hw' => rfl, hK _ ?_⟩
      clear hK K
      refine wpQuiet_step (fun K hK => ?_)
      go_simp
      apply Exists.intro
      refine And.intro (fun w' hw' => ?_) (hK _ ?_)
      · obtain ⟨hc', hf'⟩ := bcell hw'
        go_simp
        first | rfl | exact ⟨rfl, rfl⟩ | exact ⟨rfl⟩
      clear hK K
      refine wpQuiet_step (fun K hK => ?_)
      go_simp
      apply Exists.intro
      refine And.intro (fun w' hw' => ?_) (hK _ ?_)
      · obtain ⟨hc', hf'⟩ := bcell hw'
        go_simp
        first | rfl | exact ⟨rfl, rfl⟩ | exact ⟨rfl⟩
      clear hK K
      refine wpQuiet_step (fun K hK => ?_)
      go_simp
      refine ⟨_, fun w' hw' => rfl, hK _ ?_⟩
      clear hK K
      refine wpQuiet_nil ?_
      intro w5 hw5
      have HK := hide (keeps_of_below hw5)
      have HB5 := hide hw5
      clear hw5
      gi_wp2
      exact ⟨unhide HK, (unhide HB5).mono hBW.size, fun y hy => (List.mem_append.1 hy).elim (unhide HP y) (fun e => by rw [List.mem_singleton] at e; subst e; exact Int.not_lt.2 (unhide HL)), hBW.trans ((unhide HB5).mono hBW.size)⟩
  case done =>
    rintro D ys W hD hlv ⟨hp, hBW⟩ hK
    have HR : Hid (outA d t = (false, default)) := hide (outA_none (unhide HOK) (aftL_none (fun i hi => by
      rw [← show ys.map (·.1) = livL d d.n from hlv] at hi
      obtain ⟨y, hy, rfl⟩ := List.mem_map.1 hi
      exact hp y hy)))
    have c0 := (hBW.cell (p := ⟨w.heap.size + 1 + 1, 0, none⟩) yu2).trans x0
    have c1 := (hBW.cell (p := ⟨w.heap.size + 1 + 1, 1, none⟩) yu2).trans x1
    have c2 := (hBW.cell (p := ⟨w.heap.size + 1 + 1, 2, none⟩) yu2).trans x2
    have c3 := (hBW.cell (p := ⟨w.heap.size + 1 + 1, 3, none⟩) yu2).trans x3
    have c4 := (hBW.cell (p := ⟨w.heap.size + 1 + 1, 4, none⟩) yu2).trans x4
    have c5 := (hBW.cell (p := ⟨w.heap.size + 1 + 1, 5, none⟩) yu2).trans x5
    have c6 := (hBW.cell (p := ⟨w.heap.size + 1 + 1, 6, none⟩) yu2).trans x6
    have c7 := (hBW.cell (p := ⟨w.heap.size + 1 + 1, 7, none⟩) yu2).trans x7
    have c8 := (hBW.cell (p := ⟨w.heap.size + 1 + 1, 8, none⟩) yu2).trans x8
    have c9 := (hBW.cell (p := ⟨w.heap.size + 1 + 1, 9, none⟩) yu2).trans x9
    have c10 := (hBW.cell (p := ⟨w.heap.size + 1 + 1, 10, none⟩) yu2).trans x10
    have c11 := (hBW.cell (p := ⟨w.heap.size + 1 + 1, 11, none⟩) yu2).trans x11
    have fW : ∀ o, W.frozen? ⟨w.heap.size + 1 + 1, o, none⟩ = false := fun o => (hBW.frozen (p := ⟨w.heap.size + 1 + 1, o, none⟩) yu2).trans (fu o)
    clear hlv hp x0 x1 x2 x3 x4 x5 x6 x7 x8 x9 x10 x11
    gi_wp2
    obtain ⟨W9, hW9⟩ : ∃ W9, W9 = ((((((((((((W.setCell ⟨w.heap.size + 1 + 1, 0, none⟩ (.bool false)).setCell ⟨w.heap.size + 1 + 1, 1, none⟩ (.int .i64 0)).setCell ⟨w.heap.size + 1 + 1, 2, none⟩ (.int .i64 0)).setCell ⟨w.heap.size + 1 + 1, 3, none⟩ (.float .f64 0)).setCell ⟨w.heap.size + 1 + 1, 4, none⟩ (.string ⟨#[]⟩)).setCell ⟨w.heap.size + 1 + 1, 5, none⟩ (.int .i64 0)).setCell ⟨w.heap.size + 1 + 1, 6, none⟩ (.int .i64 0)).setCell ⟨w.heap.size + 1 + 1, 7, none⟩ (.int .i64 0)).setCell ⟨w.heap.size + 1 + 1, 8, none⟩ (.float .f64 0)).setCell ⟨w.heap.size + 1 + 1, 9, none⟩ (.string ⟨#[]⟩)).setCell ⟨w.heap.size + 1 + 1, 10, none⟩ (.int .i64 0)).setCell ⟨w.heap.size + 1 + 1, 11, none⟩ (.int .i64 0)) := ⟨_, rfl⟩
    rw [← hW9]
    have hKO : KeepsOthers W W9 := by
      rw [hW9]
      iterate 11 (refine KeepsOthers.trans ?_ (KeepsOthers.setCell _ _ _))
      exact KeepsOthers.setCell _ _ _
    have hK' := hKO.same D _ hK rfl
    have hB9 : Below w.heap.size w W9 := by
      rw [hW9]
      iterate 12 (refine Below.setCell ?_ (by show w.heap.size ≤ w.heap.size + 1 + 1; omega) _)
      exact bwu.trans (hBW.mono bwu.size)
    have d0 : W9.cell? ⟨w.heap.size + 1 + 1, 0, none⟩ = some (.bool false) := by rw [hW9]; simp [go_sem, c0]
    have d1 : W9.cell? ⟨w.heap.size + 1 + 1, 1, none⟩ = some (.int .i64 0) := by rw [hW9]; simp [go_sem, c1]
    have d2 : W9.cell? ⟨w.heap.size + 1 + 1, 2, none⟩ = some (.int .i64 0) := by rw [hW9]; simp [go_sem, c2]
    have d3 : W9.cell? ⟨w.heap.size + 1 + 1, 3, none⟩ = some (.float .f64 0) := by rw [hW9]; simp [go_sem, c3]
    have d4 : W9.cell? ⟨w.heap.size + 1 + 1, 4, none⟩ = some (.string ⟨#[]⟩) := by rw [hW9]; simp [go_sem, c4]
    have d5 : W9.cell? ⟨w.heap.size + 1 + 1, 5, none⟩ = some (.int .i64 0) := by rw [hW9]; simp [go_sem, c5]
    have d6 : W9.cell? ⟨w.heap.size + 1 + 1, 6, none⟩ = some (.int .i64 0) := by rw [hW9]; simp [go_sem, c6]
    have d7 : W9.cell? ⟨w.heap.size + 1 + 1, 7, none⟩ = some (.int .i64 0) := by rw [hW9]; simp [go_sem, c7]
    have d8 : W9.cell? ⟨w.heap.size + 1 + 1, 8, none⟩ = some (.float .f64 0) := by rw [hW9]; simp [go_sem, c8]
    have d9 : W9.cell? ⟨w.heap.size + 1 + 1, 9, none⟩ = some (.string ⟨#[]⟩) := by rw [hW9]; simp [go_sem, c9]
    have d10 : W9.cell? ⟨w.heap.size + 1 + 1, 10, none⟩ = some (.int .i64 0) := by rw [hW9]; simp [go_sem, c10]
    have d11 : W9.cell? ⟨w.heap.size + 1 + 1, 11, none⟩ = some (.int .i64 0) := by rw [hW9]; simp [go_sem, c11]
    refine ⟨by simp, .inl ⟨_, _, rfl, run_takeDeferred hK', ?_⟩⟩
    have e0 := cell_kept d0 (grownBy_putObj' _ D (.deferred none)) (fun r e => by cases e; exact ⟨_, hK', rfl⟩)
    have e1 := cell_kept d1 (grownBy_putObj' _ D (.deferred none)) (fun r e => by cases e; exact ⟨_, hK', rfl⟩)
    have e2 := cell_kept d2 (grownBy_putObj' _ D (.deferred none)) (fun r e => by cases e; exact ⟨_, hK', rfl⟩)
    have e3 := cell_kept d3 (grownBy_putObj' _ D (.deferred none)) (fun r e => by cases e; exact ⟨_, hK', rfl⟩)
    have e4 := cell_kept d4 (grownBy_putObj' _ D (.deferred none)) (fun r e => by cases e; exact ⟨_, hK', rfl⟩)
    have e5 := cell_kept d5 (grownBy_putObj' _ D (.deferred none)) (fun r e => by cases e; exact ⟨_, hK', rfl⟩)
    have e6 := cell_kept d6 (grownBy_putObj' _ D (.deferred none)) (fun r e => by cases e; exact ⟨_, hK', rfl⟩)
    have e7 := cell_kept d7 (grownBy_putObj' _ D (.deferred none)) (fun r e => by cases e; exact ⟨_, hK', rfl⟩)
    have e8 := cell_kept d8 (grownBy_putObj' _ D (.deferred none)) (fun r e => by cases e; exact ⟨_, hK', rfl⟩)
    have e9 := cell_kept d9 (grownBy_putObj' _ D (.deferred none)) (fun r e => by cases e; exact ⟨_, hK', rfl⟩)
    have e10 := cell_kept d10 (grownBy_putObj' _ D (.deferred none)) (fun r e => by cases e; exact ⟨_, hK', rfl⟩)
    have e11 := cell_kept d11 (grownBy_putObj' _ D (.deferred none)) (fun r e => by cases e; exact ⟨_, hK', rfl⟩)
    refine ⟨.agg #[.bool false, .int .i64 0, .int .i64 0, .float .f64 0, .string ⟨#[]⟩, .int .i64 0, .int .i64 0, .int .i64 0, .float .f64 0, .string ⟨#[]⟩, .int .i64 0, .int .i64 0], ?_, by rw [unhide HR]; rfl, hB9.trans (belowK_b (w := w) (Nat.le_refl _) _ D _ _ (Nat.le_trans bwu.size hD) hK' rfl rfl)⟩
    simp [results, Tryz.f25, go_sem, e0, e1, e2, e3, e4, e5, e6, e7, e8, e9, e10, e11]
  case stop =>
    rintro D c pre W hD hpre ⟨⟨rfl, pre', y, rfl, h1, h2, c0, c1, c2, c3, c4, c5, c6, c7, c8, c9, c10, c11⟩, hBW⟩ hK
    have hp : (pre' ++ [y]).map (·.1) <+: livL d d.n := hpre
    rw [List.map_append] at hp
    have HR : Hid (outA d t = (true, d.L y.1)) := hide (outA_some (unhide HOK) (aftL_hit (fun b hb => by obtain ⟨z, hz, rfl⟩ := List.mem_map.1 hb; exact h1 z hz) hp h2))
    clear hpre h1 h2 hp
    gi_wp2
    refine ⟨by simp, .inl ⟨_, _, rfl, run_takeDeferred hK, ?_⟩⟩
    have e0 := cell_kept c0 (grownBy_putObj' _ D (.deferred none)) (fun r e => by cases e; exact ⟨_, hK, rfl⟩)
    have e1 := cell_kept c1 (grownBy_putObj' _ D (.deferred none)) (fun r e => by cases e; exact ⟨_, hK, rfl⟩)
    have e2 := cell_kept c2 (grownBy_putObj' _ D (.deferred none)) (fun r e => by cases e; exact ⟨_, hK, rfl⟩)
    have e3 := cell_kept c3 (grownBy_putObj' _ D (.deferred none)) (fun r e => by cases e; exact ⟨_, hK, rfl⟩)
    have e4 := cell_kept c4 (grownBy_putObj' _ D (.deferred none)) (fun r e => by cases e; exact ⟨_, hK, rfl⟩)
    have e5 := cell_kept c5 (grownBy_putObj' _ D (.deferred none)) (fun r e => by cases e; exact ⟨_, hK, rfl⟩)
    have e6 := cell_kept c6 (grownBy_putObj' _ D (.deferred none)) (fun r e => by cases e; exact ⟨_, hK, rfl⟩)
    have e7 := cell_kept c7 (grownBy_putObj' _ D (.deferred none)) (fun r e => by cases e; exact ⟨_, hK, rfl⟩)
    have e8 := cell_kept c8 (grownBy_putObj' _ D (.deferred none)) (fun r e => by cases e; exact ⟨_, hK, rfl⟩)
    have e9 := cell_kept c9 (grownBy_putObj' _ D (.deferred none)) (fun r e => by cases e; exact ⟨_, hK, rfl⟩)
    have e10 := cell_kept c10 (grownBy_putObj' _ D (.deferred none)) (fun r e => by cases e; exact ⟨_, hK, rfl⟩)
    have e11 := cell_kept c11 (grownBy_putObj' _ D (.deferred none)) (fun r e => by cases e; exact ⟨_, hK, rfl⟩)
    refine ⟨FV true (d.L y.1), ?_, by rw [unhide HR], hBW.trans (belowK_b (w := w) (Nat.le_refl _) W D _ _ (Nat.le_trans bwu.size hD) hK rfl rfl)⟩
    simp [results, Tryz.f25, go_sem, e0, e1, e2, e3, e4, e5, e6, e7, e8, e9, e10, e11]
end Go.Proofs.YtglcaejddckleaaGreatDoor
