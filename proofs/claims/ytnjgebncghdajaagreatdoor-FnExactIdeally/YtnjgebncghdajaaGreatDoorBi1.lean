/-
  IdC, IdD, IdH.
-/
import Derived.Test.YtnjgebncghdajaaGreatDoorIdAP
namespace Go.Proofs.YtnjgebncghdajaaGreatDoor
open Go.RowKit
set_option linter.unusedVariables false
attribute [local go_sem] run_store_float run_equalIn_float

set_option maxHeartbeats 1000000 in
theorem l1like_lk (a b : Vl) (w : World) :
    Calls Tryz.prog 60 #[V a.kind a.num a.flt a.str a.ref, V b.kind b.num b.flt b.str b.ref] w fun e w' => e = .returned (.bool (lkB a b)) ∧ Below w.heap.size w w' := by
  go_enter Tryz.func60, Tryz.ntmps60
  go_wp2
  all_goals (go_ret; refine ⟨by simp_all [lkB, fqB], ((Below.refl _ _).alloc (Nat.le_refl _) _).alloc (by simp) _⟩)

abbrev PlV (a : Option Addr) (cp : Nat) (t : Pl) : Value := .agg #[.slice a t.n cp, .int .i64 t.turns]

set_option maxRecDepth 100000 in
set_option maxHeartbeats 4000000 in
theorem l5at_any (a : Option Addr) (cp : Nat) (t : Pl) (k : Vl) (w : World) (hP : PAt w a t.n t.P) (hn : t.n ≤ 500) :
    Calls Tryz.prog 47 #[PlV a cp t, V k.kind k.num k.flt k.str k.ref] w fun e w' => e = .returned (.int .i64 (t.at k)) ∧ Below w.heap.size w w' := by
  obtain ⟨W, hW⟩ : ∃ W, W = (w.alloc (.cells #[.slice a t.n cp, .int .i64 t.turns] 72)).alloc (.cells #[.int .i64 k.kind, .int .i64 k.num, .float .f64 k.flt, .string k.str, .int .i64 k.ref] 46) := ⟨_, rfl⟩
  have hb0 : Below w.heap.size w W := by rw [hW]; exact ((Below.refl _ _).alloc (Nat.le_refl _) _).alloc (by simp) _
  have p0 : W.cell? ⟨w.heap.size, 0, none⟩ = some (.slice a t.n cp) := by rw [hW]; simp [go_sem]
  have hz : w.heap.size + 1 < W.heap.size := by rw [hW]; simp
  have q0 : W.cell? ⟨w.heap.size + 1, 0, none⟩ = some (.int .i64 k.kind) := by rw [hW]; simp [go_sem]
  have q1 : W.cell? ⟨w.heap.size + 1, 1, none⟩ = some (.int .i64 k.num) := by rw [hW]; simp [go_sem]
  have q2 : W.cell? ⟨w.heap.size + 1, 2, none⟩ = some (.float .f64 k.flt) := by rw [hW]; simp [go_sem]
  have q3 : W.cell? ⟨w.heap.size + 1, 3, none⟩ = some (.string k.str) := by rw [hW]; simp [go_sem]
  have q4 : W.cell? ⟨w.heap.size + 1, 4, none⟩ = some (.int .i64 k.ref) := by rw [hW]; simp [go_sem]
  have HP := hide (hP.below hb0 rfl)
  have HB0 := hide hb0
  have HQ := hide (And.intro q0 (And.intro q1 (And.intro q2 (And.intro q3 q4))))
  clear hP hb0 q0 q1 q2 q3 q4
  go_enter Tryz.func47, Tryz.ntmps47
  go_wp2_with fail
  rw [← hW]
  clear hW
  go_wp2_with fail
  clear p0
  go_loopw [10] (fun i wr => ∃ q : Nat, q ≤ t.n ∧ i = .int .i64 q ∧ t.at k = atF (fun j => lkB (t.P j).key k) (t.n - q) q ∧ Below W.heap.size W wr) (fun i _ => t.n - (intOf i).toNat)
  case atStart => exact ⟨0, by omega, rfl, rfl, Below.refl _ _⟩
  case round =>
    obtain ⟨q, hq, rfl, hat, hb⟩ := hrel
    have hsz := hb.size
    have HB := hide hb
    have HAT := hide hat
    by_cases hqn : q < t.n
    · obtain ⟨b, off, rfl, hbl, hcs⟩ := (unhide HP).resolve_left (by omega)
      obtain ⟨e0, e1, e2, e3, e4, e5, e6, e7, e8, e9, e10⟩ := (hcs q hqn).keep (fun j => hb.cell (p := ⟨b, j, none⟩) hbl)
      obtain ⟨q0, q1, q2, q3, q4⟩ := unhide HQ
      have q0 := (hb.cell (p := ⟨w.heap.size + 1, 0, none⟩) hz).trans q0
      have q1 := (hb.cell (p := ⟨w.heap.size + 1, 1, none⟩) hz).trans q1
      have q2 := (hb.cell (p := ⟨w.heap.size + 1, 2, none⟩) hz).trans q2
      have q3 := (hb.cell (p := ⟨w.heap.size + 1, 3, none⟩) hz).trans q3
      have q4 := (hb.cell (p := ⟨w.heap.size + 1, 4, none⟩) hz).trans q4
      have hz2 : w.heap.size + 1 < wr.heap.size := by omega
      clear hcs hb hat
      go_wp2_with fail
      refine (l1like_lk (t.P q).key k _).mono ?_
      rintro e w1 ⟨rfl, hb1⟩
      cases hl : lkB (t.P q).key k
      · have HN := hide ((unhide HAT).trans (atF_miss hqn hl))
        go_wp2_with fail
        go_roundw
        case rel => exact ⟨q + 1, by omega, by go_num, unhide HN, ((unhide HB).alloc (by omega) _).trans (hb1.mono (by simp; omega))⟩
        case measure => simp [intOf]; omega
      · have HN := hide ((unhide HAT).trans (atF_hit hqn hl))
        go_wp2_with fail
        go_ret
        exact ⟨by rw [unhide HN]; rfl, (unhide HB0).trans ((((unhide HB).alloc (by omega) _).trans (hb1.mono (by simp; omega))).mono (unhide HB0).size)⟩
    · have HN := hide ((unhide HAT).trans (atF_end hqn))
      have hqe : q = t.n := by omega
      subst hqe
      clear hb hat hqn
      go_wp2_with fail
      go_ret
      exact ⟨by rw [unhide HN]; rfl, (unhide HB0).trans ((unhide HB).mono (unhide HB0).size)⟩
end Go.Proofs.YtnjgebncghdajaaGreatDoor
namespace Go.Proofs.YtnjgebncghdajaaGreatDoor
open Go.RowKit
set_option linter.unusedVariables false
attribute [local go_sem] run_store_float run_equalIn_float

abbrev FdV (b : Bool) (p : Pr) : Value := .agg #[.bool b, .int .i64 p.key.kind, .int .i64 p.key.num, .float .f64 p.key.flt, .string p.key.str, .int .i64 p.key.ref, .int .i64 p.val.kind, .int .i64 p.val.num, .float .f64 p.val.flt, .string p.val.str, .int .i64 p.val.ref, .int .i64 p.turn]

set_option maxRecDepth 100000 in
set_option maxHeartbeats 4000000 in
theorem l1aft_any (a : Option Addr) (cp : Nat) (t : Pl) (m : Int) (w : World) (hP : PAt w a t.n t.P) (hn : t.n ≤ 500) (hm : 0 ≤ m) :
    Calls Tryz.prog 48 #[.slice a t.n cp, .int .i64 m] w fun e w' => e = .returned (FdV (decide (0 ≤ t.nextI m)) (t.next m)) ∧ Below w.heap.size w w' := by
  have HP := hide hP
  clear hP
  go_enter Tryz.func48, Tryz.ntmps48
  go_wp2
  go_loopw [9] (fun i wr => ∃ k : Nat, k ≤ t.n ∧ i = .int .i64 k ∧ t.nextI m = atF (fun j => decide (m < (t.P j).turn)) (t.n - k) k ∧ w.heap.size < wr.heap.size ∧ (∀ o, o < 12 → wr.cell? ⟨w.heap.size, o, none⟩ = (w.alloc (.cells #[.bool false, .int .i64 0, .int .i64 0, .float .f64 0, .string ⟨#[]⟩, .int .i64 0, .int .i64 0, .int .i64 0, .float .f64 0, .string ⟨#[]⟩, .int .i64 0, .int .i64 0] 97)).cell? ⟨w.heap.size, o, none⟩) ∧ (∀ o, wr.frozen? ⟨w.heap.size, o, none⟩ = false) ∧ Below w.heap.size w wr) (fun i _ => t.n - (intOf i).toNat)
  case atStart => exact ⟨0, by omega, rfl, rfl, by simp, fun o _ => rfl, fun o => by simp [go_sem], (Below.refl _ _).alloc (Nat.le_refl _) _⟩
  case round =>
    obtain ⟨k, hk, rfl, hat, hz, hcl, hfr, hb⟩ := hrel
    have HAT := hide hat
    have HCL := hide hcl
    have r0 := (hcl 0 (by omega)).trans (by simp [go_sem] : _ = some (.bool false))
    have r1 := (hcl 1 (by omega)).trans (by simp [go_sem] : _ = some (.int .i64 0))
    have r2 := (hcl 2 (by omega)).trans (by simp [go_sem] : _ = some (.int .i64 0))
    have r3 := (hcl 3 (by omega)).trans (by simp [go_sem] : _ = some (.float .f64 0))
    have r4 := (hcl 4 (by omega)).trans (by simp [go_sem] : _ = some (.string ⟨#[]⟩))
    have r5 := (hcl 5 (by omega)).trans (by simp [go_sem] : _ = some (.int .i64 0))
    have r6 := (hcl 6 (by omega)).trans (by simp [go_sem] : _ = some (.int .i64 0))
    have r7 := (hcl 7 (by omega)).trans (by simp [go_sem] : _ = some (.int .i64 0))
    have r8 := (hcl 8 (by omega)).trans (by simp [go_sem] : _ = some (.float .f64 0))
    have r9 := (hcl 9 (by omega)).trans (by simp [go_sem] : _ = some (.string ⟨#[]⟩))
    have r10 := (hcl 10 (by omega)).trans (by simp [go_sem] : _ = some (.int .i64 0))
    have r11 := (hcl 11 (by omega)).trans (by simp [go_sem] : _ = some (.int .i64 0))
    clear hat hcl
    by_cases hkn : k < t.n
    · obtain ⟨b, off, rfl, hbl, hcs⟩ := (unhide HP).resolve_left (by omega)
      obtain ⟨e0, e1, e2, e3, e4, e5, e6, e7, e8, e9, e10⟩ := (hcs k hkn).keep (fun q => hb.cell (p := ⟨b, q, none⟩) hbl)
      have HB := hide hb
      clear hcs hb
      by_cases hp : 0 < (t.P k).turn
      · by_cases ht : m < (t.P k).turn
        · have HR : Hid (FdV (decide (0 ≤ t.nextI m)) (t.next m) = FdV true (t.P k)) := hide (by
            have h : t.nextI m = k := (unhide HAT).trans (atF_hit hkn (by simp [ht]))
            unfold Pl.next
            rw [h, if_neg (by omega)]
            simp)
          go_wp2
          refine bodyPost_ret (v := FdV true (t.P k)) (by simp [results, Tryz.results48, go_sem, hz, r0, r1, r2, r3, r4, r5, r6, r7, r8, r9, r10, r11]) rfl ⟨by rw [unhide HR], ?_⟩
          refine Below.alloc ?_ (by have := (unhide HB).size; simpa using this) _
          iterate 12 (refine Below.setCell ?_ (by exact Nat.le_refl _) _)
          exact unhide HB
        · have HN := hide ((unhide HAT).trans (atF_miss hkn (by simp; omega)))
          go_wp2
          go_roundw
          case rel => exact ⟨k + 1, by omega, by go_num, unhide HN, by simp; omega, fun o ho => (World.cell?_alloc_lt _ _ _ (by exact hz)).trans (unhide HCL o ho), fun o => (((Below.refl wr.heap.size wr).alloc (Nat.le_refl _) _).frozen (p := ⟨w.heap.size, o, none⟩) hz).trans (hfr o), (unhide HB).alloc (unhide HB).size _⟩
          case measure => simp [intOf]; omega
      · have HN := hide ((unhide HAT).trans (atF_miss hkn (by simp; omega)))
        go_wp2
        go_roundw
        case rel => exact ⟨k + 1, by omega, by go_num, unhide HN, by simp; omega, fun o ho => (World.cell?_alloc_lt _ _ _ (by exact hz)).trans (unhide HCL o ho), fun o => (((Below.refl wr.heap.size wr).alloc (Nat.le_refl _) _).frozen (p := ⟨w.heap.size, o, none⟩) hz).trans (hfr o), (unhide HB).alloc (unhide HB).size _⟩
        case measure => simp [intOf]; omega
    · have HR : Hid (FdV (decide (0 ≤ t.nextI m)) (t.next m) = FdV false ⟨nov, nov, 0⟩) := hide (by
        have h : t.nextI m = -1 := (unhide HAT).trans (atF_end hkn)
        unfold Pl.next
        rw [h, if_pos (by omega)]
        simp)
      have hke : k = t.n := by omega
      subst hke
      have HB := hide hb
      clear hb hkn
      go_wp2
      refine bodyPost_ret (v := FdV false ⟨nov, nov, 0⟩) (by simp [results, Tryz.results48, go_sem, r0, r1, r2, r3, r4, r5, r6, r7, r8, r9, r10, r11]) rfl ⟨by rw [unhide HR], ?_⟩
      iterate 12 (refine Below.setCell ?_ (by exact Nat.le_refl _) _)
      exact unhide HB

theorem Pl.has_iff (t : Pl) (m : Int) : t.has m = true ↔ ∃ j, j < t.n ∧ ((t.P j).key.kind = 2 ∧ (t.P j).key.num = m) := by
  unfold Pl.has
  constructor
  · intro h
    have h := of_decide_eq_true h
    rcases at1_rng (fun j => (t.P j).key.kind == 2 && (t.P j).key.num == m) t.n with e | ⟨j, e, h1, h2⟩
    · omega
    · exact ⟨j, h1, by simpa using h2⟩
  · rintro ⟨j, h1, h2, h3⟩
    apply decide_eq_true
    rcases at1_rng (fun j => (t.P j).key.kind == 2 && (t.P j).key.num == m) t.n with e | ⟨i, e, _, _⟩
    · have := atF_none e j (Nat.zero_le _) (by omega)
      simp [h2, h3] at this
    · omega

abbrev ActBx (a : Ac) : Array Value := #[.int .i64 a.op, .int .i64 a.t, .int .i64 a.site, .int .i64 a.n, .int .i64 a.k.kind, .int .i64 a.k.num, .float .f64 a.k.flt, .string a.k.str, .int .i64 a.k.ref, .int .i64 a.v.kind, .int .i64 a.v.num, .float .f64 a.v.flt, .string a.v.str, .int .i64 a.v.ref]
abbrev An0 : Array Value := #[.int .i64 0, .int .i64 0, .int .i64 0, .int .i64 0, .float .f64 0, .string ⟨#[]⟩, .int .i64 0, .int .i64 0, .int .i64 0, .float .f64 0, .string ⟨#[]⟩, .int .i64 0]
end Go.Proofs.YtnjgebncghdajaaGreatDoor
namespace Go.Proofs.YtnjgebncghdajaaGreatDoor
open Go.RowKit
set_option linter.unusedVariables false
attribute [local go_sem] run_store_float run_equalIn_float

/-- What a table answers that is asked. -/
def Pl.ask (t : Pl) (a : Ac) : An :=
  if a.op = 4 then ⟨0, (t.next a.n).turn, (t.next a.n).key, (t.next a.n).val⟩
  else if a.op = 6 then ansN t.n else ansN t.len

theorem below_set12 {B : Nat} {a w : World} (h : Below B a w) (b : Nat) (hb : B ≤ b) (v0 v1 v2 v3 v4 v5 v6 v7 v8 v9 v10 v11 : Value) :
    Below B a ((((((((((((w.setCell ⟨b, 0, none⟩ v0).setCell ⟨b, 1, none⟩ v1).setCell ⟨b, 2, none⟩ v2).setCell ⟨b, 3, none⟩ v3).setCell ⟨b, 4, none⟩ v4).setCell ⟨b, 5, none⟩ v5).setCell ⟨b, 6, none⟩ v6).setCell ⟨b, 7, none⟩ v7).setCell ⟨b, 8, none⟩ v8).setCell ⟨b, 9, none⟩ v9).setCell ⟨b, 10, none⟩ v10).setCell ⟨b, 11, none⟩ v11) := by
  iterate 12 (refine Below.setCell ?_ (by exact hb) _)
  exact h

set_option maxRecDepth 100000 in
set_option maxHeartbeats 8000000 in
theorem l4ask_any (la : Option Addr) (cp : Nat) (t : Pl) (a : Ac) (w : World) (hP : PAt w la t.n t.P) (hn : t.n ≤ 500) (hm : 0 ≤ a.n) :
    Calls Tryz.prog 33 #[.slice la t.n cp, AcV a] w fun e w' => e = .returned (AnV (t.ask a)) ∧ Below w.heap.size w w' := by
  obtain ⟨W, hW⟩ : ∃ W, W = (w.alloc (.cells (ActBx a) 48)).alloc (.cells An0 50) := ⟨_, rfl⟩
  have hb0 : Below w.heap.size w W := by rw [hW]; exact ((Below.refl _ _).alloc (Nat.le_refl _) _).alloc (by simp) _
  have hz : w.heap.size + 1 < W.heap.size := by rw [hW]; simp
  have c0 : W.cell? ⟨w.heap.size, 0, none⟩ = some (.int .i64 a.op) := by rw [hW]; simp [go_sem]
  have c3 : W.cell? ⟨w.heap.size, 3, none⟩ = some (.int .i64 a.n) := by rw [hW]; simp [go_sem]
  have hA : ∀ j u, An0.toList[j]? = some u → W.cell? ⟨w.heap.size + 1, j, none⟩ = some u := fun j u h => by
    rw [hW, World.cell?_alloc_at _ _ _ _ (by simp)]; simpa using h
  have hF : ∀ q, W.frozen? ⟨w.heap.size + 1, q, none⟩ = false := fun q => by rw [hW]; simp [go_sem]
  have HP := hide (hP.below hb0 rfl)
  have HB0 := hide hb0
  have HA := hide hA
  have HF := hide hF
  have AN : ∀ {w' : World}, Below W.heap.size W w' → (∀ j u, An0.toList[j]? = some u → w'.cell? ⟨w.heap.size + 1, j, none⟩ = some u) ∧ (∀ q, w'.frozen? ⟨w.heap.size + 1, q, none⟩ = false) := fun {w'} hb => ⟨fun j u h => (hb.cell (p := ⟨w.heap.size + 1, j, none⟩) hz).trans (unhide HA j u h), fun q => (hb.frozen (p := ⟨w.heap.size + 1, q, none⟩) hz).trans (unhide HF q)⟩
  have HAN : Hid (∀ w' : World, Below W.heap.size W w' → (∀ j u, An0.toList[j]? = some u → w'.cell? ⟨w.heap.size + 1, j, none⟩ = some u) ∧ (∀ q, w'.frozen? ⟨w.heap.size + 1, q, none⟩ = false)) := hide (fun w' => AN)
  clear hP hb0 hA hF AN
  by_cases h4 : a.op = 4
  · have HR : Hid (t.ask a = ⟨0, (t.next a.n).turn, (t.next a.n).key, (t.next a.n).val⟩) := hide (by unfold Pl.ask; rw [if_pos h4])
    have d4 : (a.op == 4) = true := by simp [h4]
    clear h4
    go_enter Tryz.func33, Tryz.ntmps33
    go_wp2_with fail
    rw [← hW]
    clear hW
    go_wp2_with fail
    refine (l1aft_any la cp t a.n _ (unhide HP) hn hm).mono ?_
    rintro e w1 ⟨rfl, hb1⟩
    generalize t.next a.n = x at *
    obtain ⟨g1, g2⟩ := unhide HAN _ hb1
    have r0 := g1 0 _ rfl; have r1 := g1 1 _ rfl; have r2 := g1 2 _ rfl; have r3 := g1 3 _ rfl; have r4 := g1 4 _ rfl; have r5 := g1 5 _ rfl
    have r6 := g1 6 _ rfl; have r7 := g1 7 _ rfl; have r8 := g1 8 _ rfl; have r9 := g1 9 _ rfl; have r10 := g1 10 _ rfl; have r11 := g1 11 _ rfl
    have hz1 : w.heap.size + 1 < w1.heap.size := Nat.lt_of_lt_of_le hz hb1.size
    have HB1 := hide ((unhide HB0).trans (hb1.mono (unhide HB0).size))
    have G2 := g2
    clear hb1 g1 c0 c3
    go_wp2_with fail
    refine bodyPost_ret (v := AnV ⟨0, x.turn, x.key, x.val⟩) (by simp [results, Tryz.results33, go_sem, hz1, r0, r1, r2, r3, r4, r5, r6, r7, r8, r9, r10, r11]) rfl ⟨by rw [unhide HR], ?_⟩
    refine Below.alloc ?_ (by have := (unhide HB1).size; simpa using this) _
    exact below_set12 (unhide HB1) _ (by omega) _ _ _ _ _ _ _ _ _ _ _ _
  by_cases h6 : a.op = 6
  · have HR : Hid (t.ask a = ansN t.n) := hide (by unfold Pl.ask; rw [if_neg h4, if_pos h6])
    have d4 : (a.op == 4) = false := by simp [h4]
    have d6 : (a.op == 6) = true := by simp [h6]
    clear h4 h6
    go_enter Tryz.func33, Tryz.ntmps33
    go_wp2_with fail
    refine bodyPost_ret (v := AnV (ansN t.n)) (by simp [results, Tryz.results33, go_sem, ansN]) rfl ⟨by rw [unhide HR], ?_⟩
    exact ((Below.refl _ _).alloc (Nat.le_refl _) _).alloc (by simp) _
  have HR : Hid (t.ask a = ansN t.len) := hide (by unfold Pl.ask; rw [if_neg h4, if_neg h6])
  have d4 : (a.op == 4) = false := by simp [h4]
  have d6 : (a.op == 6) = false := by simp [h6]
  clear h4 h6
  go_enter Tryz.func33, Tryz.ntmps33
  go_wp2_with fail
  rw [← hW]
  clear hW
  go_wp2_with fail
  clear c0 c3
  go_loopw [6] (fun i wr => ∃ m : Nat, (∀ j, j < m → t.has ((j : Int) + 1) = true) ∧ i = .int .i64 m ∧ Below W.heap.size W wr) (fun i _ => 501 - (intOf i).toNat)
  case atStart => exact ⟨0, fun j hj => absurd hj (Nat.not_lt_zero _), rfl, Below.refl _ _⟩
  case round =>
    obtain ⟨m, hm', rfl, hb⟩ := hrel
    have hmn := Pl.has_le hm'
    have hsz := hb.size
    have HB := hide hb
    have HM := hide hm'
    clear hb hm'
    go_wp2_with fail
    go_loopw [7, 35] (fun b i wq => ∃ (mb : Bool) (q : Nat), q ≤ t.n ∧ b = .bool mb ∧ i = .int .i64 q ∧ (mb = true ↔ ∃ j, j < q ∧ ((t.P j).key.kind = 2 ∧ (t.P j).key.num = (m : Int) + 1)) ∧ Below W.heap.size W wq) (fun _ i _ => t.n - (intOf i).toNat)
    case atStart => exact ⟨false, 0, Nat.zero_le _, rfl, rfl, ⟨fun h => by (cases h), fun ⟨j, h, _⟩ => absurd h (Nat.not_lt_zero _)⟩, unhide HB⟩
    case round =>
      obtain ⟨mb, q, hq, rfl, rfl, hmb, hbq⟩ := hrel
      have hszq := hbq.size
      have HBQ := hide hbq
      have HMB := hide hmb
      by_cases hqn : q < t.n
      · obtain ⟨b, off, rfl, hbl, hcs⟩ := (unhide HP).resolve_left (by omega)
        obtain ⟨e0, e1, e2, e3, e4, e5, e6, e7, e8, e9, e10⟩ := (hcs q hqn).keep (fun j => hbq.cell (p := ⟨b, j, none⟩) hbl)
        clear hcs hbq hmb
        have HS : ∀ x : Bool, (x = true ↔ mb = true ∨ ((t.P q).key.kind = 2 ∧ (t.P q).key.num = (m : Int) + 1)) → (x = true ↔ ∃ j, j < q + 1 ∧ ((t.P j).key.kind = 2 ∧ (t.P j).key.num = (m : Int) + 1)) := fun x hx => hx.trans ((or_congr (unhide HMB) Iff.rfl).trans ⟨fun h => h.elim (fun ⟨j, h1, h2⟩ => ⟨j, by omega, h2⟩) (fun h => ⟨q, by omega, h⟩), fun ⟨j, h1, h2⟩ => by
          rcases (by omega : j < q ∨ j = q) with h | rfl
          · exact .inl ⟨j, h, h2⟩
          · exact .inr h2⟩)
        have HSS := hide HS
        clear HS
        cases mb
        · by_cases hk : (t.P q).key.kind = 2
          · by_cases hv : (t.P q).key.num = (m : Int) + 1
            · have HE := hide (unhide HSS true (by simp [hk, hv]))
              have d1 : ((t.P q).key.kind == 2) = true := by simp [hk]
              have d2 : ((t.P q).key.num == (m : Int) + 1) = true := by simp [hv]
              clear hk hv
              go_wp2_with fail
              go_roundw
              case rel => exact ⟨true, q + 1, by omega, rfl, by go_num, unhide HE, (unhide HBQ).alloc hszq _⟩
              case measure => simp [intOf]; omega
            · have HE := hide (unhide HSS false (by simp [hk, hv]))
              have d1 : ((t.P q).key.kind == 2) = true := by simp [hk]
              have d2 : ((t.P q).key.num == (m : Int) + 1) = false := by simp [hv]
              clear hk hv
              go_wp2_with fail
              go_roundw
              case rel => exact ⟨false, q + 1, by omega, rfl, by go_num, unhide HE, (unhide HBQ).alloc hszq _⟩
              case measure => simp [intOf]; omega
          · have HE := hide (unhide HSS false (by simp [hk]))
            have d1 : ((t.P q).key.kind == 2) = false := by simp [hk]
            clear hk
            go_wp2_with fail
            go_roundw
            case rel => exact ⟨false, q + 1, by omega, rfl, by go_num, unhide HE, (unhide HBQ).alloc hszq _⟩
            case measure => simp [intOf]; omega
        · have HE := hide (unhide HSS true (by simp))
          go_wp2_with fail
          go_roundw
          case rel => exact ⟨true, q + 1, by omega, rfl, by go_num, unhide HE, (unhide HBQ).alloc hszq _⟩
          case measure => simp [intOf]; omega
      · have hqe : q = t.n := by omega
        subst hqe
        have hh : mb = t.has ((m : Int) + 1) := by
          rw [Bool.eq_iff_iff, hmb, Pl.has_iff]
        clear hmb hqn
        obtain ⟨g1, g2⟩ := unhide HAN _ hbq
        have r0 := g1 0 _ rfl; have r1 := g1 1 _ rfl; have r2 := g1 2 _ rfl; have r3 := g1 3 _ rfl; have r4 := g1 4 _ rfl; have r5 := g1 5 _ rfl
        have r6 := g1 6 _ rfl; have r7 := g1 7 _ rfl; have r8 := g1 8 _ rfl; have r9 := g1 9 _ rfl; have r10 := g1 10 _ rfl; have r11 := g1 11 _ rfl
        have hz1 : w.heap.size + 1 < wr.heap.size := Nat.lt_of_lt_of_le hz hszq
        clear g1 hbq
        cases mb
        · have HL := hide (Pl.len_is (unhide HM) hh.symm)
          clear hh
          go_wp2_with fail
          refine bodyPost_ret (v := AnV (ansN m)) (by simp [results, Tryz.results33, go_sem, r0, r1, r2, r3, r4, r5, r6, r7, r8, r9, r10, r11, ansN]) rfl ⟨by rw [unhide HR, unhide HL], ?_⟩
          exact below_set12 ((unhide HB0).trans ((unhide HBQ).mono (unhide HB0).size)) _ (by omega) _ _ _ _ _ _ _ _ _ _ _ _
        · have HM2 : Hid (∀ j, j < m + 1 → t.has ((j : Int) + 1) = true) := hide (fun j hj => by
            rcases (by omega : j < m ∨ j = m) with h | rfl
            · exact unhide HM j h
            · exact hh.symm)
          have hm2 := Pl.has_le (unhide HM2)
          clear hh
          go_wp2_with fail
          go_roundw
          case rel => exact ⟨m + 1, unhide HM2, by go_num, unhide HBQ⟩
          case measure => simp [intOf]; omega
end Go.Proofs.YtnjgebncghdajaaGreatDoor
