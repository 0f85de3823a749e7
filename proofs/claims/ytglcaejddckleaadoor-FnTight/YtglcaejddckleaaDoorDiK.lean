/-
  Dicts: the living entries gone through.
-/
import Derived.Test.YtglcaejddckleaaDoorDiI
namespace Go.Proofs.YtglcaejddckleaaDoor
open Go.RowKit Go.Shelf
set_option linter.unusedVariables false
attribute [local go_sem] run_store_float run_equalIn_float Oper.semAt_some

/-- The living entries. -/
abbrev Liv (d : Dc) : Type := {i : Nat // i < d.n ∧ (d.L i).turn ≠ 0}
def livL (d : Dc) (k : Nat) : List Nat := (List.range k).filter (fun i => (d.L i).turn != 0)
def LvAll (d : Dc) (xs : List (Liv d)) : Prop := xs.map (·.1) = livL d d.n
def LvPre (d : Dc) (xs : List (Liv d)) : Prop := xs.map (·.1) <+: livL d d.n
def LvTo (d : Dc) (k : Nat) (xs : List (Liv d)) : Prop := xs.map (·.1) = livL d k
theorem livL_dead {d : Dc} {k : Nat} (h : (d.L k).turn = 0) : livL d (k + 1) = livL d k := by
  unfold livL
  rw [List.range_succ, List.filter_append]
  simp [h]
theorem livL_live {d : Dc} {k : Nat} (h : (d.L k).turn ≠ 0) : livL d (k + 1) = livL d k ++ [k] := by
  unfold livL
  rw [List.range_succ, List.filter_append]
  simp [h]
theorem livL_le (d : Dc) (k : Nat) : (livL d k).length ≤ k := by
  unfold livL
  have := List.length_filter_le (fun i => (d.L i).turn != 0) (List.range k)
  simpa using this
theorem livL_prefix {d : Dc} {k n : Nat} (h : k ≤ n) : livL d k <+: livL d n := by
  obtain ⟨j, rfl⟩ : ∃ j, n = k + j := ⟨n - k, by omega⟩
  induction j with
  | zero => exact List.prefix_refl _
  | succ j ih =>
    refine (ih (by omega)).trans ?_
    by_cases e : (d.L (k + j)).turn = 0
    · rw [show k + (j + 1) = k + j + 1 by omega, livL_dead e]; exact List.prefix_refl _
    · rw [show k + (j + 1) = k + j + 1 by omega, livL_live e]; exact List.prefix_append _ _
theorem LvTo.pre {d : Dc} {k : Nat} {xs : List (Liv d)} (h : LvTo d k xs) (hk : k ≤ d.n) : LvPre d xs := by
  unfold LvTo at h
  unfold LvPre
  rw [h]
  exact livL_prefix hk
theorem mem_livL {d : Dc} {k i : Nat} : i ∈ livL d k ↔ i < k ∧ (d.L i).turn ≠ 0 := by
  unfold livL
  simp [List.mem_filter]

set_option maxHeartbeats 1000000 in
theorem living_any (bk : Nat) (w : World) :
    Calls Tryd.prog 22 #[.pointer (some ⟨bk, 0, none⟩)] w fun e w' => e = .returned (.func (.func 36) #[] #[.pointer (some ⟨w.heap.size, 0, none⟩)]) ∧ w' = w.alloc (.cells #[.pointer (some ⟨bk, 0, none⟩)] 42) := by
  go_enter Tryd.func22, Tryd.ntmps22
  go_wp2
  go_ret
  exact ⟨rfl, rfl⟩

set_option maxRecDepth 100000 in
set_option maxHeartbeats 2000000 in
theorem living_stops (n : Nat) (hn : 1 ≤ n) (bk R0 R1 R2 mb n0 : Nat) (E S : Nat → Nat) (d : Dc) (w : World) (hB : Book w bk R0 R1 R2 E S d) (hS : Small d) (hR : R0 < n0) (hE : ∀ i, i < d.n → E i < n0)
    (m0 : w.cell? ⟨mb, 0, none⟩ = some (.pointer (some ⟨bk, 0, none⟩))) :
    SeqStopsK Fence.wide n Tryd.prog 36 #[.pointer (some ⟨mb, 0, none⟩)] (fun a : Liv d => #[.pointer (some ⟨E a.1, 0, none⟩)]) (Below n0)
      (LvAll d) (LvPre d) d.n w := fun l J Jx W hW hJ hJx hY h0 => by
  have lm := World.block_lt_of_cell? _ _ m0
  have m0 := (hW.cell (p := ⟨mb, 0, none⟩) lm).trans m0
  have hBk := hB.below hW
  obtain ⟨a0, k0, c0, ha0⟩ := hBk.c0
  have HA0 := hide ha0
  clear ha0
  have lb := hBk.lt
  have hnn := hS.n
  have HY := hide hY
  have H0 := hide h0
  have HBk := hide hBk
  have HE := hide hE
  clear hJx hJ hY hW h0 hBk hB hS hE
  refine callsIn_of_wp Tryd.func36 rfl trivial ?_ rfl
  simp only [Tryd.ntmps36, List.size_toArray, List.length_cons, List.length_nil, Nat.reduceAdd, Nat.reduceSub, Array.replicate_succ, Array.replicate_zero, List.push_toArray, List.append_toArray, List.nil_append, List.cons_append]
  gi_wp2
  gi_loopw [10] (fun i wr => ∃ (k : Nat) (pre : List (Liv d)), k ≤ d.n ∧ i = .int .i64 (k : Int) ∧ LvTo d k pre ∧ J pre wr ∧ Below n0 W wr) (fun i _ => d.n - (intOf i).toNat)
  case atStart => exact ⟨0, [], by omega, rfl, rfl, unhide H0, Below.refl _ _⟩
  case round =>
    obtain ⟨k, pre, hk, rfl, hlv, hJp, hbw⟩ := hrel
    by_cases hkn : k < d.n
    · obtain rfl := unhide HA0 (by omega)
      have p0 := (hbw.cell (p := ⟨R0, k, none⟩) hR).trans ((unhide HBk).r0 k hkn)
      have t0 := (hbw.cell (p := ⟨E k, 10, none⟩) (unhide HE k hkn)).trans ((unhide HBk).ent k hkn).tn
      have HLV := hide hlv
      have HBW := hide hbw
      clear hlv hbw
      by_cases ht : (d.L k).turn = 0
      · have HN : Hid (LvTo d (k + 1) pre) := hide (by unfold LvTo; rw [livL_dead ht]; exact unhide HLV)
        rw [ht] at t0
        clear ht
        gi_wp2
        refine ⟨fun _ h => (by cases h), ?_⟩
        gi_wp2
        go_roundw
        case rel => exact ⟨k + 1, pre, by omega, by go_num, unhide HN, hJp, unhide HBW⟩
        case measure => simp [intOf]; omega
      · have ht' : ((d.L k).turn != 0) = true := by simp [ht]
        obtain ⟨fn, tmps, assign, body, hy, hRR⟩ := unhide HY pre ⟨k, hkn, ht⟩ wr hJp (by
          have h1 : (pre.map (·.1)).length = (livL d k).length := congrArg List.length (unhide HLV)
          rw [List.length_map] at h1
          have := livL_le d k
          omega)
        have HN : Hid (LvTo d (k + 1) (pre ++ [⟨k, hkn, ht⟩])) := hide (by
          unfold LvTo
          rw [livL_live ht, List.map_append, show pre.map (·.1) = livL d k from unhide HLV]
          rfl)
        have HR := hide hRR
        clear hRR hJp
        dsimp only at hy
        gi_wp2
        refine (unhide HR).mono ?_
        rintro e W3 (⟨rfl, hJ3, hk3⟩ | ⟨rfl, hJx3⟩)
        · clear HR hy
          gi_wp2
          go_roundw
          case rel => exact ⟨k + 1, _, by omega, by go_num, unhide HN, hJ3, (unhide HBW).trans hk3⟩
          case measure => simp [intOf]; omega
        · clear HR hy
          gi_wp2
          refine bodyPost_ret (results_none rfl _ _ _) rfl ?_
          exact ⟨⟨_, rfl⟩, .inr ⟨_, (unhide HN).pre (by omega), hJx3⟩⟩
    · have hkn' : k = d.n := by omega
      subst hkn'
      have HS := hide hlv
      clear hlv
      gi_wp2
      go_end0
      exact ⟨⟨_, rfl⟩, .inl ⟨pre, unhide HS, hJp⟩⟩
end Go.Proofs.YtglcaejddckleaaDoor
