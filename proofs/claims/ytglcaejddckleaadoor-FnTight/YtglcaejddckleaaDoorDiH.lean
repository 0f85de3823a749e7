/-
  Dicts: the slots gone through from a key's own on.
-/
import Derived.Test.YtglcaejddckleaaDoorDiG
namespace Go.Proofs.YtglcaejddckleaaDoor
open Go.RowKit Go.Shelf
set_option linter.unusedVariables false
attribute [local go_sem] run_store_float run_equalIn_float Oper.semAt_some

/-- The program's hash of a value. -/
structure HsI (T : World → Prop) (v : Vl) (h : Nat) : Prop where
  lt : h < 18446744073709551616
  call : ∀ w : World, T w → Calls Tryd.prog 26 #[V v.kind v.num v.flt v.str v.ref] w fun e w' => e = .returned (.int .u64 (h : Int)) ∧ Below w.heap.size w w'
/-- What the hashes stand on lasts. -/
def Lasts (T : World → Prop) : Prop := ∀ w w', T w → Below w.heap.size w w' → T w'

def seqL (x a0 f : Nat) : List Nat := (List.range f).map (fun j => (a0 + j) % x)
theorem seqL_succ (x a0 f : Nat) : seqL x a0 (f + 1) = seqL x a0 f ++ [(a0 + f) % x] := by
  unfold seqL
  rw [List.range_succ]
  simp
theorem seqL_length (x a0 f : Nat) : (seqL x a0 f).length = f := by simp [seqL]
theorem seqL_prefix {x a0 f g : Nat} (h : f ≤ g) : seqL x a0 f <+: seqL x a0 g := by
  obtain ⟨k, rfl⟩ : ∃ k, g = f + k := ⟨g - f, by omega⟩
  induction k with
  | zero => exact List.prefix_refl _
  | succ k ih =>
    rw [show f + (k + 1) = (f + k) + 1 by omega, seqL_succ]
    exact (ih (by omega)).trans (List.prefix_append _ _)

set_option maxHeartbeats 1000000 in
theorem from_any (p : Option Addr) (v : Vl) (w : World) :
    Calls Tryd.prog 57 #[.pointer p, V v.kind v.num v.flt v.str v.ref] w fun e w' => e = .returned (.func (.func 68) #[] #[.pointer (some ⟨w.heap.size, 0, none⟩), .pointer (some ⟨w.heap.size + 1, 0, none⟩)]) ∧ w' = (w.alloc (.cells #[.pointer p] 96)).alloc (.cells #[.int .i64 v.kind, .int .i64 v.num, .float .f64 v.flt, .string v.str, .int .i64 v.ref] 32) := by
  go_enter Tryd.func57, Tryd.ntmps57
  go_wp2
  go_ret
  exact ⟨rfl, rfl⟩

theorem grown_of_below {w w' : World} (h : Below w.heap.size w w') : w.grownBy w' none := ⟨h.os, h.tape, h.output, h.size, fun k hk _ => h.block k hk⟩

/-- All slots have come; some have. -/
def SqAll (d : Dc) (h : Nat) (xs : List {a : Nat // a < d.x}) : Prop := xs.map (·.1) = seqL d.x (h % d.x) d.x
def SqPre (d : Dc) (h : Nat) (xs : List {a : Nat // a < d.x}) : Prop := xs.map (·.1) <+: seqL d.x (h % d.x) d.x
def SqTo (d : Dc) (h j : Nat) (xs : List {a : Nat // a < d.x}) : Prop := xs.map (·.1) = seqL d.x (h % d.x) j
theorem SqTo.len {d : Dc} {h j : Nat} {xs : List {a : Nat // a < d.x}} (e : SqTo d h j xs) : xs.length = j := by
  have := congrArg List.length e
  rwa [List.length_map, seqL_length] at this
theorem SqTo.snoc {d : Dc} {h j : Nat} {xs : List {a : Nat // a < d.x}} (e : SqTo d h j xs) (hx : (h % d.x + j) % d.x < d.x) : SqTo d h (j + 1) (xs ++ [⟨(h % d.x + j) % d.x, hx⟩]) := by
  unfold SqTo at *
  rw [List.map_append, e, seqL_succ]
  rfl
theorem SqTo.pre {d : Dc} {h j : Nat} {xs : List {a : Nat // a < d.x}} (e : SqTo d h j xs) (hj : j ≤ d.x) : SqPre d h xs := by
  unfold SqTo at e
  unfold SqPre
  rw [e]
  exact seqL_prefix hj

set_option maxRecDepth 100000 in
set_option maxHeartbeats 2000000 in
theorem from_stops (n : Nat) (hn : 1 ≤ n) (T : World → Prop) (hTl : Lasts T) (bk R2 mb kb : Nat) (d : Dc) (v : Vl) (h n0 : Nat) (hh : HsI T v h) (w : World) (hT : T w) (hx : d.x ≤ 4194304)
    (m0 : w.cell? ⟨mb, 0, none⟩ = some (.pointer (some ⟨bk, 2, none⟩))) (c2 : w.cell? ⟨bk, 2, none⟩ = some hashF) (c3 : w.cell? ⟨bk, 3, none⟩ = some (.slice (some ⟨R2, 0, none⟩) d.x d.x))
    (k0 : w.cell? ⟨kb, 0, none⟩ = some (.int .i64 v.kind)) (k1 : w.cell? ⟨kb, 1, none⟩ = some (.int .i64 v.num)) (k2 : w.cell? ⟨kb, 2, none⟩ = some (.float .f64 v.flt)) (k3 : w.cell? ⟨kb, 3, none⟩ = some (.string v.str)) (k4 : w.cell? ⟨kb, 4, none⟩ = some (.int .i64 v.ref)) :
    SeqStopsK Fence.wide n Tryd.prog 68 #[.pointer (some ⟨mb, 0, none⟩), .pointer (some ⟨kb, 0, none⟩)] (fun a : {a : Nat // a < d.x} => #[.int .i64 (a.1 : Int)]) (Below n0)
      (SqAll d h) (SqPre d h) d.x w := fun l J Jx W hW hJ hJx hY h0 => by
  have lm := World.block_lt_of_cell? _ _ m0
  have lb := World.block_lt_of_cell? _ _ c2
  have lk := World.block_lt_of_cell? _ _ k0
  have m0 := (hW.cell (p := ⟨mb, 0, none⟩) lm).trans m0
  have c2 := (hW.cell (p := ⟨bk, 2, none⟩) lb).trans c2
  have c3 := (hW.cell (p := ⟨bk, 3, none⟩) lb).trans c3
  have k0 := (hW.cell (p := ⟨kb, 0, none⟩) lk).trans k0
  have k1 := (hW.cell (p := ⟨kb, 1, none⟩) lk).trans k1
  have k2 := (hW.cell (p := ⟨kb, 2, none⟩) lk).trans k2
  have k3 := (hW.cell (p := ⟨kb, 3, none⟩) lk).trans k3
  have k4 := (hW.cell (p := ⟨kb, 4, none⟩) lk).trans k4
  have lm' : mb < W.heap.size := Nat.lt_of_lt_of_le lm hW.size
  have lb' : bk < W.heap.size := Nat.lt_of_lt_of_le lb hW.size
  have lk' : kb < W.heap.size := Nat.lt_of_lt_of_le lk hW.size
  have HT := hide (hTl _ _ hT hW)
  have HTl := hide hTl
  have HH := hide hh
  have HJ := hide hJ
  have HY := hide hY
  have H0 := hide h0
  clear hJx hJ hY hT hW hTl hh h0
  refine callsIn_of_wp Tryd.func68 rfl trivial ?_ rfl
  simp only [Tryd.ntmps68, List.size_toArray, List.length_cons, List.length_nil, Nat.reduceAdd, Nat.reduceSub, Array.replicate_succ, Array.replicate_zero, List.push_toArray, List.append_toArray, List.nil_append, List.cons_append]
  by_cases hx0 : d.x = 0
  · have hx0' : ((d.x : Int) == 0) = true := by simp [hx0]
    have HX0 := hide hx0
    clear hx0
    gi_wp2
    refine bodyPost_ret (results_none rfl _ _ _) rfl ?_
    exact ⟨⟨_, rfl⟩, .inl ⟨[], by unfold SqAll; rw [unhide HX0]; rfl, unhide H0⟩⟩
  have hx0' : ((d.x : Int) == 0) = false := by simp [hx0]
  have hxp : 0 < d.x := by omega
  gi_wp2
  refine wpIn_wide.2 ?_
  refine wp_region_quiet (C := fun w' => Below W.heap.size W w') (by kernel_rfl) (by kernel_rfl) ((Below.refl _ _).drew) ?_
  show wpQuiet _ _ _ _ [_, _, _, _, _, _, _, _, _] _
  refine wpQuiet_step (fun K hK => ?_)
  go_simp
  apply Exists.intro
  refine And.intro (fun w' hw' => ?_) (hK _ ?_)
  · obtain ⟨hc', hf'⟩ := bcell hw'
    go_simp
    first | rfl | exact ⟨rfl, rfl⟩ | exact ⟨rfl⟩
  clear hK K
  refine wpQuiet_step (fun K hK => ?_)
  go_simp
  refine ⟨_, fun w' hw' => rfl, hK _ ?_⟩
  clear hK K
  refine wpQuiet_step (fun K hK => ?_)
  go_simp
  refine ⟨_, fun w' hw' => rfl, hK _ ?_⟩
  clear hK K
  refine wpQuiet_step (fun K hK => ?_)
  go_simp
  apply Exists.intro
  refine And.intro (fun w' hw' => ?_) (hK _ ?_)
  · obtain ⟨hc', hf'⟩ := bcell hw'
    go_simp
    first | rfl | exact ⟨rfl, rfl⟩ | exact ⟨rfl⟩
  clear hK K
  refine wpQuiet_step (fun K hK => ?_)
  go_simp
  apply Exists.intro
  refine And.intro (fun w' hw' => ?_) (hK _ ?_)
  · obtain ⟨hc', hf'⟩ := bcell hw'
    go_simp
    first | rfl | exact ⟨rfl, rfl⟩ | exact ⟨rfl⟩
  clear hK K
  refine wpQuiet_step (fun K hK => ?_)
  go_simp
  apply Exists.intro
  refine And.intro (fun w' hw' => ?_) (hK _ ?_)
  · refine (((unhide HH).call _ (unhide HTl _ _ (unhide HT) hw'))).mono ?_
    rintro e w'' ⟨rfl, hb⟩
    exact ⟨rfl, hw'.trans (hb.mono hw'.size)⟩
  clear hK K
  obtain ⟨a0, ha0⟩ : ∃ a0, a0 = h % d.x := ⟨_, rfl⟩
  have hr0 : (h : Int).tmod (d.x : Int) = (a0 : Int) := by rw [ha0, Int.tmod_eq_emod_of_nonneg (by omega)]; exact (Int.natCast_emod _ _).symm
  have ha1 : a0 < d.x := by rw [ha0]; exact Nat.mod_lt _ hxp
  have hhl := (unhide HH).lt
  have HA0 := hide ha0
  clear ha0
  refine wpQuiet_step (fun K hK => ?_)
  go_simp
  refine ⟨_, fun w' hw' => rfl, hK _ ?_⟩
  clear hK K
  refine wpQuiet_step (fun K hK => ?_)
  go_simp
  refine ⟨_, fun w' hw' => rfl, hK _ ?_⟩
  clear hK K
  refine wpQuiet_step (fun K hK => ?_)
  go_simp
  refine ⟨_, fun w' hw' => rfl, hK _ ?_⟩
  clear hK K
  refine wpQuiet_nil ?_
  intro w2 hw2
  have HJ2 := hide ((unhide HJ) [] W w2 none (unhide H0) (grown_of_below hw2) (fun r e => by cases e))
  clear hw2 hr0 m0 c2 c3 k0 k1 k2 k3 k4
  gi_wp2
  gi_loopw [24] (fun i wr => ∃ (j : Nat) (pre : List {a : Nat // a < d.x}), j ≤ d.x ∧ i = .int .u64 (j : Int) ∧ SqTo d h j pre ∧ J pre wr) (fun i _ => d.x - (intOf i).toNat)
  case atStart => exact ⟨0, [], by omega, rfl, rfl, unhide HJ2⟩
  case round =>
    clear HJ2
    obtain ⟨j, pre, hj, rfl, hsq, hJp⟩ := hrel
    by_cases hjx : j < d.x
    · obtain ⟨a1, ha⟩ : ∃ a1, a1 = (a0 + j) % d.x := ⟨_, rfl⟩
      have hlt1 : a1 < d.x := by rw [ha]; exact Nat.mod_lt _ hxp
      have hr1 : ((a0 : Int) + (j : Int)).tmod (d.x : Int) = (a1 : Int) := by rw [ha, Int.tmod_eq_emod_of_nonneg (by omega), Int.natCast_emod, Int.natCast_add]
      obtain ⟨fn, tmps, assign, body, hy, hR⟩ := unhide HY pre ⟨a1, hlt1⟩ wr hJp (by rw [hsq.len]; exact hjx)
      have HSN : Hid (SqTo d h (j + 1) (pre ++ [⟨a1, hlt1⟩])) := hide (by
        have := hsq.snoc (by rw [← unhide HA0, ← ha]; exact hlt1)
        simp only [← unhide HA0, ← ha] at this
        exact this)
      have HR := hide hR
      clear hR hsq hJp ha
      dsimp only at hy
      gi_wp2
      refine (unhide HR).mono ?_
      rintro e W3 (⟨rfl, hJ3, hk3⟩ | ⟨rfl, hJx3⟩)
      · clear HR hy
        gi_wp2
        go_roundw
        case rel => exact ⟨j + 1, _, by omega, by go_num, unhide HSN, hJ3⟩
        case measure => simp [intOf]; omega
      · clear HR hy
        gi_wp2
        refine bodyPost_ret (results_none rfl _ _ _) rfl ?_
        exact ⟨⟨_, rfl⟩, .inr ⟨_, (unhide HSN).pre (by omega), hJx3⟩⟩
    · have hjx' : j = d.x := by omega
      subst hjx'
      have HS := hide hsq
      clear hsq
      gi_wp2
      go_end0
      exact ⟨⟨_, rfl⟩, .inl ⟨pre, unhide HS, hJp⟩⟩
end Go.Proofs.YtglcaejddckleaaDoor
